/-
  Proved: the walk of the law FnNumbers: it returns true and changes no memory that was there. On these terms: the library's table and its two errors hold what the program's text lays.
-/
import Derived.Test.YtonfphecbpojhaaDoorCodeArg
import Derived.Test.YtonfphecbpojhaaDoorDrawNum
import Derived.Test.YtonfphecbpojhaaDoorImplParse
import Derived.Test.YtonfphecbpojhaaDoorSpecParse
namespace Go.Proofs.YtonfphecbpojhaaDoor
open Go.RowKit

theorem len_of (n : Int) : (Lib.itoa n).length = (if n < 0 then 1 else 0) + (Lib.decDigits n.natAbs).length := by
  rw [Num.itoa_eq]; split
  · rw [List.length_cons]; omega
  · omega
theorem dec_len_iff (u k : Nat) (hk : 1 ≤ k) : (Lib.decDigits u).length ≤ k ↔ u < 10 ^ k := by
  constructor
  · intro h
    have h1 := Num.decFrom_lt (Lib.decDigits u) 0 0 u (by simp) (Num.decFrom_dec u)
    have h2 : 10 ^ (0 + (Lib.decDigits u).length) ≤ 10 ^ k := Nat.pow_le_pow_right (by omega) (by omega)
    omega
  · exact Num.dec_len k u hk
/-- What ParseInt says of a numeral, by its length. -/
theorem reads_len {n x : Int} {ok : Bool} (h : Num.Reads (-999999999999) 999999999999 (Lib.itoa n) x ok) :
    (ok = true ∧ x = n ∧ (n < 0 → (Lib.itoa n).length ≤ 13) ∧ (¬ n < 0 → (Lib.itoa n).length ≤ 12)) ∨ (ok = false ∧ (n < 0 → 13 < (Lib.itoa n).length) ∧ (¬ n < 0 → 12 < (Lib.itoa n).length)) := by
  have hl := len_of n
  have hd := dec_len_iff n.natAbs 12 (by omega)
  have e12 : (10 : Nat) ^ 12 = 1000000000000 := by decide
  rw [e12] at hd
  rcases h with ⟨rfl, e, a, b⟩ | ⟨rfl, rfl, f⟩
  · have := Num.itoa_inj e
    subst this
    refine Or.inl ⟨rfl, rfl, fun h => ?_, fun h => ?_⟩
    · rw [hl, if_pos h]; have := hd.2 (by omega); omega
    · rw [hl, if_neg h]; have := hd.2 (by omega); omega
  · have hout : ¬ (-999999999999 ≤ n ∧ n ≤ 999999999999) := fun ⟨a, b⟩ => f n a b rfl
    refine Or.inr ⟨rfl, fun h => ?_, fun h => ?_⟩
    · rw [hl, if_pos h]
      by_cases hh : (Lib.decDigits n.natAbs).length ≤ 12
      · have := hd.1 hh; omega
      · omega
    · rw [hl, if_neg h]
      by_cases hh : (Lib.decDigits n.natAbs).length ≤ 12
      · have := hd.1 hh; omega
      · omega
theorem text_eq {t : ByteArray} {l : List UInt8} (h : l = t.data.toList) : t = ⟨l.toArray⟩ := by
  subst h; rfl

set_option maxRecDepth 100000 in
set_option maxHeartbeats 4000000 in
theorem numbersWalk (v : Value) (m : Nat) (w : World) (hc : CodeArg w v m) (hL : Lays w) :
    Calls Tryd.prog 3 #[v] w fun e w' => e = .returned (.bool true) ∧ Below w.heap.size w w' := by
  have HL := Lib.hid hL; clear hL
  obtain ⟨a, cap, rfl, hm, _⟩ := id hc
  have HC := Lib.hid hc; clear hc
  by_cases hs : 1048576 < m
  · go_enter Tryd.func3, Tryd.ntmps3
    go_wp2
    go_ret
    exact ⟨rfl, Below.refl _ _⟩
  · have hs2 : m ≤ 1048576 := by omega
    go_enter Tryd.func3, Tryd.ntmps3
    go_wp2_with (go_at_call 9; go_in)
    refine (drawFormatInt _ m _ (HC.out.code hs2 (Below.refl _ _))).mono ?_
    rintro e w1 ⟨n, rfl, hn0, hn1, hb1⟩
    have B1 := Lib.hid hb1; clear hb1
    go_wp2_with fail
    refine (implFormat n hn0 hn1 _ (HL.out.below B1.out).tab).mono ?_
    rintro e w2 ⟨rfl, hb2⟩
    have B2 := Lib.hid (B1.out.trans (hb2.mono B1.out.size)); clear hb2
    go_wp2_with fail
    refine (implParseInt _ (by have := itoa_small n hn0 hn1; omega) _ (HL.out.below B2.out)).mono ?_
    rintro e w3 ⟨x, ok, rfl, hR, hb3⟩
    have B3 := Lib.hid (B2.out.trans (hb3.mono B2.out.size)); clear hb3
    have HR := Lib.hid (reads_len hR); clear hR
    go_wp2_with fail
    refine (specFormat n hn0 hn1 _).mono ?_
    rintro e w4 ⟨rfl, hb4⟩
    have B4 := Lib.hid (B3.out.trans (hb4.mono B3.out.size)); clear hb4
    have hfin : Hid (Below w.heap.size w w4 ∧ w.heap.size ≤ w4.heap.size) := ⟨B4.out, B4.out.size⟩
    clear hfin
    have hcs : (ok = true ∧ x = n ∧ (Lib.itoa n).length ≤ 12) ∨ (ok = true ∧ x = n ∧ 12 < (Lib.itoa n).length ∧ n < 0 ∧ (Lib.itoa n).length ≤ 13) ∨ (ok = false ∧ n < 0 ∧ 13 < (Lib.itoa n).length) ∨ (ok = false ∧ ¬ n < 0 ∧ 12 < (Lib.itoa n).length) := by
      rcases HR.out with ⟨h1, h2, h3, h4⟩ | ⟨h1, h3, h4⟩ <;> by_cases hneg : n < 0
      · have := h3 hneg
        by_cases h12 : (Lib.itoa n).length ≤ 12
        · exact Or.inl ⟨h1, h2, h12⟩
        · exact Or.inr (Or.inl ⟨h1, h2, by omega, hneg, this⟩)
      · exact Or.inl ⟨h1, h2, h4 (by omega)⟩
      · exact Or.inr (Or.inr (Or.inl ⟨h1, hneg, h3 hneg⟩))
      · exact Or.inr (Or.inr (Or.inr ⟨h1, hneg, h4 (by omega)⟩))
    clear HR
    generalize hL : (Lib.itoa n).length = len at hcs
    rcases hcs with ⟨rfl, rfl, h12⟩ | ⟨rfl, rfl, h12, hneg, h13⟩ | ⟨rfl, hneg, h13⟩ | ⟨rfl, hneg, h12⟩
    case' inl => have d12 : decide ((len : Int) ≤ 12) = true := by simp; omega
    case' inr.inl =>
      have d12 : decide ((len : Int) ≤ 12) = false := by simp; omega
      have d13 : decide ((len : Int) ≤ 13) = true := by simp; omega
    case' inr.inr.inl =>
      have d12 : decide ((len : Int) ≤ 12) = false := by simp; omega
      have d13 : decide ((len : Int) ≤ 13) = false := by simp; omega
    case' inr.inr.inr => have d12 : decide ((len : Int) ≤ 12) = false := by simp; omega
    all_goals
      go_wp2_with fail
      refine (drawParseNumber _ m _ (HC.out.code hs2 B4.out)).mono ?_
      rintro e w5 ⟨t, rfl, ht, hb5⟩
      have B5 := Lib.hid (B4.out.trans (hb5.mono B4.out.size)); clear hb5
      go_wp2_with fail
      refine (implParseNumber t (by omega) _ (HL.out.below B5.out)).mono ?_
      rintro e w6 ⟨y, fine, rfl, hR6, hb6⟩
      have B6 := Lib.hid (B5.out.trans (hb6.mono B5.out.size)); clear hb6
      have R6 := Lib.hid hR6; clear hR6
      go_wp2_with fail
      refine (specParseNumber t (by omega) _).mono ?_
      rintro e w7 ⟨y2, want, rfl, hR7, hb7⟩
      obtain ⟨rfl, rfl⟩ := Num.Reads.unique R6.out hR7
      have B7 := Lib.hid (B6.out.trans (hb7.mono B6.out.size)); clear hb7 hR7
      cases fine
      · go_wp2_with fail
        go_ret
        exact ⟨rfl, B7.out⟩
      · have hy : Lib.itoa y = t.data.toList ∧ 0 ≤ y ∧ y ≤ 999999 := by
          rcases R6.out with ⟨_, e, a, b⟩ | ⟨e, _⟩
          · exact ⟨e, a, b⟩
          · cases e
        obtain ⟨hy, hy0, hy1⟩ := hy
        obtain rfl := text_eq hy
        clear hy
        go_wp2_with fail
        refine (implFormat y (by omega) (by omega) _ (HL.out.below B7.out).tab).mono ?_
        rintro e w8 ⟨rfl, hb8⟩
        have B8 := Lib.hid (B7.out.trans (hb8.mono B7.out.size)); clear hb8
        go_wp2_with fail
        go_ret
        exact ⟨rfl, B8.out⟩
end Go.Proofs.YtonfphecbpojhaaDoor
