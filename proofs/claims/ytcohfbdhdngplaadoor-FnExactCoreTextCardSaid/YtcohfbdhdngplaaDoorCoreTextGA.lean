/-
  Proved: spec.l18Text gives the text of a core expression of the right form; the memory that was there stays as it was.
-/
import Derived.Test.YtcohfbdhdngplaaDoorText
import Derived.Test.YtcohfbdhdngplaaDoorCoreTextGZ
import Derived.Test.YtcohfbdhdngplaaDoorSpecValid
import Derived.Deep.RegionHeld3
import Derived.Lib.ItoaNum
import Derived.Lib.ItoaMem
import Derived.Test.YtcohfbdhdngplaaDoorProg
import Derived.WalkKit
import Derived.WalkSpells
import Derived.WalkLawsBesides
import Derived.Lib.Hide
import Derived.Test.YtcohfbdhdngplaaDoorSzCore
/-
  Proved: spec.l4Text gives the text of a type's tree; the memory that was there stays as it was.
-/
namespace Go.Proofs.YtcohfbdhdngplaaDoor
open Go.RowKit

set_option maxRecDepth 100000 in
set_option maxHeartbeats 4000000 in
theorem specText : ∀ (d : Nat) (v : Value) (t : Ty) (w : World), TyAt w d v t → t.form = true → t.size ≤ 1048577 →
    Calls Tryd.prog 93 #[v] w fun e w' => e = .returned (.string t.text) ∧ Below w.heap.size w w'
  | 0, _, _, _, h, _, _ => h.elim
  | d + 1, v, .node kd ts, w, h, hfm, hsz => by
    have IH : Hid (∀ (v : Value) (t : Ty) (w : World), TyAt w d v t → t.form = true → t.size ≤ 1048577 → Calls Tryd.prog 93 #[v] w fun e w' => e = .returned (.string t.text) ∧ Below w.heap.size w w') := specText d
    obtain ⟨sl, rfl, hk0, hk1, a, cap, rfl, hcap, hcap2, hat⟩ := h
    have HAT := Lib.hid hat; clear hat
    have HF := Lib.hid hfm
    have HS := Lib.hid hsz
    have hko : kindOk kd ts.length = true := by simp only [Ty.form, Bool.and_eq_true] at hfm; exact hfm.2
    clear hfm hsz hcap hcap2 hk0 hk1
    obtain ⟨n, hn⟩ : ∃ n, n = ts.length := ⟨_, rfl⟩
    have HN := Lib.hid hn
    rw [← hn] at hko ⊢
    clear hn
    rcases kind_cases hko with ⟨z1, _⟩ | ⟨z1, _⟩ | ⟨z1, _⟩ | ⟨z1, z2⟩ | ⟨z1, z2⟩ <;> clear hko
    · subst z1
      have HFIN : Hid ((Ty.node 1 ts).text = ⟨#[63]⟩) := by show _ = _; simp [Ty.text, textOf]
      go_enter Tryd.func93, Tryd.ntmps93
      go_wp2_with fail
      go_ret
      exact ⟨by rw [HFIN.out]; rfl, below_alloc _ _⟩
    · subst z1
      have HFIN : Hid ((Ty.node 2 ts).text = ⟨#[78]⟩) := by show _ = _; simp [Ty.text, textOf]
      go_enter Tryd.func93, Tryd.ntmps93
      go_wp2_with fail
      go_ret
      exact ⟨by rw [HFIN.out]; rfl, below_alloc _ _⟩
    · subst z1
      have HFIN : Hid ((Ty.node 3 ts).text = ⟨#[66]⟩) := by show _ = _; simp [Ty.text, textOf]
      go_enter Tryd.func93, Tryd.ntmps93
      go_wp2_with fail
      go_ret
      exact ⟨by rw [HFIN.out]; rfl, below_alloc _ _⟩
    · subst z1
      subst z2
      obtain ⟨t1, t2, k1, s1, n1, c1, k2, s2, n2, c2, b, off, hts, rfl, hbl0, g0, g1, g2, g3, ht1, ht2⟩ := two_of HN.out.symm HAT.out
      subst hts
      have X0 : Hid (FourAt w b off (.int .i64 k1) (.slice s1 n1 c1) (.int .i64 k2) (.slice s2 n2 c2)) := ⟨hbl0, g0, g1, g2, g3⟩
      clear HAT HN hbl0 g0 g1 g2 g3
      have F1 := Lib.hid (form_two HF.out).1
      have F2 := Lib.hid (form_two HF.out).2
      have z1 := t1.text_size
      have z2 := t2.text_size
      have hs2 := HS.out
      simp only [Ty.size, Ty.sizes] at hs2
      have Z1 := Lib.hid (show t1.size ≤ 1048577 by omega)
      have Z2 := Lib.hid (show t2.size ≤ 1048577 by omega)
      have m1 : ¬ (9223372036854775807 < 1 + t1.text.size) := by omega
      have m2 : ¬ (9223372036854775807 < 1 + t1.text.size + 1) := by omega
      have m3 : ¬ (9223372036854775807 < 1 + t1.text.size + 1 + t2.text.size) := by omega
      have m4 : ¬ (9223372036854775807 < 1 + t1.text.size + 1 + t2.text.size + 1) := by omega
      clear hs2 z1 z2
      have B : Hid (Below w.heap.size w (w.alloc (.cells #[.int .i64 4, .slice (some ⟨b, off, none⟩) 2 cap] 32))) := below_alloc _ _
      have H1 := Lib.hid (ht1.below B.out)
      have H2 := Lib.hid (ht2.below B.out)
      have X4 := Lib.hid (X0.out.below B.out)
      have XN : Hid (BoxAt (w.alloc (.cells #[.int .i64 4, .slice (some ⟨b, off, none⟩) 2 cap] 32)) w.heap.size #[.int .i64 4, .slice (some ⟨b, off, none⟩) 2 cap]) := BoxAt.new _ _ _
      clear ht1 ht2 X0
      go_enter Tryd.func93, Tryd.ntmps93
      go_wp2_with fail
      have hb := below_drew (w.alloc (.cells #[.int .i64 4, .slice (some ⟨b, off, none⟩) 2 cap] 32))
      replace B := Lib.hid (below_thru B.out (Nat.le_refl _) hb)
      replace H1 := Lib.hid (H1.out.below hb)
      replace H2 := Lib.hid (H2.out.below hb)
      replace XN := Lib.hid (XN.out.below hb)
      replace X4 := Lib.hid (X4.out.below hb)
      clear hb
      go_region_held3 (fun w' => w'.cell? ⟨w.heap.size, 1, none⟩ = some (.slice (some ⟨b, off, none⟩) 2 cap) ∧ w'.cell? ⟨b, off, none⟩ = some (.int .i64 k1) ∧ w'.cell? ⟨b, off + 1, none⟩ = some (.slice s1 n1 c1) ∧ w'.cell? ⟨b, off + 2, none⟩ = some (.int .i64 k2) ∧ w'.cell? ⟨b, off + 3, none⟩ = some (.slice s2 n2 c2)) (exact ⟨XN.out.2 1, X4.out.2.1, X4.out.2.2.1, X4.out.2.2.2.1, X4.out.2.2.2.2⟩)
        (first
         | (go_at_call_of 93 (Value.agg #[Value.int IntKind.i64 k1, Value.slice s1 n1 c1])
            refine (IH.out _ t1 _ H1.out F1.out Z1.out).mono ?_
            rintro e w1 ⟨rfl, hb⟩
            replace B := Lib.hid (below_thru B.out (Nat.le_refl _) hb)
            replace H1 := Lib.hid (H1.out.below hb)
            replace H2 := Lib.hid (H2.out.below hb)
            replace XN := Lib.hid (XN.out.below hb)
            replace X4 := Lib.hid (X4.out.below hb)
            clear hb)
         | (go_at_call_of 93 (Value.agg #[Value.int IntKind.i64 k2, Value.slice s2 n2 c2])
            refine (IH.out _ t2 _ H2.out F2.out Z2.out).mono ?_
            rintro e w2 ⟨rfl, hb⟩
            replace B := Lib.hid (below_thru B.out (Nat.le_refl _) hb)
            replace H1 := Lib.hid (H1.out.below hb)
            replace H2 := Lib.hid (H2.out.below hb)
            replace XN := Lib.hid (XN.out.below hb)
            replace X4 := Lib.hid (X4.out.below hb)
            clear hb))
      go_wp2_with fail
      go_ret
      exact ⟨by rw [Ty.text_arrow]; rfl, B.out⟩
    · subst z1
      subst z2
      obtain ⟨t1, t2, k1, s1, n1, c1, k2, s2, n2, c2, b, off, hts, rfl, hbl0, g0, g1, g2, g3, ht1, ht2⟩ := two_of HN.out.symm HAT.out
      subst hts
      have X0 : Hid (FourAt w b off (.int .i64 k1) (.slice s1 n1 c1) (.int .i64 k2) (.slice s2 n2 c2)) := ⟨hbl0, g0, g1, g2, g3⟩
      clear HAT HN hbl0 g0 g1 g2 g3
      have F1 := Lib.hid (form_two HF.out).1
      have F2 := Lib.hid (form_two HF.out).2
      have z1 := t1.text_size
      have z2 := t2.text_size
      have hs2 := HS.out
      simp only [Ty.size, Ty.sizes] at hs2
      have Z1 := Lib.hid (show t1.size ≤ 1048577 by omega)
      have Z2 := Lib.hid (show t2.size ≤ 1048577 by omega)
      have m1 : ¬ (9223372036854775807 < 1 + t1.text.size) := by omega
      have m2 : ¬ (9223372036854775807 < 1 + t1.text.size + 1) := by omega
      have m3 : ¬ (9223372036854775807 < 1 + t1.text.size + 1 + t2.text.size) := by omega
      have m4 : ¬ (9223372036854775807 < 1 + t1.text.size + 1 + t2.text.size + 1) := by omega
      clear hs2 z1 z2
      have B : Hid (Below w.heap.size w (w.alloc (.cells #[.int .i64 5, .slice (some ⟨b, off, none⟩) 2 cap] 32))) := below_alloc _ _
      have H1 := Lib.hid (ht1.below B.out)
      have H2 := Lib.hid (ht2.below B.out)
      have X4 := Lib.hid (X0.out.below B.out)
      have XN : Hid (BoxAt (w.alloc (.cells #[.int .i64 5, .slice (some ⟨b, off, none⟩) 2 cap] 32)) w.heap.size #[.int .i64 5, .slice (some ⟨b, off, none⟩) 2 cap]) := BoxAt.new _ _ _
      clear ht1 ht2 X0
      go_enter Tryd.func93, Tryd.ntmps93
      go_wp2_with fail
      have hb := below_drew (w.alloc (.cells #[.int .i64 5, .slice (some ⟨b, off, none⟩) 2 cap] 32))
      replace B := Lib.hid (below_thru B.out (Nat.le_refl _) hb)
      replace H1 := Lib.hid (H1.out.below hb)
      replace H2 := Lib.hid (H2.out.below hb)
      replace XN := Lib.hid (XN.out.below hb)
      replace X4 := Lib.hid (X4.out.below hb)
      clear hb
      go_region_held3 (fun w' => w'.cell? ⟨w.heap.size, 1, none⟩ = some (.slice (some ⟨b, off, none⟩) 2 cap) ∧ w'.cell? ⟨b, off, none⟩ = some (.int .i64 k1) ∧ w'.cell? ⟨b, off + 1, none⟩ = some (.slice s1 n1 c1) ∧ w'.cell? ⟨b, off + 2, none⟩ = some (.int .i64 k2) ∧ w'.cell? ⟨b, off + 3, none⟩ = some (.slice s2 n2 c2)) (exact ⟨XN.out.2 1, X4.out.2.1, X4.out.2.2.1, X4.out.2.2.2.1, X4.out.2.2.2.2⟩)
        (first
         | (go_at_call_of 93 (Value.agg #[Value.int IntKind.i64 k1, Value.slice s1 n1 c1])
            refine (IH.out _ t1 _ H1.out F1.out Z1.out).mono ?_
            rintro e w1 ⟨rfl, hb⟩
            replace B := Lib.hid (below_thru B.out (Nat.le_refl _) hb)
            replace H1 := Lib.hid (H1.out.below hb)
            replace H2 := Lib.hid (H2.out.below hb)
            replace XN := Lib.hid (XN.out.below hb)
            replace X4 := Lib.hid (X4.out.below hb)
            clear hb)
         | (go_at_call_of 93 (Value.agg #[Value.int IntKind.i64 k2, Value.slice s2 n2 c2])
            refine (IH.out _ t2 _ H2.out F2.out Z2.out).mono ?_
            rintro e w2 ⟨rfl, hb⟩
            replace B := Lib.hid (below_thru B.out (Nat.le_refl _) hb)
            replace H1 := Lib.hid (H1.out.below hb)
            replace H2 := Lib.hid (H2.out.below hb)
            replace XN := Lib.hid (XN.out.below hb)
            replace X4 := Lib.hid (X4.out.below hb)
            clear hb))
      go_wp2_with fail
      go_ret
      exact ⟨by rw [Ty.text_pair]; rfl, B.out⟩
end Go.Proofs.YtcohfbdhdngplaaDoor
/-
  Proved: the digits that a decimal loop collects (least digit first, put in front) are the decimal numeral of the number. Plain mathematics, no program.
-/
namespace Go.Proofs.YtcohfbdhdngplaaDoor.Num

/-- The digits of a number, none for 0. -/
def dd (u : Nat) : List UInt8 :=
  if _h : u = 0 then [] else dd (u / 10) ++ [UInt8.ofNat (48 + u % 10)]
termination_by u
decreasing_by omega

theorem dd_zero : dd 0 = [] := by rw [dd]; simp
theorem dd_pos (u : Nat) (h : u ≠ 0) : dd u = dd (u / 10) ++ [UInt8.ofNat (48 + u % 10)] := by
  rw [dd, dif_neg h]
theorem dd_eq (u : Nat) (h : u ≠ 0) : dd u = Lib.decDigits u := by
  induction u using Nat.strongRecOn with
  | ind u ih =>
    rw [dd_pos u h, Lib.decDigits]
    by_cases h10 : u < 10
    · rw [dif_pos h10, show u / 10 = 0 from by omega, dd_zero, show u % 10 = u from by omega]; rfl
    · rw [dif_neg h10, ih (u / 10) (by omega) (by omega)]

theorem natAbs_tdiv (m : Int) : (m.tdiv 10).natAbs = m.natAbs / 10 := by
  rw [Int.natAbs_tdiv]; rfl
theorem natAbs_tmod (m : Int) : (m.tmod 10).natAbs = m.natAbs % 10 := by
  rw [Int.natAbs_tmod]; rfl

/-- What a round does: the digit of m stands in front of what was collected. -/
theorem round (n m : Int) (l : List UInt8) (hm : m ≠ 0) (h : dd n.natAbs = dd m.natAbs ++ l) :
    dd n.natAbs = dd (m.tdiv 10).natAbs ++ (UInt8.ofNat (48 + (m.tmod 10).natAbs) :: l) := by
  rw [h, dd_pos m.natAbs (by omega), natAbs_tdiv, natAbs_tmod]
  simp

theorem round_pos (n m : Int) (l : List UInt8) (h0 : 0 ≤ m) (hm : m ≠ 0) (h : dd n.natAbs = dd m.natAbs ++ l) :
    dd n.natAbs = dd (m / 10).natAbs ++ (UInt8.ofNat (48 + m % 10).toNat :: l) := by
  rw [h, dd_pos m.natAbs (by omega), show (m / 10).natAbs = m.natAbs / 10 from by omega, show (48 + m % 10).toNat = 48 + m.natAbs % 10 from by omega]
  simp
theorem dd_len (u : Nat) : (dd u).length ≤ u := by
  induction u using Nat.strongRecOn with
  | ind u ih =>
    by_cases h : u = 0
    · subst h; rw [dd_zero]; simp
    · rw [dd_pos u h]
      have := ih (u / 10) (by omega)
      simp; omega
theorem len_of (n m : Int) (l : List UInt8) (hm : m ≠ 0) (h : dd n.natAbs = dd m.natAbs ++ l) : l.length + 1 ≤ n.natAbs := by
  have h1 := congrArg List.length h
  have h2 := dd_len n.natAbs
  rw [dd_pos m.natAbs (by omega)] at h1
  simp at h1; omega

theorem dd_len_le (k u : Nat) (h : u < 10 ^ k) : (dd u).length ≤ k := by
  induction k generalizing u with
  | zero => rw [show u = 0 from by omega, dd_zero]; simp
  | succ k ih =>
    by_cases hu : u = 0
    · subst hu; rw [dd_zero]; simp
    · rw [dd_pos u hu]
      have := ih (u / 10) (by rw [Nat.pow_succ] at h; omega)
      simp; omega
theorem len_of20 (n m : Int) (l : List UInt8) (hn : n.natAbs ≤ 9223372036854775808) (h : dd n.natAbs = dd m.natAbs ++ l) : l.length ≤ 20 := by
  have h1 := congrArg List.length h
  have h2 := dd_len_le 20 n.natAbs (by omega)
  simp at h1; omega
theorem tmod_neg (m : Int) (h : m ≤ 0) : m.tmod 10 = -((-m) % 10) := by
  obtain ⟨k, rfl⟩ : ∃ k, m = -k := ⟨-m, by omega⟩
  rw [Int.neg_tmod, Int.tmod_eq_emod_of_nonneg (by omega)]; simp
theorem tdiv_neg (m : Int) (h : m ≤ 0) : m.tdiv 10 = -((-m) / 10) := by
  obtain ⟨k, rfl⟩ : ∃ k, m = -k := ⟨-m, by omega⟩
  rw [Int.neg_tdiv, Int.tdiv_eq_ediv_of_nonneg (by omega)]; simp
theorem round_neg (n m : Int) (l : List UInt8) (h0 : m ≤ 0) (hm : m ≠ 0) (h : dd n.natAbs = dd m.natAbs ++ l) (x : Int) (hx : x = 48 - m.tmod 10) :
    dd n.natAbs = dd (m.tdiv 10).natAbs ++ (UInt8.ofNat x.toNat :: l) := by
  subst hx
  rw [h, dd_pos m.natAbs (by omega), tmod_neg m h0, tdiv_neg m h0, show (-(-m / 10)).natAbs = m.natAbs / 10 from by omega, show (48 - -(-m % 10)).toNat = 48 + m.natAbs % 10 from by omega]
  simp
theorem bytes_append (a b : List UInt8) : (ByteArray.mk a.toArray ++ ByteArray.mk b.toArray) = ByteArray.mk (a ++ b).toArray := by
  apply ByteArray.ext; simp

theorem itoa_pos (n : Int) (h : 0 < n) : Lib.itoa n = dd n.natAbs := by
  unfold Lib.itoa
  rw [if_neg (by omega), dd_eq _ (by omega)]
  congr 1; omega
theorem itoa_neg (n : Int) (h : n < 0) : Lib.itoa n = 45 :: dd n.natAbs := by
  unfold Lib.itoa
  rw [if_pos h, dd_eq _ (by omega)]
theorem itoa_zero : Lib.itoa 0 = [48] := by
  unfold Lib.itoa
  rw [if_neg (by omega), Lib.decDigits]; rfl
end Go.Proofs.YtcohfbdhdngplaaDoor.Num
/-
  Proved: spec.FormatInt returns the decimal numeral of every int, and leaves the memory that was there as it was.
-/
namespace Go.Proofs.YtcohfbdhdngplaaDoor
open Go.RowKit

/-- One byte, in a new block of its own, becomes a string. -/
theorem conv_byte (w : World) (x : Int) (h0 : 0 ≤ x) (h1 : x ≤ 255) :
    (convert 136 9 (.slice (some ⟨w.heap.size, 0, none⟩) 1 1)).run Tryd.prog (w.alloc (.cells #[.int .u8 x] 5)) =
      .ok (.string ⟨[UInt8.ofNat x.toNat].toArray⟩) (w.alloc (.cells #[.int .u8 x] 5)) := by
  have h := run_convert_bytes_back (P := Tryd.prog) (w.alloc (.cells #[.int .u8 x] 5)) 136 9 5 ⟨w.heap.size, 0, none⟩ 1 [UInt8.ofNat x.toNat] Tryd.underlying136 Tryd.underlying5 Tryd.underlying9
    (fun j hj => by
      have : j = 0 := by simpa using hj
      subst this
      have e : ((UInt8.ofNat x.toNat).toNat : Int) = x := by
        rw [UInt8.toNat_ofNat']; omega
      simp only [List.getElem_cons_zero, e]
      have := World.cell?_alloc_mark w #[.int .u8 x] 5 (0, 0) 0
      simp only [Addr.add]
      exact this)
  exact h

set_option maxHeartbeats 400000 in
theorem specFormat_zero (w : World) :
    Calls Tryd.prog 91 #[.int .i64 0] w fun e w' => e = .returned (.string ⟨(Lib.itoa 0).toArray⟩) ∧ w' = w := by
  rw [Num.itoa_zero]
  go_enter Tryd.func91, Tryd.ntmps91
  go_wp2
  go_ret
  exact ⟨rfl, rfl⟩

set_option maxRecDepth 100000 in
set_option maxHeartbeats 1000000 in
theorem specFormat_pos (n : Int) (h0 : 0 < n) (h1 : n ≤ 9223372036854775807) (w : World) :
    Calls Tryd.prog 91 #[.int .i64 n] w fun e w' => e = .returned (.string ⟨(Lib.itoa n).toArray⟩) ∧ Below w.heap.size w w' := by
  rw [Num.itoa_pos n h0]
  have hz : (n == 0) = false := by simp; omega
  have hlt : decide (n < 0) = false := by simp; omega
  go_enter Tryd.func91, Tryd.ntmps91
  go_wp2
  go_loopw [0, 4] (fun v o wr => ∃ m : Int, ∃ l : List UInt8, 0 ≤ m ∧ m ≤ 9223372036854775807 ∧ v = .int .i64 m ∧ o = .string ⟨l.toArray⟩ ∧ Num.dd n.natAbs = Num.dd m.natAbs ++ l ∧ Below w.heap.size w wr) (fun v _ _ => (intOf v).natAbs)
  case atStart => exact ⟨n, [], by omega, by omega, rfl, rfl, by simp, Below.refl _ w⟩
  case round =>
    obtain ⟨m, l, hm0, hm1, rfl, rfl, hd, hg⟩ := hrel
    have HD := Lib.hid hd; clear hd
    by_cases hm : m = 0
    · subst hm
      go_wp2
      go_ret
      refine ⟨?_, hg⟩
      have := HD.out
      rw [show (0 : Int).natAbs = 0 from rfl, Num.dd_zero] at this
      rw [this]; rfl
    · have hne : (m != 0) = true := by simp; omega
      have hmod : decide (m % 10 < 0) = false := by simp; omega
      have hcv := conv_byte wr (48 + m % 10) (by omega) (by omega)
      have hlen : l.length ≤ 20 := Num.len_of20 n m l (by omega) HD.out
      go_wp2
      exact ⟨⟨m / 10, UInt8.ofNat (48 + m % 10).toNat :: l, by omega, by omega, rfl, congrArg Value.string (Num.bytes_append [_] l), Num.round_pos n m l hm0 hm HD.out, hg.alloc hg.size _⟩, by show (m / 10).natAbs < m.natAbs; omega⟩

set_option maxRecDepth 100000 in
set_option maxHeartbeats 1000000 in
theorem specFormat_neg (n : Int) (h0 : n < 0) (h1 : -9223372036854775808 ≤ n) (w : World) :
    Calls Tryd.prog 91 #[.int .i64 n] w fun e w' => e = .returned (.string ⟨(Lib.itoa n).toArray⟩) ∧ Below w.heap.size w w' := by
  rw [Num.itoa_neg n h0]
  have hz : (n == 0) = false := by simp; omega
  have hlt : decide (n < 0) = true := by simp; omega
  go_enter Tryd.func91, Tryd.ntmps91
  go_wp2
  go_loopw [0, 4] (fun v o wr => ∃ m : Int, ∃ l : List UInt8, m ≤ 0 ∧ -9223372036854775808 ≤ m ∧ v = .int .i64 m ∧ o = .string ⟨l.toArray⟩ ∧ Num.dd n.natAbs = Num.dd m.natAbs ++ l ∧ Below w.heap.size w wr) (fun v _ _ => (intOf v).natAbs)
  case atStart => exact ⟨n, [], by omega, by omega, rfl, rfl, by simp, Below.refl _ w⟩
  case round =>
    obtain ⟨m, l, hm0, hm1, rfl, rfl, hd, hg⟩ := hrel
    have HD := Lib.hid hd; clear hd
    by_cases hm : m = 0
    · subst hm
      have hlen : l.length ≤ 20 := Num.len_of20 n 0 l (by omega) HD.out
      go_wp2
      go_ret
      refine ⟨?_, hg⟩
      have := HD.out
      rw [show (0 : Int).natAbs = 0 from rfl, Num.dd_zero] at this
      rw [this]; exact congrArg (fun x => Ending.returned (Value.string x)) (Num.bytes_append [45] l)
    · have hne : (m != 0) = true := by simp; omega
      have hlen : l.length ≤ 20 := Num.len_of20 n m l (by omega) HD.out
      have hd1 : m.tmod 10 ≤ 0 := by rw [Num.tmod_neg m hm0]; omega
      have hd2 : -9 ≤ m.tmod 10 := by rw [Num.tmod_neg m hm0]; omega
      have hq1 : m.tdiv 10 ≤ 0 := by rw [Num.tdiv_neg m hm0]; omega
      have hq2 : m + 1 ≤ m.tdiv 10 := by rw [Num.tdiv_neg m hm0]; omega
      by_cases hd : m.tmod 10 < 0
      · have hmod : decide (m.tmod 10 < 0) = true := by simp; omega
        have hcv := conv_byte wr (48 + -m.tmod 10) (by omega) (by omega)
        go_wp2
        exact ⟨⟨m.tdiv 10, UInt8.ofNat (48 + -m.tmod 10).toNat :: l, hq1, by omega, rfl, congrArg Value.string (Num.bytes_append [_] l), Num.round_neg n m l hm0 hm HD.out _ (by omega), hg.alloc hg.size _⟩, by show (m.tdiv 10).natAbs < m.natAbs; clear hmod; omega⟩
      · have hmod : decide (m.tmod 10 < 0) = false := by simp; omega
        have hcv := conv_byte wr (48 + m.tmod 10) (by omega) (by omega)
        go_wp2
        exact ⟨⟨m.tdiv 10, UInt8.ofNat (48 + m.tmod 10).toNat :: l, hq1, by omega, rfl, congrArg Value.string (Num.bytes_append [_] l), Num.round_neg n m l hm0 hm HD.out _ (by omega), hg.alloc hg.size _⟩, by show (m.tdiv 10).natAbs < m.natAbs; clear hmod; omega⟩

/-- spec.FormatInt, every int. -/
theorem specFormat (n : Int) (h0 : -9223372036854775808 ≤ n) (h1 : n ≤ 9223372036854775807) (w : World) :
    Calls Tryd.prog 91 #[.int .i64 n] w fun e w' => e = .returned (.string ⟨(Lib.itoa n).toArray⟩) ∧ Below w.heap.size w w' := by
  rcases Int.lt_trichotomy n 0 with h | h | h
  · exact specFormat_neg n h h0 w
  · subst h
    exact (specFormat_zero w).mono fun e w' ⟨he, hw⟩ => ⟨he, by subst hw; exact Below.refl _ _⟩
  · exact specFormat_pos n h h1 w
end Go.Proofs.YtcohfbdhdngplaaDoor
namespace Go.Proofs.YtcohfbdhdngplaaDoor
open Go.RowKit

set_option maxRecDepth 100000 in
set_option maxHeartbeats 16000000 in
theorem specCoText : ∀ (d : Nat) (v : Value) (t : Co) (w : World), CoAt w d v t → t.form = true → t.bulk ≤ 1048576 →
    Calls Tryd.prog 60 #[v] w fun e w' => e = .returned (.string t.text) ∧ Below w.heap.size w w'
  | 0, _, _, _, h, _, _ => h.elim
  | d + 1, v, .node kd nm n fr ty es ns vs, w, h, hform, hsz => by
    have IH : Hid (∀ (v : Value) (t : Co) (w : World), CoAt w d v t → t.form = true → t.bulk ≤ 1048576 → Calls Tryd.prog 60 #[v] w fun e w' => e = .returned (.string t.text) ∧ Below w.heap.size w w') := specCoText d
    obtain ⟨i0, hi, hz0, hz1, hz2⟩ := info_parts info_str
    have HI := Lib.hid hi; clear hi
    have HZ0 := Lib.hid hz0; clear hz0
    have HZ1 := Lib.hid hz1; clear hz1
    have HZ2 := Lib.hid hz2; clear hz2
    have HNU := Lib.hid (nums_of (d + 1) _ _ h)
    have HV := co_parts h
    obtain ⟨c3, c4, c5, c6, sl, el, rfl, hk0, hk1, hn0, hn1, hnm, hfr, hty, ⟨a, cap, rfl, hcap, hcap2, hat⟩, hcb⟩ := h
    obtain ⟨k', nm', n', fk, fa, fn, fc, tk, ta, tn, tc, sa, sn, sc, ea, en, ec, hv⟩ := HV
    injection hv with hv
    injection hv with hv
    simp at hv
    obtain ⟨rfl, rfl, rfl, rfl, rfl, rfl, rfl, ⟨rfl, rfl, rfl⟩, rfl⟩ := hv
    have HAT := Lib.hid hat; clear hat
    have HCB := Lib.hid hcb; clear hcb
    have HFR := Lib.hid hfr; clear hfr
    have HTY := Lib.hid hty; clear hty
    have HPA := Lib.hid (co_num hform)
    have HKR := Lib.hid (co_kind hform)
    have HNN : Hid (-9223372036854775808 ≤ n ∧ n ≤ 9223372036854775807) := ⟨hn0, hn1⟩
    clear hform
    have hbk : (Co.node kd nm n fr ty es ns vs).bulk = nm.size + (fr.size - 1) + (ty.size - 1) + Co.bulks es + (txs ns + Co.bulks vs) := rfl
    have HSZ : Hid (Co.bulks es + (txs ns + Co.bulks vs) + nm.size ≤ 1048576) := by show _ ≤ _; omega
    have HTZ : Hid (ty.size ≤ 1048577) := by show _ ≤ _; omega
    have HFZ : Hid (fr.size ≤ 1048577) := by show _ ≤ _; omega
    have hlen : es.length ≤ 1048576 := by have := Co.length_le es; omega
    have HTL : Hid ((Co.texts es).length = es.length) := Co.texts_length es
    have HTOT : Hid (total (Co.texts es) ≤ 83886080) := by show _ ≤ _; have h0 := HNU.out; simp only [Co.nums] at h0; have h1 := Co.texts_size es numB_size h0.2.2.1; omega
    have HEZ : Hid ((envSay ns (Co.texts vs)).size ≤ 90000000) := by show _ ≤ _; have h0 := HNU.out; simp only [Co.nums] at h0; have h1 := Co.texts_size vs numB_size h0.2.2.2; have h2 := envSay_size ns (Co.texts vs); omega
    have HENV : Hid (∀ W, Below w.heap.size w W → Calls Tryd.prog 92 #[.slice ea en ec] W fun e w' => e = .returned (.string (envSay ns (Co.texts vs))) ∧ Below W.heap.size W w') := fun W hW => specEnvText d IH _ ns vs W (CbsAt.below HCB.out hW) HPA.out.2.1 (by have := HSZ.out; omega)
    clear hsz hbk hnm hn0 hn1 hk0 hk1 hcap hcap2
    have b7 := box_cell (Below.refl (w.heap.size + 1) (w.alloc (.cells #[.int .i64 kd, .string nm, .int .i64 n, .int .i64 fk, .slice fa fn fc, .int .i64 tk, .slice ta tn tc, .slice a es.length cap, .slice ea en ec] 67))) 7
    go_enter Tryd.func60, Tryd.ntmps60
    go_wp2_with fail
    go_loopw [3, 4] (fun v i wr => ∃ k : Nat, k ≤ es.length ∧ i = .int .i64 k ∧ wr.ownsRow (w.heap.size + 1) 9 1 v k (((Co.texts es).take k).map Value.string) ∧ Below (w.heap.size + 1) (w.alloc (.cells #[.int .i64 kd, .string nm, .int .i64 n, .int .i64 fk, .slice fa fn fc, .int .i64 tk, .slice ta tn tc, .slice a es.length cap, .slice ea en ec] 67)) wr) (fun _ i _ => es.length - (intOf i).toNat)
    case atStart => exact ⟨0, by omega, rfl, by simpa using World.ownsRow_made (w.alloc (.cells #[.int .i64 kd, .string nm, .int .i64 n, .int .i64 fk, .slice fa fn fc, .int .i64 tk, .slice ta tn tc, .slice a es.length cap, .slice ea en ec] 67)) #[] 0 (base := w.heap.size + 1) (by simp) (Nat.zero_le _) rfl, (Below.refl _ _).alloc (by simp) _⟩
    case round =>
      obtain ⟨k, hk, rfl, hown, hb⟩ := hrel
      clear b7
      have HO2 := Lib.hid hown; clear hown
      have HB2 := Lib.hid hb; clear hb
      have b7 := box_cell HB2.out 7
      have HBB := Lib.hid (box_below HB2.out)
      by_cases hlt : k < es.length
      · obtain ⟨b, off, x0, x1, x2, x3, x4, x5, x6, x7, x8, rfl, hbl, hc0, hc1, hc2, hc3, hc4, hc5, hc6, hc7, hc8, ht⟩ := HAT.out k hlt
        have hg := Co.bulk_get es k hlt
        have hzk : es[k].bulk ≤ 1048576 := by have := HSZ.out; omega
        have HFK := Lib.hid (Co.forms_get es k hlt HPA.out.1)
        have hlt2 : k < (Co.texts es).length := by rw [HTL.out]; exact hlt
        have HE : Hid ((Co.texts es)[k] = es[k].text) := Co.texts_get es k hlt hlt2
        have e0 : wr.cell? ⟨b, off + k * 9, none⟩ = some x0 := (HBB.out.cell (p := ⟨b, off + k * 9, none⟩) hbl).trans hc0
        have e1 : wr.cell? ⟨b, off + k * 9 + 1, none⟩ = some x1 := (HBB.out.cell (p := ⟨b, off + k * 9 + 1, none⟩) hbl).trans hc1
        have e2 : wr.cell? ⟨b, off + k * 9 + 2, none⟩ = some x2 := (HBB.out.cell (p := ⟨b, off + k * 9 + 2, none⟩) hbl).trans hc2
        have e3 : wr.cell? ⟨b, off + k * 9 + 3, none⟩ = some x3 := (HBB.out.cell (p := ⟨b, off + k * 9 + 3, none⟩) hbl).trans hc3
        have e4 : wr.cell? ⟨b, off + k * 9 + 4, none⟩ = some x4 := (HBB.out.cell (p := ⟨b, off + k * 9 + 4, none⟩) hbl).trans hc4
        have e5 : wr.cell? ⟨b, off + k * 9 + 5, none⟩ = some x5 := (HBB.out.cell (p := ⟨b, off + k * 9 + 5, none⟩) hbl).trans hc5
        have e6 : wr.cell? ⟨b, off + k * 9 + 6, none⟩ = some x6 := (HBB.out.cell (p := ⟨b, off + k * 9 + 6, none⟩) hbl).trans hc6
        have e7 : wr.cell? ⟨b, off + k * 9 + 7, none⟩ = some x7 := (HBB.out.cell (p := ⟨b, off + k * 9 + 7, none⟩) hbl).trans hc7
        have e8 : wr.cell? ⟨b, off + k * 9 + 8, none⟩ = some x8 := (HBB.out.cell (p := ⟨b, off + k * 9 + 8, none⟩) hbl).trans hc8
        have HTE := Lib.hid (ht.below HBB.out)
        clear ht hc0 hc1 hc2 hc3 hc4 hc5 hc6 hc7 hc8 hg
        go_wp2_with fail
        refine (IH.out _ es[k] _ HTE.out HFK.out hzk).mono ?_
        rintro e w1 ⟨rfl, hb1⟩
        have HO1 := Lib.hid (own_below HO2.out hb1)
        have HB1 := Lib.hid (box_next HB2.out hb1)
        clear hb1 HO2 e0 e1 e2 e3 e4 e5 e6 e7 e8 b7
        have b7 := box_cell HB1.out 7
        have hzw : (w.heap.size + 1) ≤ w1.heap.size := by have := HB1.out.size; simpa using this
        go_wp2_with (at_builtin; go_must (refine wpList_append_own_at _ rfl _ _ 122 rfl (w.heap.size + 1) 9 i0 (.string ⟨#[]⟩) 1 16 Tryd.underlying122 HI.out HZ0.out HZ1.out HZ2.out rfl (by decide) _ _ _ rfl (HO1.out.alloc _) ⟨w1.heap.size, 0, none⟩ 1 1 [.string es[k].text] rfl rfl (new_one _ _ _) (by simp [Value.oneCell']) (by unfold maxLen; omega) (by omega) (by simp; omega) ?_); intro v2 w2 hown2 hg2 _ hblk2; refine Hid.out ?_)
        refine Lib.hid ?_
        have hb2 := (HB1.out.alloc hzw _).grown hg2 (by simp; omega) (fun k hk => (HO1.out.lt k hk).1)
        have hown3 : w2.ownsRow (w.heap.size + 1) 9 1 v2 (k + 1) (((Co.texts es).take (k + 1)).map Value.string) := by
          rw [co_take _ k hlt2, HE.out, List.map_append]; exact hown2
        have HO2 := Lib.hid hown3; clear hown3 hown2 hg2 hblk2
        have HB3 := Lib.hid hb2; clear hb2 b7
        have b7 := box_cell HB3.out 7
        go_wp2_with fail
        exact ⟨⟨k + 1, by omega, by go_num, HO2.out, HB3.out⟩, by simp [intOf]; omega⟩
      · obtain rfl : k = es.length := by omega
        have hl2 := HO2.out
        rw [← HTL.out, List.take_length] at hl2
        have HL2 := Lib.hid hl2; clear hl2 HO2
        have HST := Lib.hid (Strs.of_own HL2.out)
        have HTM : Hid (Co.text (.node kd nm n fr ty es ns vs) = coSay kd nm (numB n) fr.text ty.text n (Co.texts es) (envSay ns (Co.texts vs))) := by show _ = _; simp only [Co.text]
        have HAL := HPA.out.2.2.2.2
        have HNF := Lib.hid HPA.out.2.2.2.1
        have HTF := Lib.hid HPA.out.2.2.1
        have hkr := HKR.out
        rcases (by omega : kd = 1 ∨ kd = 2 ∨ kd = 3 ∨ kd = 4 ∨ kd = 5 ∨ kd = 6 ∨ kd = 7 ∨ kd = 8 ∨ kd = 9 ∨ kd = 10 ∨ kd = 11 ∨ kd = 12 ∨ kd = 13 ∨ kd = 14 ∨ kd = 15) with rfl | rfl | rfl | rfl | rfl | rfl | rfl | rfl | rfl | rfl | rfl | rfl | rfl | rfl | rfl
        · have hq : es.length = 0 := by have : coArity 1 = 0 := rfl; omega
          have HXL : Hid ((Co.texts es).length = 0) := by show _ = _; rw [HTL.out]; exact hq
          clear b7 HAL hkr
          have b0 := box_cell HB2.out 0
          have b1 := box_cell HB2.out 1
          have b2 := box_cell HB2.out 2
          have b3 := box_cell HB2.out 3
          have b4 := box_cell HB2.out 4
          have b5 := box_cell HB2.out 5
          have b6 := box_cell HB2.out 6
          have b7 := box_cell HB2.out 7
          have b8 := box_cell HB2.out 8
          have hnz := numB_size n HNN.out.1 HNN.out.2
          have hns : nm.size ≤ 1048576 := by have := HSZ.out; omega
          have HBF := Lib.hid HBB.out
          have HT2 := HTM
          clear hq
          have CI : ∀ q : Grown wr.heap.size wr, Calls Tryd.prog 91 #[.int .i64 n] q.val fun e w' => e = .returned (.string (numB n)) ∧ Below q.val.heap.size q.val w' := fun q => specFormat n HNN.out.1 HNN.out.2 _
          have CE : ∀ q : Grown wr.heap.size wr, Calls Tryd.prog 92 #[.slice ea en ec] q.val fun e w' => e = .returned (.string (envSay ns (Co.texts vs))) ∧ Below q.val.heap.size q.val w' := fun q => HENV.out _ (below_thru HBB.out (Nat.le_refl _) q.old)
          have hez := HEZ.out
          generalize numB n = fs at CI HT2 hnz
          generalize envSay ns (Co.texts vs) = env at CE HT2 hez
          have m0 : ¬ (9223372036854775807 < 1 + fs.size) := by omega
          have m1 : ¬ (9223372036854775807 < 1 + fs.size + env.size) := by omega
          clear hnz hns hez
          go_wp2_with fail
          have hbw : w.heap.size < wr.heap.size := by have := HB2.out.size; simp at this; omega
          have g2 : ∀ q : Grown wr.heap.size wr, q.val.cell? ⟨w.heap.size, 2, none⟩ = some (.int .i64 n) := fun q => (q.old.cell (p := ⟨w.heap.size, 2, none⟩) hbw).trans b2
          have g8 : ∀ q : Grown wr.heap.size wr, q.val.cell? ⟨w.heap.size, 8, none⟩ = some (.slice ea en ec) := fun q => (q.old.cell (p := ⟨w.heap.size, 8, none⟩) hbw).trans b8
          refine wp_region_grown wr.heap.size (by kernel_rfl) (by kernel_rfl) ?_
          repeat (go_big_quiet_step (first | (go_at_call 91; exact grown_of (Nat.le_refl _) (CI _)) | (go_at_call 92; exact grown_of (Nat.le_refl _) (CE _))))
          refine wpQuiet_nil ?_
          rintro _ ⟨⟨wq, hq⟩, rfl⟩
          go_wp2_with fail
          go_ret
          exact ⟨by rw [HT2.out]; rfl, below_thru HBF.out (Nat.le_refl _) hq⟩
        · have hq : es.length = 1 := by have : coArity 2 = 1 := rfl; omega
          have HXL : Hid ((Co.texts es).length = 1) := by show _ = _; rw [HTL.out]; exact hq
          clear b7 HAL hkr
          have b0 := box_cell HB2.out 0
          have b1 := box_cell HB2.out 1
          have b2 := box_cell HB2.out 2
          have b3 := box_cell HB2.out 3
          have b4 := box_cell HB2.out 4
          have b5 := box_cell HB2.out 5
          have b6 := box_cell HB2.out 6
          have b7 := box_cell HB2.out 7
          have b8 := box_cell HB2.out 8
          have hnz := numB_size n HNN.out.1 HNN.out.2
          have hns : nm.size ≤ 1048576 := by have := HSZ.out; omega
          have HBF := Lib.hid HBB.out
          have HT2 := Lib.hid (coText_one 2 nm n fr ty es ns vs HXL.out)
          have htt := HTOT.out
          have hp0 : 0 < (Co.texts es).length := by rw [HXL.out]; omega
          have s0 := total_get (Co.texts es) 0 hp0
          have HL3 := HL2.out
          rw [HXL.out] at HL3
          obtain ⟨oa, oc, rfl⟩ := own_slice HL3
          clear HL3
          obtain ⟨ob, off, rfl, HCC⟩ := strs_pos HST.out hp0
          have C0 := Lib.hid (HCC 0 hp0)
          clear HCC
          rw [Nat.add_zero] at C0
          generalize (Co.texts es)[0]'hp0 = x0 at HT2 s0 C0
          clear hq
          have CI : ∀ q : Grown wr.heap.size wr, Calls Tryd.prog 91 #[.int .i64 n] q.val fun e w' => e = .returned (.string (numB n)) ∧ Below q.val.heap.size q.val w' := fun q => specFormat n HNN.out.1 HNN.out.2 _
          have CE : ∀ q : Grown wr.heap.size wr, Calls Tryd.prog 92 #[.slice ea en ec] q.val fun e w' => e = .returned (.string (envSay ns (Co.texts vs))) ∧ Below q.val.heap.size q.val w' := fun q => HENV.out _ (below_thru HBB.out (Nat.le_refl _) q.old)
          have hez := HEZ.out
          generalize numB n = fs at CI HT2 hnz
          generalize envSay ns (Co.texts vs) = env at CE HT2 hez
          generalize fr.text = fx at HT2
          generalize ty.text = ts at HT2
          have m0 : ¬ (9223372036854775807 < 1 + fs.size) := by omega
          have m1 : ¬ (9223372036854775807 < 1 + fs.size + 1) := by omega
          have m2 : ¬ (9223372036854775807 < 1 + fs.size + 1 + x0.size) := by omega
          have m3 : ¬ (9223372036854775807 < 1 + fs.size + 1 + x0.size + 1) := by omega
          have m4 : ¬ (9223372036854775807 < 1 + fs.size + 1 + x0.size + 1 + env.size) := by omega
          clear hnz hns hez htt s0
          go_wp2_with fail
          have hbw : w.heap.size < wr.heap.size := by have := HB2.out.size; simp at this; omega
          have g2 : ∀ q : Grown wr.heap.size wr, q.val.cell? ⟨w.heap.size, 2, none⟩ = some (.int .i64 n) := fun q => (q.old.cell (p := ⟨w.heap.size, 2, none⟩) hbw).trans b2
          have g8 : ∀ q : Grown wr.heap.size wr, q.val.cell? ⟨w.heap.size, 8, none⟩ = some (.slice ea en ec) := fun q => (q.old.cell (p := ⟨w.heap.size, 8, none⟩) hbw).trans b8
          have ga : ∀ q : Grown wr.heap.size wr, q.val.cell? ⟨ob, off, none⟩ = some (.string x0) := fun q => (q.old.cell (p := ⟨ob, off, none⟩) C0.out.1).trans C0.out.2
          refine wp_region_grown wr.heap.size (by kernel_rfl) (by kernel_rfl) ?_
          repeat (go_big_quiet_step (first | (go_at_call 91; exact grown_of (Nat.le_refl _) (CI _)) | (go_at_call 92; exact grown_of (Nat.le_refl _) (CE _))))
          refine wpQuiet_nil ?_
          rintro _ ⟨⟨wq, hq⟩, rfl⟩
          go_wp2_with fail
          go_ret
          exact ⟨by rw [HT2.out]; rfl, below_thru HBF.out (Nat.le_refl _) hq⟩
        · have hq : es.length = 0 := by have : coArity 3 = 0 := rfl; omega
          have HXL : Hid ((Co.texts es).length = 0) := by show _ = _; rw [HTL.out]; exact hq
          clear b7 HAL hkr
          have b0 := box_cell HB2.out 0
          have b1 := box_cell HB2.out 1
          have b2 := box_cell HB2.out 2
          have b3 := box_cell HB2.out 3
          have b4 := box_cell HB2.out 4
          have b5 := box_cell HB2.out 5
          have b6 := box_cell HB2.out 6
          have b7 := box_cell HB2.out 7
          have b8 := box_cell HB2.out 8
          have hnz := numB_size n HNN.out.1 HNN.out.2
          have hns : nm.size ≤ 1048576 := by have := HSZ.out; omega
          have HBF := Lib.hid HBB.out
          clear hq
          go_wp2_with fail
          go_ret
          exact ⟨by rw [HTM.out]; rfl, HBF.out⟩
        · have hq : es.length = 1 := by have : coArity 4 = 1 := rfl; omega
          have HXL : Hid ((Co.texts es).length = 1) := by show _ = _; rw [HTL.out]; exact hq
          clear b7 HAL hkr
          have b0 := box_cell HB2.out 0
          have b1 := box_cell HB2.out 1
          have b2 := box_cell HB2.out 2
          have b3 := box_cell HB2.out 3
          have b4 := box_cell HB2.out 4
          have b5 := box_cell HB2.out 5
          have b6 := box_cell HB2.out 6
          have b7 := box_cell HB2.out 7
          have b8 := box_cell HB2.out 8
          have hnz := numB_size n HNN.out.1 HNN.out.2
          have hns : nm.size ≤ 1048576 := by have := HSZ.out; omega
          have HBF := Lib.hid HBB.out
          have HT2 := Lib.hid (coText_one 4 nm n fr ty es ns vs HXL.out)
          have htt := HTOT.out
          have hp0 : 0 < (Co.texts es).length := by rw [HXL.out]; omega
          have s0 := total_get (Co.texts es) 0 hp0
          have HL3 := HL2.out
          rw [HXL.out] at HL3
          obtain ⟨oa, oc, rfl⟩ := own_slice HL3
          clear HL3
          obtain ⟨ob, off, rfl, HCC⟩ := strs_pos HST.out hp0
          have C0 := Lib.hid (HCC 0 hp0)
          clear HCC
          rw [Nat.add_zero] at C0
          generalize (Co.texts es)[0]'hp0 = x0 at HT2 s0 C0
          clear hq
          have CT : ∀ q : Grown wr.heap.size wr, Calls Tryd.prog 93 #[.agg #[.int .i64 tk, .slice ta tn tc]] q.val fun e w' => e = .returned (.string ty.text) ∧ Below q.val.heap.size q.val w' := fun q => specText d _ ty q.val (HTY.out.below (below_thru HBB.out (Nat.le_refl _) q.old)) (valid_form (co_ty HTF.out (by omega))) HTZ.out
          have hts := ty.text_size
          have htz := HTZ.out
          generalize ty.text = ts at CT HT2 hts
          have m0 : ¬ (9223372036854775807 < 2 + nm.size) := by omega
          have m1 : ¬ (9223372036854775807 < 2 + nm.size + 1) := by omega
          have m2 : ¬ (9223372036854775807 < 2 + nm.size + 1 + ts.size) := by omega
          have m3 : ¬ (9223372036854775807 < 2 + nm.size + 1 + ts.size + 1) := by omega
          have m4 : ¬ (9223372036854775807 < 2 + nm.size + 1 + ts.size + 1 + x0.size) := by omega
          have m5 : ¬ (9223372036854775807 < 2 + nm.size + 1 + ts.size + 1 + x0.size + 1) := by omega
          clear hnz hns hts htz htt s0
          go_wp2_with fail
          have hbw : w.heap.size < wr.heap.size := by have := HB2.out.size; simp at this; omega
          have g1 : ∀ q : Grown wr.heap.size wr, q.val.cell? ⟨w.heap.size, 1, none⟩ = some (.string nm) := fun q => (q.old.cell (p := ⟨w.heap.size, 1, none⟩) hbw).trans b1
          have g5 : ∀ q : Grown wr.heap.size wr, q.val.cell? ⟨w.heap.size, 5, none⟩ = some (.int .i64 tk) := fun q => (q.old.cell (p := ⟨w.heap.size, 5, none⟩) hbw).trans b5
          have g6 : ∀ q : Grown wr.heap.size wr, q.val.cell? ⟨w.heap.size, 6, none⟩ = some (.slice ta tn tc) := fun q => (q.old.cell (p := ⟨w.heap.size, 6, none⟩) hbw).trans b6
          have ga : ∀ q : Grown wr.heap.size wr, q.val.cell? ⟨ob, off, none⟩ = some (.string x0) := fun q => (q.old.cell (p := ⟨ob, off, none⟩) C0.out.1).trans C0.out.2
          refine wp_region_grown wr.heap.size (by kernel_rfl) (by kernel_rfl) ?_
          repeat (go_big_quiet_step (first | (go_at_call 93; exact grown_of (Nat.le_refl _) (CT _))))
          refine wpQuiet_nil ?_
          rintro _ ⟨⟨wq, hq⟩, rfl⟩
          go_wp2_with fail
          go_ret
          exact ⟨by rw [HT2.out]; rfl, below_thru HBF.out (Nat.le_refl _) hq⟩
        · have hq : es.length = 2 := by have : coArity 5 = 2 := rfl; omega
          have HXL : Hid ((Co.texts es).length = 2) := by show _ = _; rw [HTL.out]; exact hq
          clear b7 HAL hkr
          have b0 := box_cell HB2.out 0
          have b1 := box_cell HB2.out 1
          have b2 := box_cell HB2.out 2
          have b3 := box_cell HB2.out 3
          have b4 := box_cell HB2.out 4
          have b5 := box_cell HB2.out 5
          have b6 := box_cell HB2.out 6
          have b7 := box_cell HB2.out 7
          have b8 := box_cell HB2.out 8
          have hnz := numB_size n HNN.out.1 HNN.out.2
          have hns : nm.size ≤ 1048576 := by have := HSZ.out; omega
          have HBF := Lib.hid HBB.out
          have HL3 := HL2.out
          rw [HXL.out] at HL3
          obtain ⟨oa, oc, rfl⟩ := own_slice HL3
          clear HL3 hq
          have HCB2 := Lib.hid (specBetween 5 nm (numB n) fr.text ty.text n (Co.texts es) (envSay ns (Co.texts vs)) _ wr (Or.inl ⟨by omega, HXL.out⟩) HST.out (by have := HTOT.out; omega))
          go_wp2_with fail
          refine HCB2.out.mono ?_
          rintro e w5 ⟨rfl, hb⟩
          replace HBF := Lib.hid (below_thru HBF.out (Nat.le_refl _) hb)
          clear hb
          go_wp2_with fail
          go_ret
          exact ⟨by rw [HTM.out]; rfl, HBF.out⟩
        · have hq : es.length = 0 := by have : coArity 6 = 0 := rfl; omega
          have HXL : Hid ((Co.texts es).length = 0) := by show _ = _; rw [HTL.out]; exact hq
          clear b7 HAL hkr
          have b0 := box_cell HB2.out 0
          have b1 := box_cell HB2.out 1
          have b2 := box_cell HB2.out 2
          have b3 := box_cell HB2.out 3
          have b4 := box_cell HB2.out 4
          have b5 := box_cell HB2.out 5
          have b6 := box_cell HB2.out 6
          have b7 := box_cell HB2.out 7
          have b8 := box_cell HB2.out 8
          have hnz := numB_size n HNN.out.1 HNN.out.2
          have hns : nm.size ≤ 1048576 := by have := HSZ.out; omega
          have HBF := Lib.hid HBB.out
          go_wp2_with fail
          refine (specFormat n HNN.out.1 HNN.out.2 _).mono ?_
          rintro e w1 ⟨rfl, hb1⟩
          replace HBF := Lib.hid (below_thru HBF.out (Nat.le_refl _) hb1)
          clear hb1 hq
          go_wp2_with fail
          go_ret
          exact ⟨by rw [HTM.out]; rfl, HBF.out⟩
        · have hq : es.length = 2 := by have : coArity 7 = 2 := rfl; omega
          have HXL : Hid ((Co.texts es).length = 2) := by show _ = _; rw [HTL.out]; exact hq
          clear b7 HAL hkr
          have b0 := box_cell HB2.out 0
          have b1 := box_cell HB2.out 1
          have b2 := box_cell HB2.out 2
          have b3 := box_cell HB2.out 3
          have b4 := box_cell HB2.out 4
          have b5 := box_cell HB2.out 5
          have b6 := box_cell HB2.out 6
          have b7 := box_cell HB2.out 7
          have b8 := box_cell HB2.out 8
          have hnz := numB_size n HNN.out.1 HNN.out.2
          have hns : nm.size ≤ 1048576 := by have := HSZ.out; omega
          have HBF := Lib.hid HBB.out
          have HL3 := HL2.out
          rw [HXL.out] at HL3
          obtain ⟨oa, oc, rfl⟩ := own_slice HL3
          clear HL3 hq
          have HCB2 := Lib.hid (specBetween 7 nm (numB n) fr.text ty.text n (Co.texts es) (envSay ns (Co.texts vs)) _ wr (Or.inl ⟨by omega, HXL.out⟩) HST.out (by have := HTOT.out; omega))
          go_wp2_with fail
          refine HCB2.out.mono ?_
          rintro e w5 ⟨rfl, hb⟩
          replace HBF := Lib.hid (below_thru HBF.out (Nat.le_refl _) hb)
          clear hb
          go_wp2_with fail
          go_ret
          exact ⟨by rw [HTM.out]; rfl, HBF.out⟩
        · have hq : es.length = 2 := by have : coArity 8 = 2 := rfl; omega
          have HXL : Hid ((Co.texts es).length = 2) := by show _ = _; rw [HTL.out]; exact hq
          clear b7 HAL hkr
          have b0 := box_cell HB2.out 0
          have b1 := box_cell HB2.out 1
          have b2 := box_cell HB2.out 2
          have b3 := box_cell HB2.out 3
          have b4 := box_cell HB2.out 4
          have b5 := box_cell HB2.out 5
          have b6 := box_cell HB2.out 6
          have b7 := box_cell HB2.out 7
          have b8 := box_cell HB2.out 8
          have hnz := numB_size n HNN.out.1 HNN.out.2
          have hns : nm.size ≤ 1048576 := by have := HSZ.out; omega
          have HBF := Lib.hid HBB.out
          have HL3 := HL2.out
          rw [HXL.out] at HL3
          obtain ⟨oa, oc, rfl⟩ := own_slice HL3
          clear HL3 hq
          have HCB2 := Lib.hid (specBetween 8 nm (numB n) fr.text ty.text n (Co.texts es) (envSay ns (Co.texts vs)) _ wr (Or.inl ⟨by omega, HXL.out⟩) HST.out (by have := HTOT.out; omega))
          go_wp2_with fail
          refine HCB2.out.mono ?_
          rintro e w5 ⟨rfl, hb⟩
          replace HBF := Lib.hid (below_thru HBF.out (Nat.le_refl _) hb)
          clear hb
          go_wp2_with fail
          go_ret
          exact ⟨by rw [HTM.out]; rfl, HBF.out⟩
        · have hq : es.length = 0 := by have : coArity 9 = 0 := rfl; omega
          have HXL : Hid ((Co.texts es).length = 0) := by show _ = _; rw [HTL.out]; exact hq
          clear b7 HAL hkr
          have b0 := box_cell HB2.out 0
          have b1 := box_cell HB2.out 1
          have b2 := box_cell HB2.out 2
          have b3 := box_cell HB2.out 3
          have b4 := box_cell HB2.out 4
          have b5 := box_cell HB2.out 5
          have b6 := box_cell HB2.out 6
          have b7 := box_cell HB2.out 7
          have b8 := box_cell HB2.out 8
          have hnz := numB_size n HNN.out.1 HNN.out.2
          have hns : nm.size ≤ 1048576 := by have := HSZ.out; omega
          have HBF := Lib.hid HBB.out
          clear hq
          rcases co_bool HNF.out with rfl | rfl
          · go_wp2_with fail
            go_ret
            exact ⟨by rw [HTM.out]; rfl, HBF.out⟩
          · go_wp2_with fail
            go_ret
            exact ⟨by rw [HTM.out]; rfl, HBF.out⟩
        · have hq : es.length = 3 := by have : coArity 10 = 3 := rfl; omega
          have HXL : Hid ((Co.texts es).length = 3) := by show _ = _; rw [HTL.out]; exact hq
          clear b7 HAL hkr
          have b0 := box_cell HB2.out 0
          have b1 := box_cell HB2.out 1
          have b2 := box_cell HB2.out 2
          have b3 := box_cell HB2.out 3
          have b4 := box_cell HB2.out 4
          have b5 := box_cell HB2.out 5
          have b6 := box_cell HB2.out 6
          have b7 := box_cell HB2.out 7
          have b8 := box_cell HB2.out 8
          have hnz := numB_size n HNN.out.1 HNN.out.2
          have hns : nm.size ≤ 1048576 := by have := HSZ.out; omega
          have HBF := Lib.hid HBB.out
          have HL3 := HL2.out
          rw [HXL.out] at HL3
          obtain ⟨oa, oc, rfl⟩ := own_slice HL3
          clear HL3 hq
          have HCB2 := Lib.hid (specBetween 10 nm (numB n) fr.text ty.text n (Co.texts es) (envSay ns (Co.texts vs)) _ wr (Or.inr ⟨rfl, HXL.out⟩) HST.out (by have := HTOT.out; omega))
          go_wp2_with fail
          refine HCB2.out.mono ?_
          rintro e w5 ⟨rfl, hb⟩
          replace HBF := Lib.hid (below_thru HBF.out (Nat.le_refl _) hb)
          clear hb
          go_wp2_with fail
          go_ret
          exact ⟨by rw [HTM.out]; rfl, HBF.out⟩
        · have hq : es.length = 2 := by have : coArity 11 = 2 := rfl; omega
          have HXL : Hid ((Co.texts es).length = 2) := by show _ = _; rw [HTL.out]; exact hq
          clear b7 HAL hkr
          have b0 := box_cell HB2.out 0
          have b1 := box_cell HB2.out 1
          have b2 := box_cell HB2.out 2
          have b3 := box_cell HB2.out 3
          have b4 := box_cell HB2.out 4
          have b5 := box_cell HB2.out 5
          have b6 := box_cell HB2.out 6
          have b7 := box_cell HB2.out 7
          have b8 := box_cell HB2.out 8
          have hnz := numB_size n HNN.out.1 HNN.out.2
          have hns : nm.size ≤ 1048576 := by have := HSZ.out; omega
          have HBF := Lib.hid HBB.out
          have HL3 := HL2.out
          rw [HXL.out] at HL3
          obtain ⟨oa, oc, rfl⟩ := own_slice HL3
          clear HL3 hq
          have HCB2 := Lib.hid (specBetween 11 nm (numB n) fr.text ty.text n (Co.texts es) (envSay ns (Co.texts vs)) _ wr (Or.inl ⟨by omega, HXL.out⟩) HST.out (by have := HTOT.out; omega))
          go_wp2_with fail
          refine HCB2.out.mono ?_
          rintro e w5 ⟨rfl, hb⟩
          replace HBF := Lib.hid (below_thru HBF.out (Nat.le_refl _) hb)
          clear hb
          go_wp2_with fail
          go_ret
          exact ⟨by rw [HTM.out]; rfl, HBF.out⟩
        · have hq : es.length = 1 := by have : coArity 12 = 1 := rfl; omega
          have HXL : Hid ((Co.texts es).length = 1) := by show _ = _; rw [HTL.out]; exact hq
          clear b7 HAL hkr
          have b0 := box_cell HB2.out 0
          have b1 := box_cell HB2.out 1
          have b2 := box_cell HB2.out 2
          have b3 := box_cell HB2.out 3
          have b4 := box_cell HB2.out 4
          have b5 := box_cell HB2.out 5
          have b6 := box_cell HB2.out 6
          have b7 := box_cell HB2.out 7
          have b8 := box_cell HB2.out 8
          have hnz := numB_size n HNN.out.1 HNN.out.2
          have hns : nm.size ≤ 1048576 := by have := HSZ.out; omega
          have HBF := Lib.hid HBB.out
          have HT2 := Lib.hid (coText_one 12 nm n fr ty es ns vs HXL.out)
          have htt := HTOT.out
          have hp0 : 0 < (Co.texts es).length := by rw [HXL.out]; omega
          have s0 := total_get (Co.texts es) 0 hp0
          have HL3 := HL2.out
          rw [HXL.out] at HL3
          obtain ⟨oa, oc, rfl⟩ := own_slice HL3
          clear HL3
          obtain ⟨ob, off, rfl, HCC⟩ := strs_pos HST.out hp0
          have C0 := Lib.hid (HCC 0 hp0)
          clear HCC
          rw [Nat.add_zero] at C0
          generalize (Co.texts es)[0]'hp0 = x0 at HT2 s0 C0
          clear hq
          have c0 := C0.out.2
          have m0 : ¬ (9223372036854775807 < 5 + x0.size) := by omega
          have m1 : ¬ (9223372036854775807 < 5 + x0.size + 1) := by omega
          clear hnz hns htt s0
          go_wp2_with fail
          go_ret
          exact ⟨by rw [HT2.out]; rfl, HBF.out⟩
        · have hq : es.length = 1 := by have : coArity 13 = 1 := rfl; omega
          have HXL : Hid ((Co.texts es).length = 1) := by show _ = _; rw [HTL.out]; exact hq
          clear b7 HAL hkr
          have b0 := box_cell HB2.out 0
          have b1 := box_cell HB2.out 1
          have b2 := box_cell HB2.out 2
          have b3 := box_cell HB2.out 3
          have b4 := box_cell HB2.out 4
          have b5 := box_cell HB2.out 5
          have b6 := box_cell HB2.out 6
          have b7 := box_cell HB2.out 7
          have b8 := box_cell HB2.out 8
          have hnz := numB_size n HNN.out.1 HNN.out.2
          have hns : nm.size ≤ 1048576 := by have := HSZ.out; omega
          have HBF := Lib.hid HBB.out
          have HT2 := Lib.hid (coText_one 13 nm n fr ty es ns vs HXL.out)
          have htt := HTOT.out
          have hp0 : 0 < (Co.texts es).length := by rw [HXL.out]; omega
          have s0 := total_get (Co.texts es) 0 hp0
          have HL3 := HL2.out
          rw [HXL.out] at HL3
          obtain ⟨oa, oc, rfl⟩ := own_slice HL3
          clear HL3
          obtain ⟨ob, off, rfl, HCC⟩ := strs_pos HST.out hp0
          have C0 := Lib.hid (HCC 0 hp0)
          clear HCC
          rw [Nat.add_zero] at C0
          generalize (Co.texts es)[0]'hp0 = x0 at HT2 s0 C0
          clear hq
          have c0 := C0.out.2
          have m0 : ¬ (9223372036854775807 < 5 + x0.size) := by omega
          have m1 : ¬ (9223372036854775807 < 5 + x0.size + 1) := by omega
          clear hnz hns htt s0
          go_wp2_with fail
          go_ret
          exact ⟨by rw [HT2.out]; rfl, HBF.out⟩
        · have hq : es.length = 1 := by have : coArity 14 = 1 := rfl; omega
          have HXL : Hid ((Co.texts es).length = 1) := by show _ = _; rw [HTL.out]; exact hq
          clear b7 HAL hkr
          have b0 := box_cell HB2.out 0
          have b1 := box_cell HB2.out 1
          have b2 := box_cell HB2.out 2
          have b3 := box_cell HB2.out 3
          have b4 := box_cell HB2.out 4
          have b5 := box_cell HB2.out 5
          have b6 := box_cell HB2.out 6
          have b7 := box_cell HB2.out 7
          have b8 := box_cell HB2.out 8
          have hnz := numB_size n HNN.out.1 HNN.out.2
          have hns : nm.size ≤ 1048576 := by have := HSZ.out; omega
          have HBF := Lib.hid HBB.out
          have HT2 := Lib.hid (coText_one 14 nm n fr ty es ns vs HXL.out)
          have htt := HTOT.out
          have hp0 : 0 < (Co.texts es).length := by rw [HXL.out]; omega
          have s0 := total_get (Co.texts es) 0 hp0
          have HL3 := HL2.out
          rw [HXL.out] at HL3
          obtain ⟨oa, oc, rfl⟩ := own_slice HL3
          clear HL3
          obtain ⟨ob, off, rfl, HCC⟩ := strs_pos HST.out hp0
          have C0 := Lib.hid (HCC 0 hp0)
          clear HCC
          rw [Nat.add_zero] at C0
          generalize (Co.texts es)[0]'hp0 = x0 at HT2 s0 C0
          clear hq
          have CT : ∀ q : Grown wr.heap.size wr, Calls Tryd.prog 93 #[.agg #[.int .i64 tk, .slice ta tn tc]] q.val fun e w' => e = .returned (.string ty.text) ∧ Below q.val.heap.size q.val w' := fun q => specText d _ ty q.val (HTY.out.below (below_thru HBB.out (Nat.le_refl _) q.old)) (valid_form (co_ty HTF.out (by omega))) HTZ.out
          have hts := ty.text_size
          have htz := HTZ.out
          have CF : ∀ q : Grown wr.heap.size wr, Calls Tryd.prog 93 #[.agg #[.int .i64 fk, .slice fa fn fc]] q.val fun e w' => e = .returned (.string fr.text) ∧ Below q.val.heap.size q.val w' := fun q => specText d _ fr q.val (HFR.out.below (below_thru HBB.out (Nat.le_refl _) q.old)) (valid_form (co_fr HTF.out (by omega))) HFZ.out
          have hfs := fr.text_size
          have hfz := HFZ.out
          generalize ty.text = ts at CT HT2 hts
          generalize fr.text = fx at CF HT2 hfs
          have m0 : ¬ (9223372036854775807 < 1 + x0.size) := by omega
          have m1 : ¬ (9223372036854775807 < 1 + x0.size + 1) := by omega
          have m2 : ¬ (9223372036854775807 < 1 + x0.size + 1 + fx.size) := by omega
          have m3 : ¬ (9223372036854775807 < 1 + x0.size + 1 + fx.size + 2) := by omega
          have m4 : ¬ (9223372036854775807 < 1 + x0.size + 1 + fx.size + 2 + ts.size) := by omega
          have m5 : ¬ (9223372036854775807 < 1 + x0.size + 1 + fx.size + 2 + ts.size + 1) := by omega
          clear hnz hns hts htz hfs hfz htt s0
          go_wp2_with fail
          have hbw : w.heap.size < wr.heap.size := by have := HB2.out.size; simp at this; omega
          have g3 : ∀ q : Grown wr.heap.size wr, q.val.cell? ⟨w.heap.size, 3, none⟩ = some (.int .i64 fk) := fun q => (q.old.cell (p := ⟨w.heap.size, 3, none⟩) hbw).trans b3
          have g4 : ∀ q : Grown wr.heap.size wr, q.val.cell? ⟨w.heap.size, 4, none⟩ = some (.slice fa fn fc) := fun q => (q.old.cell (p := ⟨w.heap.size, 4, none⟩) hbw).trans b4
          have g5 : ∀ q : Grown wr.heap.size wr, q.val.cell? ⟨w.heap.size, 5, none⟩ = some (.int .i64 tk) := fun q => (q.old.cell (p := ⟨w.heap.size, 5, none⟩) hbw).trans b5
          have g6 : ∀ q : Grown wr.heap.size wr, q.val.cell? ⟨w.heap.size, 6, none⟩ = some (.slice ta tn tc) := fun q => (q.old.cell (p := ⟨w.heap.size, 6, none⟩) hbw).trans b6
          have ga : ∀ q : Grown wr.heap.size wr, q.val.cell? ⟨ob, off, none⟩ = some (.string x0) := fun q => (q.old.cell (p := ⟨ob, off, none⟩) C0.out.1).trans C0.out.2
          refine wp_region_grown wr.heap.size (by kernel_rfl) (by kernel_rfl) ?_
          repeat (go_big_quiet_step (first | (go_at_call 93; first | with_reducible exact grown_of (Nat.le_refl _) (CF _) | with_reducible exact grown_of (Nat.le_refl _) (CT _))))
          refine wpQuiet_nil ?_
          rintro _ ⟨⟨wq, hq⟩, rfl⟩
          go_wp2_with fail
          go_ret
          exact ⟨by rw [HT2.out]; rfl, below_thru HBF.out (Nat.le_refl _) hq⟩
        · have hq : es.length = 1 := by have : coArity 15 = 1 := rfl; omega
          have HXL : Hid ((Co.texts es).length = 1) := by show _ = _; rw [HTL.out]; exact hq
          clear b7 HAL hkr
          have b0 := box_cell HB2.out 0
          have b1 := box_cell HB2.out 1
          have b2 := box_cell HB2.out 2
          have b3 := box_cell HB2.out 3
          have b4 := box_cell HB2.out 4
          have b5 := box_cell HB2.out 5
          have b6 := box_cell HB2.out 6
          have b7 := box_cell HB2.out 7
          have b8 := box_cell HB2.out 8
          have hnz := numB_size n HNN.out.1 HNN.out.2
          have hns : nm.size ≤ 1048576 := by have := HSZ.out; omega
          have HBF := Lib.hid HBB.out
          have HT2 := Lib.hid (coText_one 15 nm n fr ty es ns vs HXL.out)
          have htt := HTOT.out
          have hp0 : 0 < (Co.texts es).length := by rw [HXL.out]; omega
          have s0 := total_get (Co.texts es) 0 hp0
          have HL3 := HL2.out
          rw [HXL.out] at HL3
          obtain ⟨oa, oc, rfl⟩ := own_slice HL3
          clear HL3
          obtain ⟨ob, off, rfl, HCC⟩ := strs_pos HST.out hp0
          have C0 := Lib.hid (HCC 0 hp0)
          clear HCC
          rw [Nat.add_zero] at C0
          generalize (Co.texts es)[0]'hp0 = x0 at HT2 s0 C0
          clear hq
          have CT : ∀ q : Grown wr.heap.size wr, Calls Tryd.prog 93 #[.agg #[.int .i64 tk, .slice ta tn tc]] q.val fun e w' => e = .returned (.string ty.text) ∧ Below q.val.heap.size q.val w' := fun q => specText d _ ty q.val (HTY.out.below (below_thru HBB.out (Nat.le_refl _) q.old)) (valid_form (co_ty HTF.out (by omega))) HTZ.out
          have hts := ty.text_size
          have htz := HTZ.out
          have CF : ∀ q : Grown wr.heap.size wr, Calls Tryd.prog 93 #[.agg #[.int .i64 fk, .slice fa fn fc]] q.val fun e w' => e = .returned (.string fr.text) ∧ Below q.val.heap.size q.val w' := fun q => specText d _ fr q.val (HFR.out.below (below_thru HBB.out (Nat.le_refl _) q.old)) (valid_form (co_fr HTF.out (by omega))) HFZ.out
          have hfs := fr.text_size
          have hfz := HFZ.out
          generalize ty.text = ts at CT HT2 hts
          generalize fr.text = fx at CF HT2 hfs
          have m0 : ¬ (9223372036854775807 < 1 + x0.size) := by omega
          have m1 : ¬ (9223372036854775807 < 1 + x0.size + 1) := by omega
          have m2 : ¬ (9223372036854775807 < 1 + x0.size + 1 + fx.size) := by omega
          have m3 : ¬ (9223372036854775807 < 1 + x0.size + 1 + fx.size + 1) := by omega
          have m4 : ¬ (9223372036854775807 < 1 + x0.size + 1 + fx.size + 1 + ts.size) := by omega
          have m5 : ¬ (9223372036854775807 < 1 + x0.size + 1 + fx.size + 1 + ts.size + 1) := by omega
          clear hnz hns hts htz hfs hfz htt s0
          go_wp2_with fail
          have hbw : w.heap.size < wr.heap.size := by have := HB2.out.size; simp at this; omega
          have g3 : ∀ q : Grown wr.heap.size wr, q.val.cell? ⟨w.heap.size, 3, none⟩ = some (.int .i64 fk) := fun q => (q.old.cell (p := ⟨w.heap.size, 3, none⟩) hbw).trans b3
          have g4 : ∀ q : Grown wr.heap.size wr, q.val.cell? ⟨w.heap.size, 4, none⟩ = some (.slice fa fn fc) := fun q => (q.old.cell (p := ⟨w.heap.size, 4, none⟩) hbw).trans b4
          have g5 : ∀ q : Grown wr.heap.size wr, q.val.cell? ⟨w.heap.size, 5, none⟩ = some (.int .i64 tk) := fun q => (q.old.cell (p := ⟨w.heap.size, 5, none⟩) hbw).trans b5
          have g6 : ∀ q : Grown wr.heap.size wr, q.val.cell? ⟨w.heap.size, 6, none⟩ = some (.slice ta tn tc) := fun q => (q.old.cell (p := ⟨w.heap.size, 6, none⟩) hbw).trans b6
          have ga : ∀ q : Grown wr.heap.size wr, q.val.cell? ⟨ob, off, none⟩ = some (.string x0) := fun q => (q.old.cell (p := ⟨ob, off, none⟩) C0.out.1).trans C0.out.2
          refine wp_region_grown wr.heap.size (by kernel_rfl) (by kernel_rfl) ?_
          repeat (go_big_quiet_step (first | (go_at_call 93; first | with_reducible exact grown_of (Nat.le_refl _) (CF _) | with_reducible exact grown_of (Nat.le_refl _) (CT _))))
          refine wpQuiet_nil ?_
          rintro _ ⟨⟨wq, hq⟩, rfl⟩
          go_wp2_with fail
          go_ret
          exact ⟨by rw [HT2.out]; rfl, below_thru HBF.out (Nat.le_refl _) hq⟩
end Go.Proofs.YtcohfbdhdngplaaDoor
