/-
  Proved: impl.FreshHole gives the least positive number that no hole and no mark of an expression has; the memory that was there stays as it was.
-/
import Derived.Test.YtadjaclmgdmnbaaFreshInts
import Derived.Test.YtadjaclmgdmnbaaImplHoles
import Derived.Test.YtadjaclmgdmnbaaSetAt
namespace Go.Proofs.Ytadjaclmgdmnbaa
open Go.RowKit Go.Maps Go.WideMaps

theorem law_int : Keyed Try.prog 3 := int_keyed Try.underlying3
theorem zero_bool (w : World) : (zeroValue 4).run Try.prog w = .ok (.bool false) w := by kernel_rfl
def inB (L : List Int) (n : Int) : Bool := decide (n ∈ L)
theorem inB_nil : (fun _ => false) = inB [] := by funext l; simp [inB]
theorem inB_put (L : List Int) (x : Int) : (fun n => if n = x then true else inB L n) = inB (L ++ [x]) := by
  funext n
  by_cases h : n = x
  · rw [if_pos h]; simp [inB, h]
  · rw [if_neg h]; simp [inB, h]
abbrev IntSet (w : World) (b n : Nat) (L : List Int) : Prop := SetAt Try.prog 3 4 (Lit.int .i64) w b n (inB L)
theorem itake_add (ss : List Int) (k : Nat) (h : k < ss.length) : ss.take (k + 1) = ss.take k ++ [ss[k]] := by
  rw [List.take_add_one, List.getElem?_eq_getElem h]; rfl
theorem wf64 {n : Int} (h0 : -9223372036854775808 ≤ n) (h1 : n ≤ 9223372036854775807) : (Lit.int .i64 n).wf = true := WalkArith.wf_i64 (by omega)
set_option maxRecDepth 100000 in
set_option maxHeartbeats 2000000 in
theorem implFreshHole (d : Nat) (v : Value) (t : Ex) (w : World) (h : ExAt w d v t) (hsz : t.bulk ≤ 1048576) :
    Calls Try.prog 38 #[v] w fun e w' => ∃ n, e = .returned (.int .i64 n) ∧ FirstOut t.holes n ∧ Below w.heap.size w w' := by
  have HT := Lib.hid h
  have H64 := Lib.hid h.holes64
  obtain ⟨yk, ynm, yn, ytk, yta, ytn, ytc, ya, ym, yc, rfl⟩ := ex_parts h
  clear h
  obtain ⟨W, hW⟩ : ∃ W, W = (w.alloc (.cells #[.int .i64 yk, .string ynm, .int .i64 yn, .int .i64 ytk, .slice yta ytn ytc, .slice ya ym yc] 36)).alloc (.map #[] 0) := ⟨_, rfl⟩
  have E0 : Hid (Below w.heap.size w W) := by rw [hW]; exact ((Below.refl _ _).alloc (Nat.le_refl _) _).alloc (by simp) _
  have HS0 : Hid (IntSet W (w.heap.size + 1) 0 []) := by
    have := SetAt.new Try.prog 3 4 (Lit.int .i64) (w.alloc (.cells #[.int .i64 yk, .string ynm, .int .i64 yn, .int .i64 ytk, .slice yta ytn ytc, .slice ya ym yc] 36))
    rw [World.size_alloc] at this
    show SetAt _ _ _ _ _ _ _ _
    rw [← inB_nil, hW]; exact this
  have hfew := t.holes_few
  obtain ⟨us, hus⟩ : ∃ us, us = t.holes := ⟨_, rfl⟩
  rw [← hus] at hfew
  have HUS := Lib.hid hus; clear hus
  have hmm := @run_makeMap Try.prog
  go_enter Try.func38, Try.ntmps38
  go_wp2_with fail
  clear hmm
  rw [← hW]
  refine (implHoles d _ t _ (HT.out.below E0.out) hsz).mono ?_
  rintro e w1 ⟨v1, rfl, hi, hb⟩
  rw [← HUS.out] at hi
  have B1 := Lib.hid (E0.out.trans (hb.mono E0.out.size))
  have HS1 := Lib.hid (HS0.out.below hb)
  have hzW : w.heap.size + 2 ≤ w1.heap.size := by have := hb.size; rw [hW] at this; simp at this; omega
  clear hb
  obtain ⟨a, cap, hv, _, _⟩ := hi.ints
  subst hv
  have hown : w1.ownsRow (w.heap.size + 2) 3 1 (.slice a us.length cap) us.length (us.map (Value.int IntKind.i64)) := by
    have h := hi.1
    have e : W.heap.size = w.heap.size + 2 := by rw [hW]; simp
    rw [e] at h; exact h
  have HO1 := Lib.hid hown
  clear hown hi hW
  go_wp2_with fail
  go_loopw [5, 11] (fun _ i wr => ∃ k : Nat, k ≤ us.length ∧ i = .int .i64 k ∧ IntSet wr (w.heap.size + 1) k (us.take k) ∧ wr.ownsRow (w.heap.size + 2) 3 1 (.slice a us.length cap) us.length (us.map (Value.int IntKind.i64)) ∧ Below w.heap.size w wr) (fun _ i _ => us.length - (intOf i).toNat)
  case atStart => exact ⟨0, by omega, rfl, HS1.out, HO1.out, B1.out⟩
  case round =>
    obtain ⟨k, hk, rfl, hset, hown, hb⟩ := hrel
    have HSET := Lib.hid hset; clear hset
    have HO := Lib.hid hown; clear hown
    have HB := Lib.hid hb; clear hb
    by_cases hlt : k < us.length
    · obtain ⟨a', cap', hv, _, hat⟩ := Ints.of_own HO.out
      injection hv with e1 e2 e3
      obtain ⟨b, off, ha, hbl, hcell⟩ := hat k hlt
      rw [← e1] at ha
      subst ha
      clear e1 e2 e3 hat
      have h64 := H64.out us[k] (by rw [← HUS.out]; exact List.getElem_mem hlt)
      obtain ⟨x, hx⟩ : ∃ x, x = us[k] := ⟨_, rfl⟩
      rw [← hx] at hcell h64
      have HX := Lib.hid hx; clear hx
      have hkey : keyOf Try.prog 3 (.int .i64 x) = some (.int .i64 x) := keyOf_int_mk Try.underlying3 (wf64 h64.1 h64.2)
      have HK := Lib.hid hkey; clear hkey h64
      go_wp2_with (at_mapUpdate; refine set_store _ rfl _ _ _ 80 rfl law_int Try.underlying80 Try.underlying4 rfl HSET.out (by unfold maxLen; omega) _ x rfl true rfl HK.out (fun _ h => by injection h) trivial ?_; intro w2 hset1 hg1)
      have hset2 : IntSet w2 (w.heap.size + 1) (k + 1) (us.take (k + 1)) := by
        show SetAt _ _ _ _ _ _ _ _
        rw [itake_add us k hlt, ← HX.out, ← inB_put]; exact hset1
      have ho2 := HO.out.kept hg1 (Or.inr fun e => by have := (HO.out.lt _ e).1; omega)
      have HS2 := Lib.hid hset2
      have HO2 := Lib.hid ho2
      have HB2 := Lib.hid (HB.out.grown hg1 HB.out.size (fun j hj => by cases hj; exact Nat.le_succ _))
      clear hset1 hset2 hg1 ho2 hcell
      go_wp2_with fail
      exact ⟨⟨k + 1, by omega, by go_num, HS2.out, HO2.out, HB2.out⟩, by simp [intOf]; omega⟩
    · obtain rfl : k = us.length := by omega
      have hset := HSET.out
      rw [List.take_length] at hset
      have HSF := Lib.hid hset; clear hset HSET HO
      go_wp2_with fail
      go_loopw [6] (fun x wx => ∃ n : Int, x = .int .i64 n ∧ LowAt us n ∧ IntSet wx (w.heap.size + 1) us.length us ∧ Below w.heap.size w wx) (fun x _ => us.length + 2 - (intOf x).toNat)
      case atStart => exact ⟨1, rfl, LowAt.start _, HSF.out, HB.out⟩
      case round =>
        clear HSF HB
        obtain ⟨n, rfl, hlow, hset, hb⟩ := hrel
        have hfn := hlow.few
        have hn0 := hlow.1
        have HL := Lib.hid hlow; clear hlow
        have HSX := Lib.hid hset; clear hset
        have HBX := Lib.hid hb; clear hb
        have hkey : keyOf Try.prog 3 (.int .i64 n) = some (.int .i64 n) := keyOf_int_mk Try.underlying3 (wf64 (by omega) (by omega))
        have HK := Lib.hid hkey; clear hkey
        go_wp2_with (at_lookup; refine set_lookup _ rfl _ _ 80 rfl law_int Try.underlying80 Try.underlying4 (zero_bool _) rfl HSX.out _ n rfl HK.out ?_)
        · have hq : inB us n = true := by assumption
          have hm : n ∈ us := by simpa [inB] using hq
          have HNX := Lib.hid (HL.out.next hm)
          clear hm
          go_roundw
          case rel => exact ⟨n + 1, by go_num, HNX.out, HSX.out, HBX.out⟩
          case measure => simp [intOf]; omega
        · have hq : inB us n = false := by assumption
          have hm : n ∉ us := by simpa [inB] using hq
          have HF : Hid (FirstOut us n) := ⟨HL.out, hm⟩
          clear hm
          go_ret
          exact ⟨n, rfl, by rw [← HUS.out]; exact HF.out, HBX.out⟩
end Go.Proofs.Ytadjaclmgdmnbaa
