/-
  Proved: impl.isCoreNumberFor, impl.isCoreTypeIf and impl.hasOwnNames say whether the number, a type and the names of an environment belong to a node; the memory that was there stays as it was.
-/
import Derived.Test.YteeojgefnoaajaaDoorCoForm
import Derived.Test.YteeojgefnoaajaaDoorSetGuard
import Derived.Test.YteeojgefnoaajaaDoorImplName
import Derived.Test.YteeojgefnoaajaaDoorImplValid
import Derived.Test.YteeojgefnoaajaaDoorImplEqual
import Derived.Test.YteeojgefnoaajaaDoorHold
import Derived.Test.YteeojgefnoaajaaDoorSzCore
namespace Go.Proofs.YteeojgefnoaajaaDoor
open Go.RowKit Go.Maps Go.WideMaps

set_option maxRecDepth 100000 in
set_option maxHeartbeats 4000000 in
theorem implCoNum (kd n : Int) (w : World) : Calls Tryd.prog 130 #[.int .i64 kd, .int .i64 n] w fun e w' => e = .returned (.bool (coNumFor kd n)) ∧ Below w.heap.size w w' := by
  by_cases q1 : kd = 1
  · subst q1
    by_cases r1 : 1 ≤ n
    · by_cases r2 : n ≤ 99
      · skip
        go_enter Tryd.func130, Tryd.ntmps130
        go_wp2_with fail
        go_ret
        exact ⟨by first | (simp [coNumFor, *]; done) | (simp [coNumFor, *]; omega), Below.refl _ _⟩
      · skip
        go_enter Tryd.func130, Tryd.ntmps130
        go_wp2_with fail
        go_ret
        exact ⟨by first | (simp [coNumFor, *]; done) | (simp [coNumFor, *]; omega), Below.refl _ _⟩
    · skip
      go_enter Tryd.func130, Tryd.ntmps130
      go_wp2_with fail
      go_ret
      exact ⟨by first | (simp [coNumFor, *]; done) | (simp [coNumFor, *]; omega), Below.refl _ _⟩
  by_cases q2 : kd = 2
  · subst q2
    by_cases r1 : 1 ≤ n
    · by_cases r2 : n ≤ 99
      · skip
        go_enter Tryd.func130, Tryd.ntmps130
        go_wp2_with fail
        go_ret
        exact ⟨by first | (simp [coNumFor, *]; done) | (simp [coNumFor, *]; omega), Below.refl _ _⟩
      · skip
        go_enter Tryd.func130, Tryd.ntmps130
        go_wp2_with fail
        go_ret
        exact ⟨by first | (simp [coNumFor, *]; done) | (simp [coNumFor, *]; omega), Below.refl _ _⟩
    · skip
      go_enter Tryd.func130, Tryd.ntmps130
      go_wp2_with fail
      go_ret
      exact ⟨by first | (simp [coNumFor, *]; done) | (simp [coNumFor, *]; omega), Below.refl _ _⟩
  by_cases q9 : kd = 9
  · subst q9
    by_cases r0 : n = 0
    · subst r0
      go_enter Tryd.func130, Tryd.ntmps130
      go_wp2_with fail
      go_ret
      exact ⟨by simp [coNumFor], Below.refl _ _⟩
    · have r0b : (n == 0) = false := by simp [r0]
      by_cases r1 : n = 1
      · subst r1
        go_enter Tryd.func130, Tryd.ntmps130
        go_wp2_with fail
        go_ret
        exact ⟨by simp [coNumFor], Below.refl _ _⟩
      · have r1b : (n == 1) = false := by simp [r1]
        go_enter Tryd.func130, Tryd.ntmps130
        go_wp2_with fail
        go_ret
        exact ⟨by simp [coNumFor]; omega, Below.refl _ _⟩
  have z1 : (kd == 1) = false := by simp [q1]
  have z2 : (kd == 2) = false := by simp [q2]
  have z9 : (kd == 9) = false := by simp [q9]
  by_cases r0 : n = 0
  · subst r0
    go_enter Tryd.func130, Tryd.ntmps130
    go_wp2_with fail
    go_ret
    exact ⟨by simp [coNumFor, q1, q2, q9], Below.refl _ _⟩
  have r0b : (n == 0) = false := by simp [r0]
  by_cases q6 : kd = 6
  · subst q6
    go_enter Tryd.func130, Tryd.ntmps130
    go_wp2_with fail
    go_ret
    exact ⟨by simp [coNumFor], Below.refl _ _⟩
  have z6 : (kd == 6) = false := by simp [q6]
  go_enter Tryd.func130, Tryd.ntmps130
  go_wp2_with fail
  go_ret
  exact ⟨by simp [coNumFor, q1, q2, q9, q6, r0], Below.refl _ _⟩
theorem nil_ty (w : World) {d : Nat} {v : Value} {t : Ty} (h : TyAt w d v t) : TyAt w d (.agg #[.int .i64 0, .slice none 0 0]) (.node 0 []) := by
  cases d with
  | zero => exact h.elim
  | succ d => exact ⟨_, rfl, by omega, by omega, none, 0, rfl, Nat.le_refl _, by omega, fun j hj => by simp at hj⟩
set_option maxRecDepth 100000 in
set_option maxHeartbeats 4000000 in
theorem implCoTyIf (d : Nat) (b : Bool) (v : Value) (t : Ty) (w : World) (h : TyAt w d v t) (hsz : t.size ≤ 1048577) : Calls Tryd.prog 133 #[.bool b, v] w fun e w' => e = .returned (.bool (coTyFor b t)) ∧ Below w.heap.size w w' := by
  have HT := Lib.hid h
  obtain ⟨yk, ya, yn, yc, rfl⟩ := agg_parts h
  clear h
  cases b with
  | true =>
    go_enter Tryd.func133, Tryd.ntmps133
    go_wp2_with fail
    refine (implValid d _ t _ (HT.out.below (below_alloc _ _)) hsz).mono ?_
    rintro e w2 ⟨rfl, hb2⟩
    go_wp2_with fail
    go_ret
    exact ⟨rfl, below_on (below_alloc _ _) hb2 (by simp)⟩
  | false =>
    go_enter Tryd.func133, Tryd.ntmps133
    go_wp2_with fail
    refine (implEqual d _ _ t (.node 0 []) _ (HT.out.below (below_alloc _ _)) (nil_ty _ (HT.out.below (below_alloc _ _)))).mono ?_
    rintro e w2 ⟨rfl, hb2⟩
    go_wp2_with fail
    go_ret
    exact ⟨rfl, below_on (below_alloc _ _) hb2 (by simp)⟩
set_option maxRecDepth 100000 in
set_option maxHeartbeats 4000000 in
theorem own_step {ns : List ByteArray} {k : Nat} (h : k < ns.length) (hb : (nameB ns[k] && !seenB (ns.take k) ns[k].data.toList) = false) : ownNames [] ns = false := by
  have e := ownNames_take ns [] k h
  rw [List.nil_append, hb, Bool.and_false] at e
  exact ownNames_false ns [] (k + 1) e
set_option maxRecDepth 100000 in
set_option maxHeartbeats 4000000 in
theorem implOwnNames (d : Nat) (v : Value) (ns : List ByteArray) (vs : List Co) (w : World) (h : CbsAt w d v ns vs) (hn : vs.length ≤ 1048576) :
    Calls Tryd.prog 132 #[v] w fun e w' => e = .returned (.bool (ownNames [] ns)) ∧ Below w.heap.size w w' := by
  obtain ⟨hln, a, cap, rfl, hcap, hcap2, hat⟩ := h
  have HAT := Lib.hid hat; clear hat
  have HLN := Lib.hid hln; clear hln
  have hmm := @run_makeMap Tryd.prog
  go_enter Tryd.func132, Tryd.ntmps132
  go_wp2_with fail
  clear hmm
  go_loopw [9] (fun i wr => ∃ (k : Nat) (L : List ByteArray), k ≤ vs.length ∧ i = .int .i64 k ∧ L = ns.take k ∧ ownNames [] (ns.take k) = true ∧ NamesAt wr w.heap.size k L ∧ Below w.heap.size w wr) (fun i _ => vs.length - (intOf i).toNat)
  case atStart => exact ⟨0, [], by omega, rfl, by simp, by simp [ownNames], by show SetAt _ _ _ _ _ _ _ _; rw [← seenB_nil]; exact SetAt.new _ _ _ _ _, (Below.refl _ _).alloc (Nat.le_refl _) _⟩
  case round =>
    obtain ⟨k, L, hk, rfl, hL, hon, hset, hb⟩ := hrel
    have HL := Lib.hid hL; clear hL
    have HON := Lib.hid hon; clear hon
    have HB := Lib.hid hb; clear hb
    have HN := Lib.hid hset; clear hset
    by_cases hlt : k < vs.length
    · have hlt2 : k < ns.length := by have := HLN.out; omega
      obtain ⟨b, off, x0, x1, x2, x3, x4, x5, x6, x7, x8, rfl, hbl, hnz, hcn, _⟩ := HAT.out k hlt hlt2
      have HTK := Lib.hid (take_add ns k hlt2)
      have HOT := Lib.hid (ownNames_take ns [] k hlt2)
      have HNAME : Hid ((nameB ns[k] && !seenB L ns[k].data.toList) = false → ownNames [] ns = false) := by intro hq; rw [HL.out] at hq; exact own_step hlt2 hq
      obtain ⟨x, hx⟩ : ∃ x, x = ns[k] := ⟨_, rfl⟩
      rw [← hx] at hcn hnz
      rw [← hx] at HTK HOT HNAME
      clear hx
      have en : wr.cell? ⟨b, off + k * 10, none⟩ = some (.string x) := (HB.out.cell (p := ⟨b, off + k * 10, none⟩) hbl).trans hcn
      have hkey : keyOf Tryd.prog 9 (.string x) = some (.string x.data.toList) := keyOf_string_mk Tryd.underlying9 hnz
      have HK := Lib.hid hkey; clear hkey hcn
      go_wp2_with fail
      refine (implName x _ hnz).mono ?_
      rintro e w2 ⟨rfl, hb2⟩
      replace HN := Lib.hid (HN.out.below hb2)
      replace HB := Lib.hid (HB.out.trans (hb2.mono HB.out.size))
      clear hb2 en
      cases hnb : nameB x with
      | false =>
        have HNO := Lib.hid (HNAME.out (by rw [hnb]; rfl))
        clear hnb
        go_wp2_with fail
        go_ret
        exact ⟨by rw [HNO.out]; rfl, HB.out⟩
      | true =>
        have HNB := Lib.hid hnb; clear hnb
        go_wp2_with (first
          | (at_lookup; refine set_lookup_w _ (by first | rfl | kernel_rfl) _ _ 149 rfl law_str Tryd.underlying149 Tryd.underlying4 (zero_bool _) rfl HN.out _ x.data.toList rfl HK.out ?_)
          | (at_mapUpdate; refine set_store _ rfl _ _ _ 149 rfl law_str Tryd.underlying149 Tryd.underlying4 rfl HN.out (by unfold maxLen; omega) _ x.data.toList rfl true rfl HK.out (fun _ h => by injection h) trivial ?_; intro w1 hset1 hg1))
        · have hq : seenB L x.data.toList = true := by assumption
          have HNO := Lib.hid (HNAME.out (by rw [HNB.out, hq]; rfl))
          go_ret
          exact ⟨by rw [HNO.out]; rfl, HB.out⟩
        · have hq : seenB L x.data.toList = false := by assumption
          have HQ := Lib.hid hq
          have hn1 : NamesAt w1 w.heap.size (k + 1) (L ++ [x]) := by
            show SetAt _ _ _ _ _ _ _ _
            rw [← seenB_put]; exact hset1
          have HN1 := Lib.hid hn1
          have HB1 := Lib.hid (HB.out.grown hg1 HB.out.size (fun j hj => by cases hj; exact Nat.le_refl _))
          clear hset1 hg1 hn1 hq
          go_roundw
          case rel => exact ⟨k + 1, L ++ [x], by omega, by go_num, by rw [HTK.out, HL.out], by have h := HQ.out; rw [HL.out] at h; rw [HOT.out, HON.out, HNB.out, List.nil_append, h]; rfl, HN1.out, HB1.out⟩
          case measure => simp [intOf]; omega
    · obtain rfl : k = vs.length := by omega
      have HEN : Hid (ownNames [] ns = true) := by have h1 := HON.out; rw [← HLN.out, List.take_length] at h1; exact h1
      go_wp2_with fail
      go_ret
      exact ⟨by rw [HEN.out]; rfl, HB.out⟩
end Go.Proofs.YteeojgefnoaajaaDoor
