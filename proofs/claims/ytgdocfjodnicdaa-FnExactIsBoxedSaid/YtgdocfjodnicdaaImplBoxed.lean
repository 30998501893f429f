/-
  Proved: impl.IsBoxed says whether a core expression is a box; the memory that was there stays as it was.
-/
import Derived.Test.YtgdocfjodnicdaaCoBoxed
import Derived.Test.YtgdocfjodnicdaaImplIsGround
import Derived.Test.YtgdocfjodnicdaaImplUnknown
import Derived.Test.YtgdocfjodnicdaaImplEqual
import Derived.Test.YtgdocfjodnicdaaHold
import Derived.Test.YtgdocfjodnicdaaTypeArg
import Derived.BigQuiet
import Derived.Deep.QuietTactic
import Derived.Deep.RegionHeld3
namespace Go.Proofs.Ytgdocfjodnicdaa
open Go.RowKit

/-- An operation of a region whose guard says no is passed over. -/
theorem skipImpl {P : Program} {ops : Array Oper} {Q : Exit → Act → World → Prop} {md : Region.Mode} {S : World → Prop} {i : Nat} {oi : Oper} {fuel : Nat} {listed : Array Bool} {a : Act} {w : World} (hi : ops[i]? = some oi)
    (hs : Region.noSelect ops = true) (hf : Region.free md ops listed i = true) (hr : (Region.ready md ops listed).contains i = true)
    (hQ : ∀ c a w, Q (.panic c) (a.put oi.dst undef) w → Q (.panic c) a w) (hw : Region.wanted oi (yielded ops a.tmps) = false) (hS : S w) (hput : a.put oi.dst undef = a)
    (h : wpAnyH P md ops Q S fuel (listed.setIfInBounds i true) a w) : wpAnyH P md ops Q S (fuel + 1) listed a w :=
  wpAnyH_take hi hs hf hr hQ (Or.inr ⟨hw, rfl⟩) hS (by rw [hput]; exact h)
theorem drewImpl {B : Nat} {a w : World} (h : Below B a w) (n : Nat) : Below B a (w.drewN n) := ⟨h.os, h.tape, h.output, h.size, h.block⟩
set_option maxRecDepth 100000 in
set_option maxHeartbeats 8000000 in
theorem implBoxed (d : Nat) (v : Value) (t : Co) (w : World) (h : CoAt w d v t) (hsz : t.bulk ≤ 1048576) :
    Calls Try.prog 7 #[v] w fun e w' => e = .returned (.bool t.boxB) ∧ Below w.heap.size w w' := by
  cases d with
  | zero => exact h.elim
  | succ d =>
  cases t with
  | node kd nm0 n0 fr ty es ns vs =>
    have HV := co_parts h
    obtain ⟨c3, c4, c5, c6, sl, el, rfl, hk0, hk1, hn0, hn1, hnm, hfr, hty, ⟨a, cap, rfl, hcap, hcap2, hat⟩, hln, a2, cap2, rfl, hcpe, hcpe2, hae⟩ := h
    obtain ⟨k, nm, n, fk, fa, fn, fc, tk, ta, tn, tc, sa, sn, sc, ea, en, ec, hv⟩ := HV
    injection hv with hv
    injection hv with hv
    simp at hv
    obtain ⟨rfl, rfl, rfl, rfl, rfl, rfl, rfl, hvr⟩ := hv
    clear hvr hat hae
    have hbk : (Co.node kd nm0 n0 fr ty es ns vs).bulk = nm0.size + (fr.size - 1) + (ty.size - 1) + Co.bulks es + (txs ns + Co.bulks vs) := rfl
    have hsz1 : fr.size ≤ 1048577 := by omega
    have HBX : Hid ((Co.node kd nm0 n0 fr ty es ns vs).boxB = (decide (kd = 14) && ((fr.valid && fr.beq fr.ground) && (ty.beq (.node 1 []) && decide (es.length = 1))))) := rfl
    clear hsz hbk
    have B : Hid (Below w.heap.size w (w.alloc (.cells #[.int .i64 kd, .string nm0, .int .i64 n0, .int .i64 fk, .slice fa fn fc, .int .i64 tk, .slice ta tn tc, .slice a es.length cap, .slice a2 vs.length cap2] 37))) := below_alloc _ _
    have HF := Lib.hid (hfr.below B.out)
    have HY := Lib.hid (hty.below B.out)
    have XA : Hid (BoxAt (w.alloc (.cells #[.int .i64 kd, .string nm0, .int .i64 n0, .int .i64 fk, .slice fa fn fc, .int .i64 tk, .slice ta tn tc, .slice a es.length cap, .slice a2 vs.length cap2] 37)) w.heap.size #[.int .i64 kd, .string nm0, .int .i64 n0, .int .i64 fk, .slice fa fn fc, .int .i64 tk, .slice ta tn tc, .slice a es.length cap, .slice a2 vs.length cap2]) := BoxAt.new _ _ _
    clear hfr hty
    by_cases q : kd = 14
    case neg =>
      have qb : (kd == 14) = false := by simp [q]
      have HR : Hid ((Co.node kd nm0 n0 fr ty es ns vs).boxB = false) := by show _ = _; rw [HBX.out, decide_eq_false q]; rfl
      have x0 := XA.out.2 0
      go_enter Try.func7, Try.ntmps7
      go_wp2_with fail
      go_quiet (fail)
      go_wp2_with fail
      go_ret
      exact ⟨by rw [HR.out]; rfl, drewImpl B.out nq⟩
    subst q
    go_enter Try.func7, Try.ntmps7
    go_wp2_with fail
    have hb := below_drew (w.alloc (.cells #[.int .i64 14, .string nm0, .int .i64 n0, .int .i64 fk, .slice fa fn fc, .int .i64 tk, .slice ta tn tc, .slice a es.length cap, .slice a2 vs.length cap2] 37))
    replace B := Lib.hid (below_thru B.out (Nat.le_refl _) hb)
    replace HF := Lib.hid (HF.out.below hb)
    replace HY := Lib.hid (HY.out.below hb)
    replace XA := Lib.hid (XA.out.below hb)
    clear hb
    cases hg : (fr.valid && fr.beq fr.ground) with
    | false =>
      have HG := Lib.hid hg
      have HR : Hid ((Co.node 14 nm0 n0 fr ty es ns vs).boxB = false) := by show _ = _; rw [HBX.out, hg]; rfl
      clear hg
      refine wp_region_held_drew (S := (fun w' => w'.cell? ⟨w.heap.size, 0, none⟩ = some (.int .i64 14) ∧ w'.cell? ⟨w.heap.size, 3, none⟩ = some (.int .i64 fk) ∧ w'.cell? ⟨w.heap.size, 4, none⟩ = some (.slice fa fn fc) ∧ w'.cell? ⟨w.heap.size, 5, none⟩ = some (.int .i64 tk) ∧ w'.cell? ⟨w.heap.size, 6, none⟩ = some (.slice ta tn tc) ∧ w'.cell? ⟨w.heap.size, 7, none⟩ = some (.slice a es.length cap))) (by kernel_rfl) (by exact ⟨XA.out.2 0, XA.out.2 3, XA.out.2 4, XA.out.2 5, XA.out.2 6, XA.out.2 7⟩) (fun hHeld => ?_)
      refine wpAnyH_take (i := 0) (v := ?v45_0) rfl (by kernel_rfl) (by kernel_rfl) (by kernel_rfl) (fun _ _ _ h => h) (Or.inl ⟨by rfl, ?hy45_0⟩) hHeld ?rest45_0
      case hy45_0 =>
        intro w hSw
        (try dsimp only at hSw)
        go_simp
        all_goals (first | done | with_reducible rfl)
      try simp only [Act.put]
      try simp only [List.setIfInBounds_toArray]
      try simp only [List.set_cons_succ]
      try simp only [List.set_cons_zero]
      refine wpAnyH_take (i := 1) (v := ?v46_1) rfl (by kernel_rfl) (by kernel_rfl) (by kernel_rfl) (fun _ _ _ h => h) (Or.inl ⟨by rfl, ?hy46_1⟩) hHeld ?rest46_1
      case hy46_1 =>
        intro w hSw
        (try dsimp only at hSw)
        go_simp
        all_goals (first | done | with_reducible rfl)
      try simp only [Act.put]
      try simp only [List.setIfInBounds_toArray]
      try simp only [List.set_cons_succ]
      try simp only [List.set_cons_zero]
      refine wpAnyH_take (i := 2) (v := ?v47_2) rfl (by kernel_rfl) (by kernel_rfl) (by kernel_rfl) (fun _ _ _ h => h) (Or.inl ⟨by rfl, ?hy47_2⟩) hHeld ?rest47_2
      case hy47_2 =>
        intro w hSw
        (try dsimp only at hSw)
        go_simp
        all_goals (first | done | with_reducible rfl)
      try simp only [Act.put]
      try simp only [List.setIfInBounds_toArray]
      try simp only [List.set_cons_succ]
      try simp only [List.set_cons_zero]
      refine wpAnyH_take (i := 3) (v := ?v48_3) rfl (by kernel_rfl) (by kernel_rfl) (by kernel_rfl) (fun _ _ _ h => h) (Or.inl ⟨by rfl, ?hy48_3⟩) hHeld ?rest48_3
      case hy48_3 =>
        intro w hSw
        (try dsimp only at hSw)
        go_simp
        all_goals (first | done | with_reducible rfl)
      try simp only [Act.put]
      try simp only [List.setIfInBounds_toArray]
      try simp only [List.set_cons_succ]
      try simp only [List.set_cons_zero]
      refine wpAnyH_take (i := 4) (v := ?v49_4) rfl (by kernel_rfl) (by kernel_rfl) (by kernel_rfl) (fun _ _ _ h => h) (Or.inl ⟨by rfl, ?hy49_4⟩) hHeld ?rest49_4
      case hy49_4 =>
        intro w hSw
        (try dsimp only at hSw)
        go_simp
        all_goals (first | done | with_reducible rfl)
      try simp only [Act.put]
      try simp only [List.setIfInBounds_toArray]
      try simp only [List.set_cons_succ]
      try simp only [List.set_cons_zero]
      refine wpAnyH_take (i := 5) (v := ?v50_5) rfl (by kernel_rfl) (by kernel_rfl) (by kernel_rfl) (fun _ _ _ h => h) (Or.inl ⟨by rfl, ?hy50_5⟩) hHeld ?rest50_5
      case hy50_5 =>
        intro w hSw
        (try dsimp only at hSw)
        go_simp
        all_goals (first | done | with_reducible rfl)
      try simp only [Act.put]
      try simp only [List.setIfInBounds_toArray]
      try simp only [List.set_cons_succ]
      try simp only [List.set_cons_zero]
      refine wpAnyH_ready (rs := [6]) (by kernel_rfl) (by simp) ?_
      refine AllReadyH.cons rfl (fun K hK => ?_) AllReadyH.nil
      go_simp
      go_at_call 18
      refine (implIsGround d _ fr _ HF.out hsz1).mono ?_
      rintro e w1 ⟨he, hb⟩
      rw [HG.out] at he
      subst he
      replace B := Lib.hid (below_thru B.out (Nat.le_refl _) hb)
      replace HF := Lib.hid (HF.out.below hb)
      replace HY := Lib.hid (HY.out.below hb)
      replace XA := Lib.hid (XA.out.below hb)
      clear hb
      clear hHeld
      try go_wp2_with fail
      refine hK.out _ _ (by exact ⟨XA.out.2 0, XA.out.2 3, XA.out.2 4, XA.out.2 5, XA.out.2 6, XA.out.2 7⟩) (fun hHeld => ?_)
      clear hK K
      try simp only [Act.put]
      try simp only [List.setIfInBounds_toArray]
      try simp only [List.set_cons_succ]
      try simp only [List.set_cons_zero]
      refine wpAnyH_take (i := 7) (v := ?v51_7) rfl (by kernel_rfl) (by kernel_rfl) (by kernel_rfl) (fun _ _ _ h => h) (Or.inl ⟨by rfl, ?hy51_7⟩) hHeld ?rest51_7
      case hy51_7 =>
        intro w hSw
        (try dsimp only at hSw)
        go_simp
        all_goals (first | done | with_reducible rfl)
      try simp only [Act.put]
      try simp only [List.setIfInBounds_toArray]
      try simp only [List.set_cons_succ]
      try simp only [List.set_cons_zero]
      refine wpAnyH_take (i := 8) (v := ?v52_8) rfl (by kernel_rfl) (by kernel_rfl) (by kernel_rfl) (fun _ _ _ h => h) (Or.inl ⟨by rfl, ?hy52_8⟩) hHeld ?rest52_8
      case hy52_8 =>
        intro w hSw
        (try dsimp only at hSw)
        go_simp
        all_goals (first | done | with_reducible rfl)
      try simp only [Act.put]
      try simp only [List.setIfInBounds_toArray]
      try simp only [List.set_cons_succ]
      try simp only [List.set_cons_zero]
      refine skipImpl (i := 9) rfl (by kernel_rfl) (by kernel_rfl) (by kernel_rfl) (fun _ _ _ h => h) (by kernel_rfl) hHeld (by kernel_rfl) ?_
      refine skipImpl (i := 10) rfl (by kernel_rfl) (by kernel_rfl) (by kernel_rfl) (fun _ _ _ h => h) (by kernel_rfl) hHeld (by kernel_rfl) ?_
      refine skipImpl (i := 11) rfl (by kernel_rfl) (by kernel_rfl) (by kernel_rfl) (fun _ _ _ h => h) (by kernel_rfl) hHeld (by kernel_rfl) ?_
      refine skipImpl (i := 12) rfl (by kernel_rfl) (by kernel_rfl) (by kernel_rfl) (fun _ _ _ h => h) (by kernel_rfl) hHeld (by kernel_rfl) ?_
      refine wpAnyH_take (i := 13) (v := ?v53_13) rfl (by kernel_rfl) (by kernel_rfl) (by kernel_rfl) (fun _ _ _ h => h) (Or.inl ⟨by rfl, ?hy53_13⟩) hHeld ?rest53_13
      case hy53_13 =>
        intro w hSw
        (try dsimp only at hSw)
        go_simp
        all_goals (first | done | with_reducible rfl)
      try simp only [Act.put]
      try simp only [List.setIfInBounds_toArray]
      try simp only [List.set_cons_succ]
      try simp only [List.set_cons_zero]
      refine wpAnyH_take (i := 14) (v := ?v54_14) rfl (by kernel_rfl) (by kernel_rfl) (by kernel_rfl) (fun _ _ _ h => h) (Or.inl ⟨by rfl, ?hy54_14⟩) hHeld ?rest54_14
      case hy54_14 =>
        intro w hSw
        (try dsimp only at hSw)
        go_simp
        all_goals (first | done | with_reducible rfl)
      try simp only [Act.put]
      try simp only [List.setIfInBounds_toArray]
      try simp only [List.set_cons_succ]
      try simp only [List.set_cons_zero]
      refine skipImpl (i := 15) rfl (by kernel_rfl) (by kernel_rfl) (by kernel_rfl) (fun _ _ _ h => h) (by kernel_rfl) hHeld (by kernel_rfl) ?_
      refine skipImpl (i := 16) rfl (by kernel_rfl) (by kernel_rfl) (by kernel_rfl) (fun _ _ _ h => h) (by kernel_rfl) hHeld (by kernel_rfl) ?_
      refine skipImpl (i := 17) rfl (by kernel_rfl) (by kernel_rfl) (by kernel_rfl) (fun _ _ _ h => h) (by kernel_rfl) hHeld (by kernel_rfl) ?_
      refine skipImpl (i := 18) rfl (by kernel_rfl) (by kernel_rfl) (by kernel_rfl) (fun _ _ _ h => h) (by kernel_rfl) hHeld (by kernel_rfl) ?_
      refine wpAnyH_take (i := 19) (v := ?v55_19) rfl (by kernel_rfl) (by kernel_rfl) (by kernel_rfl) (fun _ _ _ h => h) (Or.inl ⟨by rfl, ?hy55_19⟩) hHeld ?rest55_19
      case hy55_19 =>
        intro w hSw
        (try dsimp only at hSw)
        go_simp
        all_goals (first | done | with_reducible rfl)
      try simp only [Act.put]
      try simp only [List.setIfInBounds_toArray]
      try simp only [List.set_cons_succ]
      try simp only [List.set_cons_zero]
      refine wpAnyH_take (i := 20) (v := ?v56_20) rfl (by kernel_rfl) (by kernel_rfl) (by kernel_rfl) (fun _ _ _ h => h) (Or.inl ⟨by rfl, ?hy56_20⟩) hHeld ?rest56_20
      case hy56_20 =>
        intro w hSw
        (try dsimp only at hSw)
        go_simp
        all_goals (first | done | with_reducible rfl)
      try simp only [Act.put]
      try simp only [List.setIfInBounds_toArray]
      try simp only [List.set_cons_succ]
      try simp only [List.set_cons_zero]
      refine wpAnyH_done (by kernel_rfl) ?_ _
      try simp only [List.getElem_toArray]
      try simp only [List.getElem_cons_succ]
      try simp only [List.getElem_cons_zero]
      try simp only [Act.put]
      try simp only [List.setIfInBounds_toArray]
      try simp only [List.set_cons_succ]
      try simp only [List.set_cons_zero]
      go_wp2_with fail
      go_ret
      exact ⟨by rw [HR.out]; rfl, B.out⟩
    | true =>
    have HG := Lib.hid hg
    cases hq : ty.beq (.node 1 []) with
    | false =>
      have HQ := Lib.hid hq
      have HR : Hid ((Co.node 14 nm0 n0 fr ty es ns vs).boxB = false) := by show _ = _; rw [HBX.out, hg, hq]; rfl
      clear hg hq
      refine wp_region_held_drew (S := (fun w' => w'.cell? ⟨w.heap.size, 0, none⟩ = some (.int .i64 14) ∧ w'.cell? ⟨w.heap.size, 3, none⟩ = some (.int .i64 fk) ∧ w'.cell? ⟨w.heap.size, 4, none⟩ = some (.slice fa fn fc) ∧ w'.cell? ⟨w.heap.size, 5, none⟩ = some (.int .i64 tk) ∧ w'.cell? ⟨w.heap.size, 6, none⟩ = some (.slice ta tn tc) ∧ w'.cell? ⟨w.heap.size, 7, none⟩ = some (.slice a es.length cap))) (by kernel_rfl) (by exact ⟨XA.out.2 0, XA.out.2 3, XA.out.2 4, XA.out.2 5, XA.out.2 6, XA.out.2 7⟩) (fun hHeld => ?_)
      refine wpAnyH_take (i := 0) (v := ?v57_0) rfl (by kernel_rfl) (by kernel_rfl) (by kernel_rfl) (fun _ _ _ h => h) (Or.inl ⟨by rfl, ?hy57_0⟩) hHeld ?rest57_0
      case hy57_0 =>
        intro w hSw
        (try dsimp only at hSw)
        go_simp
        all_goals (first | done | with_reducible rfl)
      try simp only [Act.put]
      try simp only [List.setIfInBounds_toArray]
      try simp only [List.set_cons_succ]
      try simp only [List.set_cons_zero]
      refine wpAnyH_take (i := 1) (v := ?v58_1) rfl (by kernel_rfl) (by kernel_rfl) (by kernel_rfl) (fun _ _ _ h => h) (Or.inl ⟨by rfl, ?hy58_1⟩) hHeld ?rest58_1
      case hy58_1 =>
        intro w hSw
        (try dsimp only at hSw)
        go_simp
        all_goals (first | done | with_reducible rfl)
      try simp only [Act.put]
      try simp only [List.setIfInBounds_toArray]
      try simp only [List.set_cons_succ]
      try simp only [List.set_cons_zero]
      refine wpAnyH_take (i := 2) (v := ?v59_2) rfl (by kernel_rfl) (by kernel_rfl) (by kernel_rfl) (fun _ _ _ h => h) (Or.inl ⟨by rfl, ?hy59_2⟩) hHeld ?rest59_2
      case hy59_2 =>
        intro w hSw
        (try dsimp only at hSw)
        go_simp
        all_goals (first | done | with_reducible rfl)
      try simp only [Act.put]
      try simp only [List.setIfInBounds_toArray]
      try simp only [List.set_cons_succ]
      try simp only [List.set_cons_zero]
      refine wpAnyH_take (i := 3) (v := ?v60_3) rfl (by kernel_rfl) (by kernel_rfl) (by kernel_rfl) (fun _ _ _ h => h) (Or.inl ⟨by rfl, ?hy60_3⟩) hHeld ?rest60_3
      case hy60_3 =>
        intro w hSw
        (try dsimp only at hSw)
        go_simp
        all_goals (first | done | with_reducible rfl)
      try simp only [Act.put]
      try simp only [List.setIfInBounds_toArray]
      try simp only [List.set_cons_succ]
      try simp only [List.set_cons_zero]
      refine wpAnyH_take (i := 4) (v := ?v61_4) rfl (by kernel_rfl) (by kernel_rfl) (by kernel_rfl) (fun _ _ _ h => h) (Or.inl ⟨by rfl, ?hy61_4⟩) hHeld ?rest61_4
      case hy61_4 =>
        intro w hSw
        (try dsimp only at hSw)
        go_simp
        all_goals (first | done | with_reducible rfl)
      try simp only [Act.put]
      try simp only [List.setIfInBounds_toArray]
      try simp only [List.set_cons_succ]
      try simp only [List.set_cons_zero]
      refine wpAnyH_take (i := 5) (v := ?v62_5) rfl (by kernel_rfl) (by kernel_rfl) (by kernel_rfl) (fun _ _ _ h => h) (Or.inl ⟨by rfl, ?hy62_5⟩) hHeld ?rest62_5
      case hy62_5 =>
        intro w hSw
        (try dsimp only at hSw)
        go_simp
        all_goals (first | done | with_reducible rfl)
      try simp only [Act.put]
      try simp only [List.setIfInBounds_toArray]
      try simp only [List.set_cons_succ]
      try simp only [List.set_cons_zero]
      refine wpAnyH_ready (rs := [6]) (by kernel_rfl) (by simp) ?_
      refine AllReadyH.cons rfl (fun K hK => ?_) AllReadyH.nil
      go_simp
      go_at_call 18
      refine (implIsGround d _ fr _ HF.out hsz1).mono ?_
      rintro e w1 ⟨he, hb⟩
      rw [HG.out] at he
      subst he
      replace B := Lib.hid (below_thru B.out (Nat.le_refl _) hb)
      replace HF := Lib.hid (HF.out.below hb)
      replace HY := Lib.hid (HY.out.below hb)
      replace XA := Lib.hid (XA.out.below hb)
      clear hb
      clear hHeld
      try go_wp2_with fail
      refine hK.out _ _ (by exact ⟨XA.out.2 0, XA.out.2 3, XA.out.2 4, XA.out.2 5, XA.out.2 6, XA.out.2 7⟩) (fun hHeld => ?_)
      clear hK K
      try simp only [Act.put]
      try simp only [List.setIfInBounds_toArray]
      try simp only [List.set_cons_succ]
      try simp only [List.set_cons_zero]
      refine wpAnyH_take (i := 7) (v := ?v63_7) rfl (by kernel_rfl) (by kernel_rfl) (by kernel_rfl) (fun _ _ _ h => h) (Or.inl ⟨by rfl, ?hy63_7⟩) hHeld ?rest63_7
      case hy63_7 =>
        intro w hSw
        (try dsimp only at hSw)
        go_simp
        all_goals (first | done | with_reducible rfl)
      try simp only [Act.put]
      try simp only [List.setIfInBounds_toArray]
      try simp only [List.set_cons_succ]
      try simp only [List.set_cons_zero]
      refine wpAnyH_take (i := 8) (v := ?v64_8) rfl (by kernel_rfl) (by kernel_rfl) (by kernel_rfl) (fun _ _ _ h => h) (Or.inl ⟨by rfl, ?hy64_8⟩) hHeld ?rest64_8
      case hy64_8 =>
        intro w hSw
        (try dsimp only at hSw)
        go_simp
        all_goals (first | done | with_reducible rfl)
      try simp only [Act.put]
      try simp only [List.setIfInBounds_toArray]
      try simp only [List.set_cons_succ]
      try simp only [List.set_cons_zero]
      refine wpAnyH_take (i := 9) (v := ?v65_9) rfl (by kernel_rfl) (by kernel_rfl) (by kernel_rfl) (fun _ _ _ h => h) (Or.inl ⟨by rfl, ?hy65_9⟩) hHeld ?rest65_9
      case hy65_9 =>
        intro w hSw
        (try dsimp only at hSw)
        go_simp
        all_goals (first | done | with_reducible rfl)
      try simp only [Act.put]
      try simp only [List.setIfInBounds_toArray]
      try simp only [List.set_cons_succ]
      try simp only [List.set_cons_zero]
      refine wpAnyH_take (i := 10) (v := ?v66_10) rfl (by kernel_rfl) (by kernel_rfl) (by kernel_rfl) (fun _ _ _ h => h) (Or.inl ⟨by rfl, ?hy66_10⟩) hHeld ?rest66_10
      case hy66_10 =>
        intro w hSw
        (try dsimp only at hSw)
        go_simp
        all_goals (first | done | with_reducible rfl)
      try simp only [Act.put]
      try simp only [List.setIfInBounds_toArray]
      try simp only [List.set_cons_succ]
      try simp only [List.set_cons_zero]
      refine wpAnyH_ready (rs := [11]) (by kernel_rfl) (by simp) ?_
      refine AllReadyH.cons rfl (fun K hK => ?_) AllReadyH.nil
      go_simp
      go_at_call 20
      refine (implUnknownType _).mono ?_
      rintro e w2 ⟨rfl, hb⟩
      replace B := Lib.hid (below_thru B.out (Nat.le_refl _) hb)
      replace HF := Lib.hid (HF.out.below hb)
      replace HY := Lib.hid (HY.out.below hb)
      replace XA := Lib.hid (XA.out.below hb)
      clear hb
      clear hHeld
      try go_wp2_with fail
      refine hK.out _ _ (by exact ⟨XA.out.2 0, XA.out.2 3, XA.out.2 4, XA.out.2 5, XA.out.2 6, XA.out.2 7⟩) (fun hHeld => ?_)
      clear hK K
      try simp only [Act.put]
      try simp only [List.setIfInBounds_toArray]
      try simp only [List.set_cons_succ]
      try simp only [List.set_cons_zero]
      refine wpAnyH_ready (rs := [12]) (by kernel_rfl) (by simp) ?_
      refine AllReadyH.cons rfl (fun K hK => ?_) AllReadyH.nil
      go_simp
      go_at_call 19
      refine (implEqual (d + 1) _ _ ty (.node 1 []) _ HY.out.succ (own_zero _ d 1 (by omega) (by omega)).at_).mono ?_
      rintro e w3 ⟨he, hb⟩
      rw [HQ.out] at he
      subst he
      replace B := Lib.hid (below_thru B.out (Nat.le_refl _) hb)
      replace HF := Lib.hid (HF.out.below hb)
      replace HY := Lib.hid (HY.out.below hb)
      replace XA := Lib.hid (XA.out.below hb)
      clear hb
      clear hHeld
      try go_wp2_with fail
      refine hK.out _ _ (by exact ⟨XA.out.2 0, XA.out.2 3, XA.out.2 4, XA.out.2 5, XA.out.2 6, XA.out.2 7⟩) (fun hHeld => ?_)
      clear hK K
      try simp only [Act.put]
      try simp only [List.setIfInBounds_toArray]
      try simp only [List.set_cons_succ]
      try simp only [List.set_cons_zero]
      refine wpAnyH_take (i := 13) (v := ?v67_13) rfl (by kernel_rfl) (by kernel_rfl) (by kernel_rfl) (fun _ _ _ h => h) (Or.inl ⟨by rfl, ?hy67_13⟩) hHeld ?rest67_13
      case hy67_13 =>
        intro w hSw
        (try dsimp only at hSw)
        go_simp
        all_goals (first | done | with_reducible rfl)
      try simp only [Act.put]
      try simp only [List.setIfInBounds_toArray]
      try simp only [List.set_cons_succ]
      try simp only [List.set_cons_zero]
      refine wpAnyH_take (i := 14) (v := ?v68_14) rfl (by kernel_rfl) (by kernel_rfl) (by kernel_rfl) (fun _ _ _ h => h) (Or.inl ⟨by rfl, ?hy68_14⟩) hHeld ?rest68_14
      case hy68_14 =>
        intro w hSw
        (try dsimp only at hSw)
        go_simp
        all_goals (first | done | with_reducible rfl)
      try simp only [Act.put]
      try simp only [List.setIfInBounds_toArray]
      try simp only [List.set_cons_succ]
      try simp only [List.set_cons_zero]
      refine skipImpl (i := 15) rfl (by kernel_rfl) (by kernel_rfl) (by kernel_rfl) (fun _ _ _ h => h) (by kernel_rfl) hHeld (by kernel_rfl) ?_
      refine skipImpl (i := 16) rfl (by kernel_rfl) (by kernel_rfl) (by kernel_rfl) (fun _ _ _ h => h) (by kernel_rfl) hHeld (by kernel_rfl) ?_
      refine skipImpl (i := 17) rfl (by kernel_rfl) (by kernel_rfl) (by kernel_rfl) (fun _ _ _ h => h) (by kernel_rfl) hHeld (by kernel_rfl) ?_
      refine skipImpl (i := 18) rfl (by kernel_rfl) (by kernel_rfl) (by kernel_rfl) (fun _ _ _ h => h) (by kernel_rfl) hHeld (by kernel_rfl) ?_
      refine wpAnyH_take (i := 19) (v := ?v69_19) rfl (by kernel_rfl) (by kernel_rfl) (by kernel_rfl) (fun _ _ _ h => h) (Or.inl ⟨by rfl, ?hy69_19⟩) hHeld ?rest69_19
      case hy69_19 =>
        intro w hSw
        (try dsimp only at hSw)
        go_simp
        all_goals (first | done | with_reducible rfl)
      try simp only [Act.put]
      try simp only [List.setIfInBounds_toArray]
      try simp only [List.set_cons_succ]
      try simp only [List.set_cons_zero]
      refine wpAnyH_take (i := 20) (v := ?v70_20) rfl (by kernel_rfl) (by kernel_rfl) (by kernel_rfl) (fun _ _ _ h => h) (Or.inl ⟨by rfl, ?hy70_20⟩) hHeld ?rest70_20
      case hy70_20 =>
        intro w hSw
        (try dsimp only at hSw)
        go_simp
        all_goals (first | done | with_reducible rfl)
      try simp only [Act.put]
      try simp only [List.setIfInBounds_toArray]
      try simp only [List.set_cons_succ]
      try simp only [List.set_cons_zero]
      refine wpAnyH_done (by kernel_rfl) ?_ _
      try simp only [List.getElem_toArray]
      try simp only [List.getElem_cons_succ]
      try simp only [List.getElem_cons_zero]
      try simp only [Act.put]
      try simp only [List.setIfInBounds_toArray]
      try simp only [List.set_cons_succ]
      try simp only [List.set_cons_zero]
      go_wp2_with fail
      go_ret
      exact ⟨by rw [HR.out]; rfl, B.out⟩
    | true =>
    have HQ := Lib.hid hq
    have HR : Hid ((Co.node 14 nm0 n0 fr ty es ns vs).boxB = decide (es.length = 1)) := by show _ = _; rw [HBX.out, hg, hq]; simp
    clear hg hq
    by_cases ql : es.length = 1
    · have lb : ((es.length : Int) == 1) = true := by simp; omega
      have HL : Hid (decide (es.length = 1) = true) := by show _ = _; simp [ql]
      clear ql
      refine wp_region_held_drew (S := (fun w' => w'.cell? ⟨w.heap.size, 0, none⟩ = some (.int .i64 14) ∧ w'.cell? ⟨w.heap.size, 3, none⟩ = some (.int .i64 fk) ∧ w'.cell? ⟨w.heap.size, 4, none⟩ = some (.slice fa fn fc) ∧ w'.cell? ⟨w.heap.size, 5, none⟩ = some (.int .i64 tk) ∧ w'.cell? ⟨w.heap.size, 6, none⟩ = some (.slice ta tn tc) ∧ w'.cell? ⟨w.heap.size, 7, none⟩ = some (.slice a es.length cap))) (by kernel_rfl) (by exact ⟨XA.out.2 0, XA.out.2 3, XA.out.2 4, XA.out.2 5, XA.out.2 6, XA.out.2 7⟩) (fun hHeld => ?_)
      refine wpAnyH_take (i := 0) (v := ?v71_0) rfl (by kernel_rfl) (by kernel_rfl) (by kernel_rfl) (fun _ _ _ h => h) (Or.inl ⟨by rfl, ?hy71_0⟩) hHeld ?rest71_0
      case hy71_0 =>
        intro w hSw
        (try dsimp only at hSw)
        go_simp
        all_goals (first | done | with_reducible rfl)
      try simp only [Act.put]
      try simp only [List.setIfInBounds_toArray]
      try simp only [List.set_cons_succ]
      try simp only [List.set_cons_zero]
      refine wpAnyH_take (i := 1) (v := ?v72_1) rfl (by kernel_rfl) (by kernel_rfl) (by kernel_rfl) (fun _ _ _ h => h) (Or.inl ⟨by rfl, ?hy72_1⟩) hHeld ?rest72_1
      case hy72_1 =>
        intro w hSw
        (try dsimp only at hSw)
        go_simp
        all_goals (first | done | with_reducible rfl)
      try simp only [Act.put]
      try simp only [List.setIfInBounds_toArray]
      try simp only [List.set_cons_succ]
      try simp only [List.set_cons_zero]
      refine wpAnyH_take (i := 2) (v := ?v73_2) rfl (by kernel_rfl) (by kernel_rfl) (by kernel_rfl) (fun _ _ _ h => h) (Or.inl ⟨by rfl, ?hy73_2⟩) hHeld ?rest73_2
      case hy73_2 =>
        intro w hSw
        (try dsimp only at hSw)
        go_simp
        all_goals (first | done | with_reducible rfl)
      try simp only [Act.put]
      try simp only [List.setIfInBounds_toArray]
      try simp only [List.set_cons_succ]
      try simp only [List.set_cons_zero]
      refine wpAnyH_take (i := 3) (v := ?v74_3) rfl (by kernel_rfl) (by kernel_rfl) (by kernel_rfl) (fun _ _ _ h => h) (Or.inl ⟨by rfl, ?hy74_3⟩) hHeld ?rest74_3
      case hy74_3 =>
        intro w hSw
        (try dsimp only at hSw)
        go_simp
        all_goals (first | done | with_reducible rfl)
      try simp only [Act.put]
      try simp only [List.setIfInBounds_toArray]
      try simp only [List.set_cons_succ]
      try simp only [List.set_cons_zero]
      refine wpAnyH_take (i := 4) (v := ?v75_4) rfl (by kernel_rfl) (by kernel_rfl) (by kernel_rfl) (fun _ _ _ h => h) (Or.inl ⟨by rfl, ?hy75_4⟩) hHeld ?rest75_4
      case hy75_4 =>
        intro w hSw
        (try dsimp only at hSw)
        go_simp
        all_goals (first | done | with_reducible rfl)
      try simp only [Act.put]
      try simp only [List.setIfInBounds_toArray]
      try simp only [List.set_cons_succ]
      try simp only [List.set_cons_zero]
      refine wpAnyH_take (i := 5) (v := ?v76_5) rfl (by kernel_rfl) (by kernel_rfl) (by kernel_rfl) (fun _ _ _ h => h) (Or.inl ⟨by rfl, ?hy76_5⟩) hHeld ?rest76_5
      case hy76_5 =>
        intro w hSw
        (try dsimp only at hSw)
        go_simp
        all_goals (first | done | with_reducible rfl)
      try simp only [Act.put]
      try simp only [List.setIfInBounds_toArray]
      try simp only [List.set_cons_succ]
      try simp only [List.set_cons_zero]
      refine wpAnyH_ready (rs := [6]) (by kernel_rfl) (by simp) ?_
      refine AllReadyH.cons rfl (fun K hK => ?_) AllReadyH.nil
      go_simp
      go_at_call 18
      refine (implIsGround d _ fr _ HF.out hsz1).mono ?_
      rintro e w1 ⟨he, hb⟩
      rw [HG.out] at he
      subst he
      replace B := Lib.hid (below_thru B.out (Nat.le_refl _) hb)
      replace HF := Lib.hid (HF.out.below hb)
      replace HY := Lib.hid (HY.out.below hb)
      replace XA := Lib.hid (XA.out.below hb)
      clear hb
      clear hHeld
      try go_wp2_with fail
      refine hK.out _ _ (by exact ⟨XA.out.2 0, XA.out.2 3, XA.out.2 4, XA.out.2 5, XA.out.2 6, XA.out.2 7⟩) (fun hHeld => ?_)
      clear hK K
      try simp only [Act.put]
      try simp only [List.setIfInBounds_toArray]
      try simp only [List.set_cons_succ]
      try simp only [List.set_cons_zero]
      refine wpAnyH_take (i := 7) (v := ?v77_7) rfl (by kernel_rfl) (by kernel_rfl) (by kernel_rfl) (fun _ _ _ h => h) (Or.inl ⟨by rfl, ?hy77_7⟩) hHeld ?rest77_7
      case hy77_7 =>
        intro w hSw
        (try dsimp only at hSw)
        go_simp
        all_goals (first | done | with_reducible rfl)
      try simp only [Act.put]
      try simp only [List.setIfInBounds_toArray]
      try simp only [List.set_cons_succ]
      try simp only [List.set_cons_zero]
      refine wpAnyH_take (i := 8) (v := ?v78_8) rfl (by kernel_rfl) (by kernel_rfl) (by kernel_rfl) (fun _ _ _ h => h) (Or.inl ⟨by rfl, ?hy78_8⟩) hHeld ?rest78_8
      case hy78_8 =>
        intro w hSw
        (try dsimp only at hSw)
        go_simp
        all_goals (first | done | with_reducible rfl)
      try simp only [Act.put]
      try simp only [List.setIfInBounds_toArray]
      try simp only [List.set_cons_succ]
      try simp only [List.set_cons_zero]
      refine wpAnyH_take (i := 9) (v := ?v79_9) rfl (by kernel_rfl) (by kernel_rfl) (by kernel_rfl) (fun _ _ _ h => h) (Or.inl ⟨by rfl, ?hy79_9⟩) hHeld ?rest79_9
      case hy79_9 =>
        intro w hSw
        (try dsimp only at hSw)
        go_simp
        all_goals (first | done | with_reducible rfl)
      try simp only [Act.put]
      try simp only [List.setIfInBounds_toArray]
      try simp only [List.set_cons_succ]
      try simp only [List.set_cons_zero]
      refine wpAnyH_take (i := 10) (v := ?v80_10) rfl (by kernel_rfl) (by kernel_rfl) (by kernel_rfl) (fun _ _ _ h => h) (Or.inl ⟨by rfl, ?hy80_10⟩) hHeld ?rest80_10
      case hy80_10 =>
        intro w hSw
        (try dsimp only at hSw)
        go_simp
        all_goals (first | done | with_reducible rfl)
      try simp only [Act.put]
      try simp only [List.setIfInBounds_toArray]
      try simp only [List.set_cons_succ]
      try simp only [List.set_cons_zero]
      refine wpAnyH_ready (rs := [11]) (by kernel_rfl) (by simp) ?_
      refine AllReadyH.cons rfl (fun K hK => ?_) AllReadyH.nil
      go_simp
      go_at_call 20
      refine (implUnknownType _).mono ?_
      rintro e w2 ⟨rfl, hb⟩
      replace B := Lib.hid (below_thru B.out (Nat.le_refl _) hb)
      replace HF := Lib.hid (HF.out.below hb)
      replace HY := Lib.hid (HY.out.below hb)
      replace XA := Lib.hid (XA.out.below hb)
      clear hb
      clear hHeld
      try go_wp2_with fail
      refine hK.out _ _ (by exact ⟨XA.out.2 0, XA.out.2 3, XA.out.2 4, XA.out.2 5, XA.out.2 6, XA.out.2 7⟩) (fun hHeld => ?_)
      clear hK K
      try simp only [Act.put]
      try simp only [List.setIfInBounds_toArray]
      try simp only [List.set_cons_succ]
      try simp only [List.set_cons_zero]
      refine wpAnyH_ready (rs := [12]) (by kernel_rfl) (by simp) ?_
      refine AllReadyH.cons rfl (fun K hK => ?_) AllReadyH.nil
      go_simp
      go_at_call 19
      refine (implEqual (d + 1) _ _ ty (.node 1 []) _ HY.out.succ (own_zero _ d 1 (by omega) (by omega)).at_).mono ?_
      rintro e w3 ⟨he, hb⟩
      rw [HQ.out] at he
      subst he
      replace B := Lib.hid (below_thru B.out (Nat.le_refl _) hb)
      replace HF := Lib.hid (HF.out.below hb)
      replace HY := Lib.hid (HY.out.below hb)
      replace XA := Lib.hid (XA.out.below hb)
      clear hb
      clear hHeld
      try go_wp2_with fail
      refine hK.out _ _ (by exact ⟨XA.out.2 0, XA.out.2 3, XA.out.2 4, XA.out.2 5, XA.out.2 6, XA.out.2 7⟩) (fun hHeld => ?_)
      clear hK K
      try simp only [Act.put]
      try simp only [List.setIfInBounds_toArray]
      try simp only [List.set_cons_succ]
      try simp only [List.set_cons_zero]
      refine wpAnyH_take (i := 13) (v := ?v81_13) rfl (by kernel_rfl) (by kernel_rfl) (by kernel_rfl) (fun _ _ _ h => h) (Or.inl ⟨by rfl, ?hy81_13⟩) hHeld ?rest81_13
      case hy81_13 =>
        intro w hSw
        (try dsimp only at hSw)
        go_simp
        all_goals (first | done | with_reducible rfl)
      try simp only [Act.put]
      try simp only [List.setIfInBounds_toArray]
      try simp only [List.set_cons_succ]
      try simp only [List.set_cons_zero]
      refine wpAnyH_take (i := 14) (v := ?v82_14) rfl (by kernel_rfl) (by kernel_rfl) (by kernel_rfl) (fun _ _ _ h => h) (Or.inl ⟨by rfl, ?hy82_14⟩) hHeld ?rest82_14
      case hy82_14 =>
        intro w hSw
        (try dsimp only at hSw)
        go_simp
        all_goals (first | done | with_reducible rfl)
      try simp only [Act.put]
      try simp only [List.setIfInBounds_toArray]
      try simp only [List.set_cons_succ]
      try simp only [List.set_cons_zero]
      refine wpAnyH_take (i := 15) (v := ?v83_15) rfl (by kernel_rfl) (by kernel_rfl) (by kernel_rfl) (fun _ _ _ h => h) (Or.inl ⟨by rfl, ?hy83_15⟩) hHeld ?rest83_15
      case hy83_15 =>
        intro w hSw
        (try dsimp only at hSw)
        go_simp
        all_goals (first | done | with_reducible rfl)
      try simp only [Act.put]
      try simp only [List.setIfInBounds_toArray]
      try simp only [List.set_cons_succ]
      try simp only [List.set_cons_zero]
      refine wpAnyH_take (i := 16) (v := ?v84_16) rfl (by kernel_rfl) (by kernel_rfl) (by kernel_rfl) (fun _ _ _ h => h) (Or.inl ⟨by rfl, ?hy84_16⟩) hHeld ?rest84_16
      case hy84_16 =>
        intro w hSw
        (try dsimp only at hSw)
        go_simp
        all_goals (first | done | with_reducible rfl)
      try simp only [Act.put]
      try simp only [List.setIfInBounds_toArray]
      try simp only [List.set_cons_succ]
      try simp only [List.set_cons_zero]
      refine wpAnyH_take (i := 17) (v := ?v85_17) rfl (by kernel_rfl) (by kernel_rfl) (by kernel_rfl) (fun _ _ _ h => h) (Or.inl ⟨by rfl, ?hy85_17⟩) hHeld ?rest85_17
      case hy85_17 =>
        intro w hSw
        (try dsimp only at hSw)
        go_simp
        all_goals (first | done | with_reducible rfl)
      try simp only [Act.put]
      try simp only [List.setIfInBounds_toArray]
      try simp only [List.set_cons_succ]
      try simp only [List.set_cons_zero]
      refine wpAnyH_take (i := 18) (v := ?v86_18) rfl (by kernel_rfl) (by kernel_rfl) (by kernel_rfl) (fun _ _ _ h => h) (Or.inl ⟨by rfl, ?hy86_18⟩) hHeld ?rest86_18
      case hy86_18 =>
        intro w hSw
        (try dsimp only at hSw)
        go_simp
        all_goals (first | done | with_reducible rfl)
      try simp only [Act.put]
      try simp only [List.setIfInBounds_toArray]
      try simp only [List.set_cons_succ]
      try simp only [List.set_cons_zero]
      refine wpAnyH_take (i := 19) (v := ?v87_19) rfl (by kernel_rfl) (by kernel_rfl) (by kernel_rfl) (fun _ _ _ h => h) (Or.inl ⟨by rfl, ?hy87_19⟩) hHeld ?rest87_19
      case hy87_19 =>
        intro w hSw
        (try dsimp only at hSw)
        go_simp
        all_goals (first | done | with_reducible rfl)
      try simp only [Act.put]
      try simp only [List.setIfInBounds_toArray]
      try simp only [List.set_cons_succ]
      try simp only [List.set_cons_zero]
      refine wpAnyH_take (i := 20) (v := ?v88_20) rfl (by kernel_rfl) (by kernel_rfl) (by kernel_rfl) (fun _ _ _ h => h) (Or.inl ⟨by rfl, ?hy88_20⟩) hHeld ?rest88_20
      case hy88_20 =>
        intro w hSw
        (try dsimp only at hSw)
        go_simp
        all_goals (first | done | with_reducible rfl)
      try simp only [Act.put]
      try simp only [List.setIfInBounds_toArray]
      try simp only [List.set_cons_succ]
      try simp only [List.set_cons_zero]
      refine wpAnyH_done (by kernel_rfl) ?_ _
      try simp only [List.getElem_toArray]
      try simp only [List.getElem_cons_succ]
      try simp only [List.getElem_cons_zero]
      try simp only [Act.put]
      try simp only [List.setIfInBounds_toArray]
      try simp only [List.set_cons_succ]
      try simp only [List.set_cons_zero]
      go_wp2_with fail
      go_ret
      exact ⟨by rw [HR.out, HL.out]; rfl, B.out⟩
    · have lb : ((es.length : Int) == 1) = false := by simp; omega
      have HL : Hid (decide (es.length = 1) = false) := by show _ = _; simp [ql]
      clear ql
      refine wp_region_held_drew (S := (fun w' => w'.cell? ⟨w.heap.size, 0, none⟩ = some (.int .i64 14) ∧ w'.cell? ⟨w.heap.size, 3, none⟩ = some (.int .i64 fk) ∧ w'.cell? ⟨w.heap.size, 4, none⟩ = some (.slice fa fn fc) ∧ w'.cell? ⟨w.heap.size, 5, none⟩ = some (.int .i64 tk) ∧ w'.cell? ⟨w.heap.size, 6, none⟩ = some (.slice ta tn tc) ∧ w'.cell? ⟨w.heap.size, 7, none⟩ = some (.slice a es.length cap))) (by kernel_rfl) (by exact ⟨XA.out.2 0, XA.out.2 3, XA.out.2 4, XA.out.2 5, XA.out.2 6, XA.out.2 7⟩) (fun hHeld => ?_)
      refine wpAnyH_take (i := 0) (v := ?z71_0) rfl (by kernel_rfl) (by kernel_rfl) (by kernel_rfl) (fun _ _ _ h => h) (Or.inl ⟨by rfl, ?jy71_0⟩) hHeld ?sest71_0
      case jy71_0 =>
        intro w hSw
        (try dsimp only at hSw)
        go_simp
        all_goals (first | done | with_reducible rfl)
      try simp only [Act.put]
      try simp only [List.setIfInBounds_toArray]
      try simp only [List.set_cons_succ]
      try simp only [List.set_cons_zero]
      refine wpAnyH_take (i := 1) (v := ?z72_1) rfl (by kernel_rfl) (by kernel_rfl) (by kernel_rfl) (fun _ _ _ h => h) (Or.inl ⟨by rfl, ?jy72_1⟩) hHeld ?sest72_1
      case jy72_1 =>
        intro w hSw
        (try dsimp only at hSw)
        go_simp
        all_goals (first | done | with_reducible rfl)
      try simp only [Act.put]
      try simp only [List.setIfInBounds_toArray]
      try simp only [List.set_cons_succ]
      try simp only [List.set_cons_zero]
      refine wpAnyH_take (i := 2) (v := ?z73_2) rfl (by kernel_rfl) (by kernel_rfl) (by kernel_rfl) (fun _ _ _ h => h) (Or.inl ⟨by rfl, ?jy73_2⟩) hHeld ?sest73_2
      case jy73_2 =>
        intro w hSw
        (try dsimp only at hSw)
        go_simp
        all_goals (first | done | with_reducible rfl)
      try simp only [Act.put]
      try simp only [List.setIfInBounds_toArray]
      try simp only [List.set_cons_succ]
      try simp only [List.set_cons_zero]
      refine wpAnyH_take (i := 3) (v := ?z74_3) rfl (by kernel_rfl) (by kernel_rfl) (by kernel_rfl) (fun _ _ _ h => h) (Or.inl ⟨by rfl, ?jy74_3⟩) hHeld ?sest74_3
      case jy74_3 =>
        intro w hSw
        (try dsimp only at hSw)
        go_simp
        all_goals (first | done | with_reducible rfl)
      try simp only [Act.put]
      try simp only [List.setIfInBounds_toArray]
      try simp only [List.set_cons_succ]
      try simp only [List.set_cons_zero]
      refine wpAnyH_take (i := 4) (v := ?z75_4) rfl (by kernel_rfl) (by kernel_rfl) (by kernel_rfl) (fun _ _ _ h => h) (Or.inl ⟨by rfl, ?jy75_4⟩) hHeld ?sest75_4
      case jy75_4 =>
        intro w hSw
        (try dsimp only at hSw)
        go_simp
        all_goals (first | done | with_reducible rfl)
      try simp only [Act.put]
      try simp only [List.setIfInBounds_toArray]
      try simp only [List.set_cons_succ]
      try simp only [List.set_cons_zero]
      refine wpAnyH_take (i := 5) (v := ?z76_5) rfl (by kernel_rfl) (by kernel_rfl) (by kernel_rfl) (fun _ _ _ h => h) (Or.inl ⟨by rfl, ?jy76_5⟩) hHeld ?sest76_5
      case jy76_5 =>
        intro w hSw
        (try dsimp only at hSw)
        go_simp
        all_goals (first | done | with_reducible rfl)
      try simp only [Act.put]
      try simp only [List.setIfInBounds_toArray]
      try simp only [List.set_cons_succ]
      try simp only [List.set_cons_zero]
      refine wpAnyH_ready (rs := [6]) (by kernel_rfl) (by simp) ?_
      refine AllReadyH.cons rfl (fun K hK => ?_) AllReadyH.nil
      go_simp
      go_at_call 18
      refine (implIsGround d _ fr _ HF.out hsz1).mono ?_
      rintro e w1 ⟨he, hb⟩
      rw [HG.out] at he
      subst he
      replace B := Lib.hid (below_thru B.out (Nat.le_refl _) hb)
      replace HF := Lib.hid (HF.out.below hb)
      replace HY := Lib.hid (HY.out.below hb)
      replace XA := Lib.hid (XA.out.below hb)
      clear hb
      clear hHeld
      try go_wp2_with fail
      refine hK.out _ _ (by exact ⟨XA.out.2 0, XA.out.2 3, XA.out.2 4, XA.out.2 5, XA.out.2 6, XA.out.2 7⟩) (fun hHeld => ?_)
      clear hK K
      try simp only [Act.put]
      try simp only [List.setIfInBounds_toArray]
      try simp only [List.set_cons_succ]
      try simp only [List.set_cons_zero]
      refine wpAnyH_take (i := 7) (v := ?z77_7) rfl (by kernel_rfl) (by kernel_rfl) (by kernel_rfl) (fun _ _ _ h => h) (Or.inl ⟨by rfl, ?jy77_7⟩) hHeld ?sest77_7
      case jy77_7 =>
        intro w hSw
        (try dsimp only at hSw)
        go_simp
        all_goals (first | done | with_reducible rfl)
      try simp only [Act.put]
      try simp only [List.setIfInBounds_toArray]
      try simp only [List.set_cons_succ]
      try simp only [List.set_cons_zero]
      refine wpAnyH_take (i := 8) (v := ?z78_8) rfl (by kernel_rfl) (by kernel_rfl) (by kernel_rfl) (fun _ _ _ h => h) (Or.inl ⟨by rfl, ?jy78_8⟩) hHeld ?sest78_8
      case jy78_8 =>
        intro w hSw
        (try dsimp only at hSw)
        go_simp
        all_goals (first | done | with_reducible rfl)
      try simp only [Act.put]
      try simp only [List.setIfInBounds_toArray]
      try simp only [List.set_cons_succ]
      try simp only [List.set_cons_zero]
      refine wpAnyH_take (i := 9) (v := ?z79_9) rfl (by kernel_rfl) (by kernel_rfl) (by kernel_rfl) (fun _ _ _ h => h) (Or.inl ⟨by rfl, ?jy79_9⟩) hHeld ?sest79_9
      case jy79_9 =>
        intro w hSw
        (try dsimp only at hSw)
        go_simp
        all_goals (first | done | with_reducible rfl)
      try simp only [Act.put]
      try simp only [List.setIfInBounds_toArray]
      try simp only [List.set_cons_succ]
      try simp only [List.set_cons_zero]
      refine wpAnyH_take (i := 10) (v := ?z80_10) rfl (by kernel_rfl) (by kernel_rfl) (by kernel_rfl) (fun _ _ _ h => h) (Or.inl ⟨by rfl, ?jy80_10⟩) hHeld ?sest80_10
      case jy80_10 =>
        intro w hSw
        (try dsimp only at hSw)
        go_simp
        all_goals (first | done | with_reducible rfl)
      try simp only [Act.put]
      try simp only [List.setIfInBounds_toArray]
      try simp only [List.set_cons_succ]
      try simp only [List.set_cons_zero]
      refine wpAnyH_ready (rs := [11]) (by kernel_rfl) (by simp) ?_
      refine AllReadyH.cons rfl (fun K hK => ?_) AllReadyH.nil
      go_simp
      go_at_call 20
      refine (implUnknownType _).mono ?_
      rintro e w2 ⟨rfl, hb⟩
      replace B := Lib.hid (below_thru B.out (Nat.le_refl _) hb)
      replace HF := Lib.hid (HF.out.below hb)
      replace HY := Lib.hid (HY.out.below hb)
      replace XA := Lib.hid (XA.out.below hb)
      clear hb
      clear hHeld
      try go_wp2_with fail
      refine hK.out _ _ (by exact ⟨XA.out.2 0, XA.out.2 3, XA.out.2 4, XA.out.2 5, XA.out.2 6, XA.out.2 7⟩) (fun hHeld => ?_)
      clear hK K
      try simp only [Act.put]
      try simp only [List.setIfInBounds_toArray]
      try simp only [List.set_cons_succ]
      try simp only [List.set_cons_zero]
      refine wpAnyH_ready (rs := [12]) (by kernel_rfl) (by simp) ?_
      refine AllReadyH.cons rfl (fun K hK => ?_) AllReadyH.nil
      go_simp
      go_at_call 19
      refine (implEqual (d + 1) _ _ ty (.node 1 []) _ HY.out.succ (own_zero _ d 1 (by omega) (by omega)).at_).mono ?_
      rintro e w3 ⟨he, hb⟩
      rw [HQ.out] at he
      subst he
      replace B := Lib.hid (below_thru B.out (Nat.le_refl _) hb)
      replace HF := Lib.hid (HF.out.below hb)
      replace HY := Lib.hid (HY.out.below hb)
      replace XA := Lib.hid (XA.out.below hb)
      clear hb
      clear hHeld
      try go_wp2_with fail
      refine hK.out _ _ (by exact ⟨XA.out.2 0, XA.out.2 3, XA.out.2 4, XA.out.2 5, XA.out.2 6, XA.out.2 7⟩) (fun hHeld => ?_)
      clear hK K
      try simp only [Act.put]
      try simp only [List.setIfInBounds_toArray]
      try simp only [List.set_cons_succ]
      try simp only [List.set_cons_zero]
      refine wpAnyH_take (i := 13) (v := ?z81_13) rfl (by kernel_rfl) (by kernel_rfl) (by kernel_rfl) (fun _ _ _ h => h) (Or.inl ⟨by rfl, ?jy81_13⟩) hHeld ?sest81_13
      case jy81_13 =>
        intro w hSw
        (try dsimp only at hSw)
        go_simp
        all_goals (first | done | with_reducible rfl)
      try simp only [Act.put]
      try simp only [List.setIfInBounds_toArray]
      try simp only [List.set_cons_succ]
      try simp only [List.set_cons_zero]
      refine wpAnyH_take (i := 14) (v := ?z82_14) rfl (by kernel_rfl) (by kernel_rfl) (by kernel_rfl) (fun _ _ _ h => h) (Or.inl ⟨by rfl, ?jy82_14⟩) hHeld ?sest82_14
      case jy82_14 =>
        intro w hSw
        (try dsimp only at hSw)
        go_simp
        all_goals (first | done | with_reducible rfl)
      try simp only [Act.put]
      try simp only [List.setIfInBounds_toArray]
      try simp only [List.set_cons_succ]
      try simp only [List.set_cons_zero]
      refine wpAnyH_take (i := 15) (v := ?z83_15) rfl (by kernel_rfl) (by kernel_rfl) (by kernel_rfl) (fun _ _ _ h => h) (Or.inl ⟨by rfl, ?jy83_15⟩) hHeld ?sest83_15
      case jy83_15 =>
        intro w hSw
        (try dsimp only at hSw)
        go_simp
        all_goals (first | done | with_reducible rfl)
      try simp only [Act.put]
      try simp only [List.setIfInBounds_toArray]
      try simp only [List.set_cons_succ]
      try simp only [List.set_cons_zero]
      refine wpAnyH_take (i := 16) (v := ?z84_16) rfl (by kernel_rfl) (by kernel_rfl) (by kernel_rfl) (fun _ _ _ h => h) (Or.inl ⟨by rfl, ?jy84_16⟩) hHeld ?sest84_16
      case jy84_16 =>
        intro w hSw
        (try dsimp only at hSw)
        go_simp
        all_goals (first | done | with_reducible rfl)
      try simp only [Act.put]
      try simp only [List.setIfInBounds_toArray]
      try simp only [List.set_cons_succ]
      try simp only [List.set_cons_zero]
      refine wpAnyH_take (i := 17) (v := ?z85_17) rfl (by kernel_rfl) (by kernel_rfl) (by kernel_rfl) (fun _ _ _ h => h) (Or.inl ⟨by rfl, ?jy85_17⟩) hHeld ?sest85_17
      case jy85_17 =>
        intro w hSw
        (try dsimp only at hSw)
        go_simp
        all_goals (first | done | with_reducible rfl)
      try simp only [Act.put]
      try simp only [List.setIfInBounds_toArray]
      try simp only [List.set_cons_succ]
      try simp only [List.set_cons_zero]
      refine wpAnyH_take (i := 18) (v := ?z86_18) rfl (by kernel_rfl) (by kernel_rfl) (by kernel_rfl) (fun _ _ _ h => h) (Or.inl ⟨by rfl, ?jy86_18⟩) hHeld ?sest86_18
      case jy86_18 =>
        intro w hSw
        (try dsimp only at hSw)
        go_simp
        all_goals (first | done | with_reducible rfl)
      try simp only [Act.put]
      try simp only [List.setIfInBounds_toArray]
      try simp only [List.set_cons_succ]
      try simp only [List.set_cons_zero]
      refine wpAnyH_take (i := 19) (v := ?z87_19) rfl (by kernel_rfl) (by kernel_rfl) (by kernel_rfl) (fun _ _ _ h => h) (Or.inl ⟨by rfl, ?jy87_19⟩) hHeld ?sest87_19
      case jy87_19 =>
        intro w hSw
        (try dsimp only at hSw)
        go_simp
        all_goals (first | done | with_reducible rfl)
      try simp only [Act.put]
      try simp only [List.setIfInBounds_toArray]
      try simp only [List.set_cons_succ]
      try simp only [List.set_cons_zero]
      refine wpAnyH_take (i := 20) (v := ?z88_20) rfl (by kernel_rfl) (by kernel_rfl) (by kernel_rfl) (fun _ _ _ h => h) (Or.inl ⟨by rfl, ?jy88_20⟩) hHeld ?sest88_20
      case jy88_20 =>
        intro w hSw
        (try dsimp only at hSw)
        go_simp
        all_goals (first | done | with_reducible rfl)
      try simp only [Act.put]
      try simp only [List.setIfInBounds_toArray]
      try simp only [List.set_cons_succ]
      try simp only [List.set_cons_zero]
      refine wpAnyH_done (by kernel_rfl) ?_ _
      try simp only [List.getElem_toArray]
      try simp only [List.getElem_cons_succ]
      try simp only [List.getElem_cons_zero]
      try simp only [Act.put]
      try simp only [List.setIfInBounds_toArray]
      try simp only [List.set_cons_succ]
      try simp only [List.set_cons_zero]
      go_wp2_with fail
      go_ret
      exact ⟨by rw [HR.out, HL.out]; rfl, B.out⟩
end Go.Proofs.Ytgdocfjodnicdaa
