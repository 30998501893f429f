/-
  Proved: the law FnExactMoveUp: for every edit, impl.MoveUp returns the same as the reference, in memory of its own, and changes no argument; the program's table holds what its text lays (the card ties it).
-/
import Derived.Test.YtmmnjdhmankieaaDoorEditBase1
import Derived.Test.YtmmnjdhmankieaaDoorSpecCopyEdit
import Derived.Deep.DeepCutAuto
import Derived.Deep.RegionHeld3
import Derived.Test.YtmmnjdhmankieaaDoorEditBase2
import Derived.Deep.RegionLaw
import Derived.Test.YtmmnjdhmankieaaDoorToEditIn
import Derived.Test.YtmmnjdhmankieaaDoorHold
import Derived.Test.YtmmnjdhmankieaaDoorSzEdit
import Derived.Test.YtmmnjdhmankieaaDoorEqEdit
import Derived.Test.YtmmnjdhmankieaaDoorMarkEdit
import Derived.Test.YtmmnjdhmankieaaDoorHeldEx
import Derived.Test.YtmmnjdhmankieaaDoorEqExpr
import Derived.Test.YtmmnjdhmankieaaDoorSince
import Derived.Test.YtmmnjdhmankieaaDoorCards
import Derived.Test.YtmmnjdhmankieaaDoorTie
import Derived.Test.YtmmnjdhmankieaaDoorLaw
import Derived.Deep.DeepHandedRow
import Derived.Lib.LaidTab
import Derived.LaidMore
import Derived.Test.YtmmnjdhmankieaaDoorEditArg
import Derived.ChangeVars
/-
  Proved: spec.MoveUp gives the edit with the cursor one step up.
-/
namespace Go.Proofs.YtmmnjdhmankieaaDoor
open Go.RowKit

set_option maxRecDepth 100000 in
set_option maxHeartbeats 8000000 in
theorem specMoveUp (d : Nat) (v : Value) (t : Edi) (w : World) (h : EditAt w d v t) (hsz : t.bulk ≤ 1048576) :
    Calls Tryd.prog 8 #[v] w (EdEnd d t.upB.1 t.upB.2 w) := by
  obtain ⟨xk, xnm, xn, xtk, xta, xtn, xtc, xsa, xsn, xsc, xpa, xpn, xpc, rfl⟩ := edit_parts h
  have hln := edit_len h
  subst hln
  have hbk : t.bulk = t.ex.bulk + t.path.length := rfl
  have hn2 : t.path.length ≤ 1048576 := by omega
  have B : Hid (Below w.heap.size w ((w.alloc (.cells #[.int .i64 xk, .string xnm, .int .i64 xn, .int .i64 xtk, .slice xta xtn xtc, .slice xsa xsn xsc, .slice xpa t.path.length xpc] 39)).alloc (.cells #[.int .i64 0, .string ⟨#[]⟩, .int .i64 0, .int .i64 0, .slice none 0 0, .slice none 0 0, .slice none 0 0] 39))) := ((Below.refl _ _).alloc (Nat.le_refl _) _).alloc (by simp) _
  have XA : Hid (BoxAt ((w.alloc (.cells #[.int .i64 xk, .string xnm, .int .i64 xn, .int .i64 xtk, .slice xta xtn xtc, .slice xsa xsn xsc, .slice xpa t.path.length xpc] 39)).alloc (.cells #[.int .i64 0, .string ⟨#[]⟩, .int .i64 0, .int .i64 0, .slice none 0 0, .slice none 0 0, .slice none 0 0] 39)) w.heap.size #[.int .i64 xk, .string xnm, .int .i64 xn, .int .i64 xtk, .slice xta xtn xtc, .slice xsa xsn xsc, .slice xpa t.path.length xpc]) := (BoxAt.new _ _ _).below (below_alloc _ _)
  have XR : Hid (BoxAt ((w.alloc (.cells #[.int .i64 xk, .string xnm, .int .i64 xn, .int .i64 xtk, .slice xta xtn xtc, .slice xsa xsn xsc, .slice xpa t.path.length xpc] 39)).alloc (.cells #[.int .i64 0, .string ⟨#[]⟩, .int .i64 0, .int .i64 0, .slice none 0 0, .slice none 0 0, .slice none 0 0] 39)) (w.heap.size + 1) #[.int .i64 0, .string ⟨#[]⟩, .int .i64 0, .int .i64 0, .slice none 0 0, .slice none 0 0, .slice none 0 0]) := box_at (BoxAt.new _ _ _) (by simp)
  have FR : Hid (FreeAt ((w.alloc (.cells #[.int .i64 xk, .string xnm, .int .i64 xn, .int .i64 xtk, .slice xta xtn xtc, .slice xsa xsn xsc, .slice xpa t.path.length xpc] 39)).alloc (.cells #[.int .i64 0, .string ⟨#[]⟩, .int .i64 0, .int .i64 0, .slice none 0 0, .slice none 0 0, .slice none 0 0] 39)) (w.heap.size + 1)) := free_at (FreeAt.new _ _ _) (by simp)
  have hz2 : ((w.alloc (.cells #[.int .i64 xk, .string xnm, .int .i64 xn, .int .i64 xtk, .slice xta xtn xtc, .slice xsa xsn xsc, .slice xpa t.path.length xpc] 39)).alloc (.cells #[.int .i64 0, .string ⟨#[]⟩, .int .i64 0, .int .i64 0, .slice none 0 0, .slice none 0 0, .slice none 0 0] 39)).heap.size = w.heap.size + 2 := by simp
  have HA := Lib.hid (h.below B.out)
  clear h
  go_enter Tryd.func8, Tryd.ntmps8
  go_upto_region 1 with fail
  generalize ((w.alloc (.cells #[.int .i64 xk, .string xnm, .int .i64 xn, .int .i64 xtk, .slice xta xtn xtc, .slice xsa xsn xsc, .slice xpa t.path.length xpc] 39)).alloc (.cells #[.int .i64 0, .string ⟨#[]⟩, .int .i64 0, .int .i64 0, .slice none 0 0, .slice none 0 0, .slice none 0 0] 39)) = w2 at B XA XR FR hz2 HA ⊢
  by_cases h0 : t.path.length = 0
  ·
    have HQ : Hid (t.upB = (t, false)) := by show _ = _; unfold Edi.upB; rw [if_pos h0]
    have x0 := XA.out.2 0
    have x1 := XA.out.2 1
    have x2 := XA.out.2 2
    have x3 := XA.out.2 3
    have x4 := XA.out.2 4
    have x5 := XA.out.2 5
    have x6 := XA.out.2 6
    rw [h0] at x6
    go_wp2_with fail
    rw [← h0]
    clear x0 x1 x2 x3 x4 x5 x6
    refine (specCopyEdit d _ t _ HA.out hsz).mono ?_
    rintro e w5 ⟨v5, rfl, hv, hb⟩
    obtain ⟨zk, znm, zn, ztk, zta, ztn, ztc, zsa, zsn, zsc, zpa, zpn, zpc, rfl⟩ := hv.parts
    have HV := Lib.hid hv
    have hz5 := hb.size
    replace B := Lib.hid (below_thru B.out (Nat.le_refl _) hb)
    replace XA := Lib.hid (XA.out.below hb)
    replace XR := Lib.hid (XR.out.below hb)
    replace FR := Lib.hid (FR.out.below hb)
    replace HA := Lib.hid (HA.out.below hb)
    clear hv hb
    have r0 := XR.out.2 0
    have s0 := FR.out.2 0
    have r1 := XR.out.2 1
    have s1 := FR.out.2 1
    have r2 := XR.out.2 2
    have s2 := FR.out.2 2
    have r3 := XR.out.2 3
    have s3 := FR.out.2 3
    have r4 := XR.out.2 4
    have s4 := FR.out.2 4
    have r5 := XR.out.2 5
    have s5 := FR.out.2 5
    have r6 := XR.out.2 6
    have s6 := FR.out.2 6
    go_wp2_with fail
    have XRF : BoxAt (((((((w5.setCell ⟨w.heap.size + 1, 0, none⟩ (.int .i64 zk)).setCell ⟨w.heap.size + 1, 1, none⟩ (.string znm)).setCell ⟨w.heap.size + 1, 2, none⟩ (.int .i64 zn)).setCell ⟨w.heap.size + 1, 3, none⟩ (.int .i64 ztk)).setCell ⟨w.heap.size + 1, 4, none⟩ (.slice zta ztn ztc)).setCell ⟨w.heap.size + 1, 5, none⟩ (.slice zsa zsn zsc)).setCell ⟨w.heap.size + 1, 6, none⟩ (.slice zpa zpn zpc)) (w.heap.size + 1) #[.int .i64 zk, .string znm, .int .i64 zn, .int .i64 ztk, .slice zta ztn ztc, .slice zsa zsn zsc, .slice zpa zpn zpc] := by
      have := (((((((XR.out.put (j := 0) (u := .int .i64 zk) (by simp)).put (j := 1) (u := .string znm) (by simp)).put (j := 2) (u := .int .i64 zn) (by simp)).put (j := 3) (u := .int .i64 ztk) (by simp)).put (j := 4) (u := .slice zta ztn ztc) (by simp)).put (j := 5) (u := .slice zsa zsn zsc) (by simp)).put (j := 6) (u := .slice zpa zpn zpc) (by simp))
      exact this
    have hBF : Below w.heap.size w (((((((w5.setCell ⟨w.heap.size + 1, 0, none⟩ (.int .i64 zk)).setCell ⟨w.heap.size + 1, 1, none⟩ (.string znm)).setCell ⟨w.heap.size + 1, 2, none⟩ (.int .i64 zn)).setCell ⟨w.heap.size + 1, 3, none⟩ (.int .i64 ztk)).setCell ⟨w.heap.size + 1, 4, none⟩ (.slice zta ztn ztc)).setCell ⟨w.heap.size + 1, 5, none⟩ (.slice zsa zsn zsc)).setCell ⟨w.heap.size + 1, 6, none⟩ (.slice zpa zpn zpc)) := (((((((B.out.setCell (by simp) _).setCell (by simp) _).setCell (by simp) _).setCell (by simp) _).setCell (by simp) _).setCell (by simp) _).setCell (by simp) _)
    have hsz : (((((((w5.setCell ⟨w.heap.size + 1, 0, none⟩ (.int .i64 zk)).setCell ⟨w.heap.size + 1, 1, none⟩ (.string znm)).setCell ⟨w.heap.size + 1, 2, none⟩ (.int .i64 zn)).setCell ⟨w.heap.size + 1, 3, none⟩ (.int .i64 ztk)).setCell ⟨w.heap.size + 1, 4, none⟩ (.slice zta ztn ztc)).setCell ⟨w.heap.size + 1, 5, none⟩ (.slice zsa zsn zsc)).setCell ⟨w.heap.size + 1, 6, none⟩ (.slice zpa zpn zpc)).heap.size = w5.heap.size := by simp
    have hkf : ∀ b, b ≠ w.heap.size + 1 → (((((((w5.setCell ⟨w.heap.size + 1, 0, none⟩ (.int .i64 zk)).setCell ⟨w.heap.size + 1, 1, none⟩ (.string znm)).setCell ⟨w.heap.size + 1, 2, none⟩ (.int .i64 zn)).setCell ⟨w.heap.size + 1, 3, none⟩ (.int .i64 ztk)).setCell ⟨w.heap.size + 1, 4, none⟩ (.slice zta ztn ztc)).setCell ⟨w.heap.size + 1, 5, none⟩ (.slice zsa zsn zsc)).setCell ⟨w.heap.size + 1, 6, none⟩ (.slice zpa zpn zpc)).heap[b]? = w5.heap[b]? := fun b hb => by
      rw [heap_setCell_other _ _ _ _ (by simp; omega), heap_setCell_other _ _ _ _ (by simp; omega), heap_setCell_other _ _ _ _ (by simp; omega), heap_setCell_other _ _ _ _ (by simp; omega), heap_setCell_other _ _ _ _ (by simp; omega), heap_setCell_other _ _ _ _ (by simp; omega), heap_setCell_other _ _ _ _ (by simp; omega)]
    generalize (((((((w5.setCell ⟨w.heap.size + 1, 0, none⟩ (.int .i64 zk)).setCell ⟨w.heap.size + 1, 1, none⟩ (.string znm)).setCell ⟨w.heap.size + 1, 2, none⟩ (.int .i64 zn)).setCell ⟨w.heap.size + 1, 3, none⟩ (.int .i64 ztk)).setCell ⟨w.heap.size + 1, 4, none⟩ (.slice zta ztn ztc)).setCell ⟨w.heap.size + 1, 5, none⟩ (.slice zsa zsn zsc)).setCell ⟨w.heap.size + 1, 6, none⟩ (.slice zpa zpn zpc)) = WX at XRF hBF hsz hkf ⊢
    have HVX : EditUp w.heap.size WX d (.agg #[.int .i64 zk, .string znm, .int .i64 zn, .int .i64 ztk, .slice zta ztn ztc, .slice zsa zsn zsc, .slice zpa zpn zpc]) t := (HV.out.kept (by rw [hsz]; exact Nat.le_refl _) fun b hb _ => hkf b (by omega)).mono (by omega)
    have h0 := XRF.2 0
    have h1 := XRF.2 1
    have h2 := XRF.2 2
    have h3 := XRF.2 3
    have h4 := XRF.2 4
    have h5 := XRF.2 5
    have h6 := XRF.2 6
    refine bodyPost_ret (v := .tuple #[.agg #[.int .i64 zk, .string znm, .int .i64 zn, .int .i64 ztk, .slice zta ztn ztc, .slice zsa zsn zsc, .slice zpa zpn zpc], .bool false]) (by simp [results, Tryd.results8, go_sem, h0, h1, h2, h3, h4, h5, h6]) rfl ?_
    try rw [HQ.out]
    exact ⟨_, rfl, HVX, hBF⟩
  ·
    have HQ : Hid (t.upB = t.to (t.path.take (t.path.length - 1))) := by show _ = _; unfold Edi.upB; rw [if_neg h0]
    have hp1 : 1 ≤ t.path.length := by omega
    obtain ⟨pb, po, hpa, hcap⟩ : ∃ b off, xpa = some ⟨b, off, none⟩ ∧ t.path.length ≤ xpc := path_some (edit_path HA.out) (by omega)
    subst hpa
    obtain ⟨q, hq⟩ : ∃ q, q = t.path.length - 1 := ⟨_, rfl⟩
    rw [← hq] at HQ
    have hwr : IntKind.i64.wrap ((t.path.length : Int) - 1) = (q : Int) := by
      rw [IntWalk.i64_in _ (by omega)]
      omega
    have hqc : q ≤ xpc := by omega
    have hqp : q ≤ t.path.length := by omega
    clear hq
    have x0 := XA.out.2 0
    have x1 := XA.out.2 1
    have x2 := XA.out.2 2
    have x3 := XA.out.2 3
    have x4 := XA.out.2 4
    have x5 := XA.out.2 5
    have x6 := XA.out.2 6
    go_upto_region 3 with fail
    clear x0 x1 x2 x3 x4 x5 x6
    have HZ2 := Lib.hid hz2
    clear hz2
    go_cut [4, 5] (fun s u wx => UpAt w2 d (t.to (t.path.take q)) s u wx)
    case first =>
      have G := Lib.hid (below_drew w2)
      refine wp_region_held_drew (S := (fun w' => w'.cell? ⟨w.heap.size, 0, none⟩ = some (.int .i64 xk) ∧ w'.cell? ⟨w.heap.size, 1, none⟩ = some (.string xnm) ∧ w'.cell? ⟨w.heap.size, 2, none⟩ = some (.int .i64 xn) ∧ w'.cell? ⟨w.heap.size, 3, none⟩ = some (.int .i64 xtk) ∧ w'.cell? ⟨w.heap.size, 4, none⟩ = some (.slice xta xtn xtc) ∧ w'.cell? ⟨w.heap.size, 5, none⟩ = some (.slice xsa xsn xsc) ∧ w'.cell? ⟨w.heap.size, 6, none⟩ = some (.slice (some ⟨pb, po, none⟩) t.path.length xpc))) (by kernel_rfl) (box7 (p := w.heap.size) (XA.out.below G.out)) (fun hHeld => ?_)
      refine wpAnyH_take (i := 0) (v := ?v1_0) rfl (by kernel_rfl) (by kernel_rfl) (by kernel_rfl) (fun _ _ _ h => h) (Or.inl ⟨by rfl, ?hy1_0⟩) hHeld ?rest1_0
      case hy1_0 =>
        intro w hSw
        (try dsimp only at hSw)
        go_simp
        all_goals (first | done | with_reducible rfl)
      try simp only [Act.put]
      try simp only [List.setIfInBounds_toArray]
      try simp only [List.set_cons_succ]
      try simp only [List.set_cons_zero]
      refine wpAnyH_take (i := 1) (v := ?v2_1) rfl (by kernel_rfl) (by kernel_rfl) (by kernel_rfl) (fun _ _ _ h => h) (Or.inl ⟨by rfl, ?hy2_1⟩) hHeld ?rest2_1
      case hy2_1 =>
        intro w hSw
        (try dsimp only at hSw)
        go_simp
        all_goals (first | done | with_reducible rfl)
      try simp only [Act.put]
      try simp only [List.setIfInBounds_toArray]
      try simp only [List.set_cons_succ]
      try simp only [List.set_cons_zero]
      refine wpAnyH_take (i := 2) (v := ?v3_2) rfl (by kernel_rfl) (by kernel_rfl) (by kernel_rfl) (fun _ _ _ h => h) (Or.inl ⟨by rfl, ?hy3_2⟩) hHeld ?rest3_2
      case hy3_2 =>
        intro w hSw
        (try dsimp only at hSw)
        go_simp
        all_goals (first | done | with_reducible rfl)
      try simp only [Act.put]
      try simp only [List.setIfInBounds_toArray]
      try simp only [List.set_cons_succ]
      try simp only [List.set_cons_zero]
      refine wpAnyH_take (i := 3) (v := ?v4_3) rfl (by kernel_rfl) (by kernel_rfl) (by kernel_rfl) (fun _ _ _ h => h) (Or.inl ⟨by rfl, ?hy4_3⟩) hHeld ?rest4_3
      case hy4_3 =>
        intro w hSw
        (try dsimp only at hSw)
        go_simp
        all_goals (first | done | with_reducible rfl)
      try simp only [Act.put]
      try simp only [List.setIfInBounds_toArray]
      try simp only [List.set_cons_succ]
      try simp only [List.set_cons_zero]
      refine wpAnyH_take (i := 4) (v := ?v5_4) rfl (by kernel_rfl) (by kernel_rfl) (by kernel_rfl) (fun _ _ _ h => h) (Or.inl ⟨by rfl, ?hy5_4⟩) hHeld ?rest5_4
      case hy5_4 =>
        intro w hSw
        (try dsimp only at hSw)
        go_simp
        all_goals (first | done | with_reducible rfl)
      try simp only [Act.put]
      try simp only [List.setIfInBounds_toArray]
      try simp only [List.set_cons_succ]
      try simp only [List.set_cons_zero]
      refine wpAnyH_take (i := 5) (v := ?v6_5) rfl (by kernel_rfl) (by kernel_rfl) (by kernel_rfl) (fun _ _ _ h => h) (Or.inl ⟨by rfl, ?hy6_5⟩) hHeld ?rest6_5
      case hy6_5 =>
        intro w hSw
        (try dsimp only at hSw)
        go_simp
        all_goals (first | done | with_reducible rfl)
      try simp only [Act.put]
      try simp only [List.setIfInBounds_toArray]
      try simp only [List.set_cons_succ]
      try simp only [List.set_cons_zero]
      refine wpAnyH_take (i := 6) (v := ?v7_6) rfl (by kernel_rfl) (by kernel_rfl) (by kernel_rfl) (fun _ _ _ h => h) (Or.inl ⟨by rfl, ?hy7_6⟩) hHeld ?rest7_6
      case hy7_6 =>
        intro w hSw
        (try dsimp only at hSw)
        go_simp
        all_goals (first | done | with_reducible rfl)
      try simp only [Act.put]
      try simp only [List.setIfInBounds_toArray]
      try simp only [List.set_cons_succ]
      try simp only [List.set_cons_zero]
      refine wpAnyH_take (i := 7) (v := ?v8_7) rfl (by kernel_rfl) (by kernel_rfl) (by kernel_rfl) (fun _ _ _ h => h) (Or.inl ⟨by rfl, ?hy8_7⟩) hHeld ?rest8_7
      case hy8_7 =>
        intro w hSw
        (try dsimp only at hSw)
        go_simp
        all_goals (first | done | with_reducible rfl)
      try simp only [Act.put]
      try simp only [List.setIfInBounds_toArray]
      try simp only [List.set_cons_succ]
      try simp only [List.set_cons_zero]
      refine wpAnyH_ready (rs := [8, 12]) (by kernel_rfl) (by simp) ?_
      refine AllReadyH.cons rfl (fun K hK => ?_) (AllReadyH.cons rfl (fun K hK => ?_) AllReadyH.nil)
      · go_simp
        go_at_call 28
        refine (specTo d _ _ t (t.path.take q) _ (HA.out.below G.out) (path_cut (edit_path (HA.out.below G.out)) q hqp) hsz (by rw [List.length_take]; omega)).mono ?_
        rintro e w5 ⟨v5, rfl, hu, hb⟩
        obtain ⟨zk, znm, zn, ztk, zta, ztn, ztc, zsa, zsn, zsc, zpa, zpn, zpc, rfl⟩ := hu.parts
        have Ho := Lib.hid hu
        have HB5 := Lib.hid hb
        have hz5 := hb.size
        have G5 := Lib.hid (below_on G.out hb G.out.size)
        clear hu hb hHeld
        try go_wp2_with fail
        refine hK.out _ _ (box7 (p := w.heap.size) (XA.out.below G5.out)) (fun hHeld => ?_)
        clear hK K
        try simp only [Act.put]
        try simp only [List.setIfInBounds_toArray]
        try simp only [List.set_cons_succ]
        try simp only [List.set_cons_zero]
        refine wpAnyH_take (i := 9) (v := ?v9_9) rfl (by kernel_rfl) (by kernel_rfl) (by kernel_rfl) (fun _ _ _ h => h) (Or.inl ⟨by rfl, ?hy9_9⟩) hHeld ?rest9_9
        case hy9_9 =>
          intro w hSw
          (try dsimp only at hSw)
          go_simp
          all_goals (first | done | with_reducible rfl)
        try simp only [Act.put]
        try simp only [List.setIfInBounds_toArray]
        try simp only [List.set_cons_succ]
        try simp only [List.set_cons_zero]
        refine wpAnyH_take (i := 10) (v := ?v10_10) rfl (by kernel_rfl) (by kernel_rfl) (by kernel_rfl) (fun _ _ _ h => h) (Or.inl ⟨by rfl, ?hy10_10⟩) hHeld ?rest10_10
        case hy10_10 =>
          intro w hSw
          (try dsimp only at hSw)
          go_simp
          all_goals (first | done | with_reducible rfl)
        try simp only [Act.put]
        try simp only [List.setIfInBounds_toArray]
        try simp only [List.set_cons_succ]
        try simp only [List.set_cons_zero]
        refine wpAnyH_take (i := 11) (v := ?v11_11) rfl (by kernel_rfl) (by kernel_rfl) (by kernel_rfl) (fun _ _ _ h => h) (Or.inl ⟨by rfl, ?hy11_11⟩) hHeld ?rest11_11
        case hy11_11 =>
          intro w hSw
          (try dsimp only at hSw)
          go_simp
          all_goals (first | done | with_reducible rfl)
        try simp only [Act.put]
        try simp only [List.setIfInBounds_toArray]
        try simp only [List.set_cons_succ]
        try simp only [List.set_cons_zero]
        refine wpAnyH_ready (rs := [12]) (by kernel_rfl) (by simp) ?_
        refine AllReadyH.cons rfl (fun K hK => ?_) AllReadyH.nil
        go_simp
        clear hHeld
        try go_wp2_with fail
        refine hK.out _ _ (box7 (p := w.heap.size) (XA.out.below (G5.out.alloc G5.out.size _))) (fun hHeld => ?_)
        clear hK K
        try simp only [Act.put]
        try simp only [List.setIfInBounds_toArray]
        try simp only [List.set_cons_succ]
        try simp only [List.set_cons_zero]
        have X6 := Lib.hid (BoxAt.new w5 #[.int .i64 0, .string ⟨#[]⟩, .int .i64 0, .int .i64 0, .slice none 0 0, .slice none 0 0, .slice none 0 0] 39)
        have F6 := Lib.hid (FreeAt.new w5 #[.int .i64 0, .string ⟨#[]⟩, .int .i64 0, .int .i64 0, .slice none 0 0, .slice none 0 0, .slice none 0 0] 39)
        have r0 := X6.out.2 0
        have q0 := F6.out.2 0
        have r1 := X6.out.2 1
        have q1 := F6.out.2 1
        have r2 := X6.out.2 2
        have q2 := F6.out.2 2
        have r3 := X6.out.2 3
        have q3 := F6.out.2 3
        have r4 := X6.out.2 4
        have q4 := F6.out.2 4
        have r5 := X6.out.2 5
        have q5 := F6.out.2 5
        have r6 := X6.out.2 6
        have q6 := F6.out.2 6
        refine wpAnyH_ready (rs := [13]) (by kernel_rfl) (by simp) ?_
        refine AllReadyH.cons rfl (fun K hK => ?_) AllReadyH.nil
        go_simp
        clear hHeld
        try go_wp2_with fail
        refine hK.out _ _ (box7 (p := w.heap.size) (XA.out.below (G5.out.alloc G5.out.size _))) (fun hHeld => ?_)
        clear hK K
        try simp only [Act.put]
        try simp only [List.setIfInBounds_toArray]
        try simp only [List.set_cons_succ]
        try simp only [List.set_cons_zero]
        refine wpAnyH_ready (rs := [14]) (by kernel_rfl) (by simp) ?_
        refine AllReadyH.cons rfl (fun K hK => ?_) AllReadyH.nil
        go_simp
        refine hK.out _ _ hHeld (fun hHeld => ?_)
        clear hK K
        try simp only [Act.put]
        try simp only [List.setIfInBounds_toArray]
        try simp only [List.set_cons_succ]
        try simp only [List.set_cons_zero]
        refine wpAnyH_done (by kernel_rfl) ?_ _
        try simp only [List.getElem_toArray]
        try simp only [List.getElem_cons_succ]
        try simp only [List.getElem_cons_zero]
        try simp only [Act.put]
        try simp only [List.setIfInBounds_toArray]
        try simp only [List.set_cons_succ]
        try simp only [List.set_cons_zero]
        try go_wp2_with fail
        go_meet
        exact up_new G5.out Ho.out (by simp)
      · go_simp
        clear hHeld
        try go_wp2_with fail
        refine hK.out _ _ (box7 (p := w.heap.size) (XA.out.below (G.out.alloc G.out.size _))) (fun hHeld => ?_)
        clear hK K
        try simp only [Act.put]
        try simp only [List.setIfInBounds_toArray]
        try simp only [List.set_cons_succ]
        try simp only [List.set_cons_zero]
        have GA := Lib.hid (G.out.alloc G.out.size (.cells #[.int .i64 0, .string ⟨#[]⟩, .int .i64 0, .int .i64 0, .slice none 0 0, .slice none 0 0, .slice none 0 0] 39))
        clear G
        have G := GA
        clear GA
        refine wpAnyH_ready (rs := [8]) (by kernel_rfl) (by simp) ?_
        refine AllReadyH.cons rfl (fun K hK => ?_) AllReadyH.nil
        go_simp
        go_at_call 28
        refine (specTo d _ _ t (t.path.take q) _ (HA.out.below G.out) (path_cut (edit_path (HA.out.below G.out)) q hqp) hsz (by rw [List.length_take]; omega)).mono ?_
        rintro e w5 ⟨v5, rfl, hu, hb⟩
        obtain ⟨zk, znm, zn, ztk, zta, ztn, ztc, zsa, zsn, zsc, zpa, zpn, zpc, rfl⟩ := hu.parts
        have Ho := Lib.hid hu
        have HB5 := Lib.hid hb
        have hz5 := hb.size
        have G5 := Lib.hid (below_on G.out hb G.out.size)
        have XO : Hid (BoxAt w5 w2.heap.size #[.int .i64 0, .string ⟨#[]⟩, .int .i64 0, .int .i64 0, .slice none 0 0, .slice none 0 0, .slice none 0 0]) := Lib.hid ((BoxAt.new w2.drew #[.int .i64 0, .string ⟨#[]⟩, .int .i64 0, .int .i64 0, .slice none 0 0, .slice none 0 0, .slice none 0 0] 39).below hb)
        have XF : Hid (FreeAt w5 w2.heap.size) := Lib.hid ((FreeAt.new w2.drew #[.int .i64 0, .string ⟨#[]⟩, .int .i64 0, .int .i64 0, .slice none 0 0, .slice none 0 0, .slice none 0 0] 39).below hb)
        clear hu hb hHeld
        try go_wp2_with fail
        refine hK.out _ _ (box7 (p := w.heap.size) (XA.out.below G5.out)) (fun hHeld => ?_)
        clear hK K
        try simp only [Act.put]
        try simp only [List.setIfInBounds_toArray]
        try simp only [List.set_cons_succ]
        try simp only [List.set_cons_zero]
        refine wpAnyH_take (i := 9) (v := ?v12_9) rfl (by kernel_rfl) (by kernel_rfl) (by kernel_rfl) (fun _ _ _ h => h) (Or.inl ⟨by rfl, ?hy12_9⟩) hHeld ?rest12_9
        case hy12_9 =>
          intro w hSw
          (try dsimp only at hSw)
          go_simp
          all_goals (first | done | with_reducible rfl)
        try simp only [Act.put]
        try simp only [List.setIfInBounds_toArray]
        try simp only [List.set_cons_succ]
        try simp only [List.set_cons_zero]
        refine wpAnyH_take (i := 10) (v := ?v13_10) rfl (by kernel_rfl) (by kernel_rfl) (by kernel_rfl) (fun _ _ _ h => h) (Or.inl ⟨by rfl, ?hy13_10⟩) hHeld ?rest13_10
        case hy13_10 =>
          intro w hSw
          (try dsimp only at hSw)
          go_simp
          all_goals (first | done | with_reducible rfl)
        try simp only [Act.put]
        try simp only [List.setIfInBounds_toArray]
        try simp only [List.set_cons_succ]
        try simp only [List.set_cons_zero]
        refine wpAnyH_take (i := 11) (v := ?v14_11) rfl (by kernel_rfl) (by kernel_rfl) (by kernel_rfl) (fun _ _ _ h => h) (Or.inl ⟨by rfl, ?hy14_11⟩) hHeld ?rest14_11
        case hy14_11 =>
          intro w hSw
          (try dsimp only at hSw)
          go_simp
          all_goals (first | done | with_reducible rfl)
        try simp only [Act.put]
        try simp only [List.setIfInBounds_toArray]
        try simp only [List.set_cons_succ]
        try simp only [List.set_cons_zero]
        have r0 := XO.out.2 0
        have q0 := XF.out.2 0
        have r1 := XO.out.2 1
        have q1 := XF.out.2 1
        have r2 := XO.out.2 2
        have q2 := XF.out.2 2
        have r3 := XO.out.2 3
        have q3 := XF.out.2 3
        have r4 := XO.out.2 4
        have q4 := XF.out.2 4
        have r5 := XO.out.2 5
        have q5 := XF.out.2 5
        have r6 := XO.out.2 6
        have q6 := XF.out.2 6
        refine wpAnyH_ready (rs := [13]) (by kernel_rfl) (by simp) ?_
        refine AllReadyH.cons rfl (fun K hK => ?_) AllReadyH.nil
        go_simp
        clear hHeld
        try go_wp2_with fail
        refine hK.out _ _ (box7 (p := w.heap.size) (XA.out.below (up_cell (up_cell (up_cell (up_cell (up_cell (up_cell (up_cell G5.out (Nat.le_refl _)) (Nat.le_refl _)) (Nat.le_refl _)) (Nat.le_refl _)) (Nat.le_refl _)) (Nat.le_refl _)) (Nat.le_refl _)))) (fun hHeld => ?_)
        clear hK K
        try simp only [Act.put]
        try simp only [List.setIfInBounds_toArray]
        try simp only [List.set_cons_succ]
        try simp only [List.set_cons_zero]
        refine wpAnyH_ready (rs := [14]) (by kernel_rfl) (by simp) ?_
        refine AllReadyH.cons rfl (fun K hK => ?_) AllReadyH.nil
        go_simp
        refine hK.out _ _ hHeld (fun hHeld => ?_)
        clear hK K
        try simp only [Act.put]
        try simp only [List.setIfInBounds_toArray]
        try simp only [List.set_cons_succ]
        try simp only [List.set_cons_zero]
        refine wpAnyH_done (by kernel_rfl) ?_ _
        try simp only [List.getElem_toArray]
        try simp only [List.getElem_cons_succ]
        try simp only [List.getElem_cons_zero]
        try simp only [Act.put]
        try simp only [List.setIfInBounds_toArray]
        try simp only [List.set_cons_succ]
        try simp only [List.set_cons_zero]
        try go_wp2_with fail
        go_meet
        exact up_old G5.out Ho.out (by simp) (by simp) (by simp) XO.out
    case rest =>
      obtain ⟨w3, hwc⟩ : ∃ u, u = wc := ⟨_, rfl⟩
      subst hwc
      obtain ⟨po', zk, znm, zn, ztk, zta, ztn, ztc, zsa, zsn, zsc, zpa, zpn, zpc, rfl, rfl, hpo, hXo, hu, hb⟩ := hcut
      have Xo := Lib.hid hXo
      have HV := Lib.hid hu
      have hqo := hXo.1
      have hz3 := hb.size
      have hz2 := HZ2.out
      replace B := Lib.hid (below_thru B.out (Nat.le_refl _) hb)
      replace XA := Lib.hid (XA.out.below hb)
      replace XR := Lib.hid (XR.out.below hb)
      replace FR := Lib.hid (FR.out.below hb)
      replace HA := Lib.hid (HA.out.below hb)
      clear hb hXo hu
      have r0 := XR.out.2 0
      have s0 := FR.out.2 0
      have o0 := Xo.out.2 0
      have r1 := XR.out.2 1
      have s1 := FR.out.2 1
      have o1 := Xo.out.2 1
      have r2 := XR.out.2 2
      have s2 := FR.out.2 2
      have o2 := Xo.out.2 2
      have r3 := XR.out.2 3
      have s3 := FR.out.2 3
      have o3 := Xo.out.2 3
      have r4 := XR.out.2 4
      have s4 := FR.out.2 4
      have o4 := Xo.out.2 4
      have r5 := XR.out.2 5
      have s5 := FR.out.2 5
      have o5 := Xo.out.2 5
      have r6 := XR.out.2 6
      have s6 := FR.out.2 6
      have o6 := Xo.out.2 6
      go_wp2_with fail
      have XRF : BoxAt (((((((w3.setCell ⟨w.heap.size + 1, 0, none⟩ (.int .i64 zk)).setCell ⟨w.heap.size + 1, 1, none⟩ (.string znm)).setCell ⟨w.heap.size + 1, 2, none⟩ (.int .i64 zn)).setCell ⟨w.heap.size + 1, 3, none⟩ (.int .i64 ztk)).setCell ⟨w.heap.size + 1, 4, none⟩ (.slice zta ztn ztc)).setCell ⟨w.heap.size + 1, 5, none⟩ (.slice zsa zsn zsc)).setCell ⟨w.heap.size + 1, 6, none⟩ (.slice zpa zpn zpc)) (w.heap.size + 1) #[.int .i64 zk, .string znm, .int .i64 zn, .int .i64 ztk, .slice zta ztn ztc, .slice zsa zsn zsc, .slice zpa zpn zpc] := by
        have := (((((((XR.out.put (j := 0) (u := .int .i64 zk) (by simp)).put (j := 1) (u := .string znm) (by simp)).put (j := 2) (u := .int .i64 zn) (by simp)).put (j := 3) (u := .int .i64 ztk) (by simp)).put (j := 4) (u := .slice zta ztn ztc) (by simp)).put (j := 5) (u := .slice zsa zsn zsc) (by simp)).put (j := 6) (u := .slice zpa zpn zpc) (by simp))
        exact this
      have hBF : Below w.heap.size w (((((((w3.setCell ⟨w.heap.size + 1, 0, none⟩ (.int .i64 zk)).setCell ⟨w.heap.size + 1, 1, none⟩ (.string znm)).setCell ⟨w.heap.size + 1, 2, none⟩ (.int .i64 zn)).setCell ⟨w.heap.size + 1, 3, none⟩ (.int .i64 ztk)).setCell ⟨w.heap.size + 1, 4, none⟩ (.slice zta ztn ztc)).setCell ⟨w.heap.size + 1, 5, none⟩ (.slice zsa zsn zsc)).setCell ⟨w.heap.size + 1, 6, none⟩ (.slice zpa zpn zpc)) := (((((((B.out.setCell (by simp) _).setCell (by simp) _).setCell (by simp) _).setCell (by simp) _).setCell (by simp) _).setCell (by simp) _).setCell (by simp) _)
      have hsz : (((((((w3.setCell ⟨w.heap.size + 1, 0, none⟩ (.int .i64 zk)).setCell ⟨w.heap.size + 1, 1, none⟩ (.string znm)).setCell ⟨w.heap.size + 1, 2, none⟩ (.int .i64 zn)).setCell ⟨w.heap.size + 1, 3, none⟩ (.int .i64 ztk)).setCell ⟨w.heap.size + 1, 4, none⟩ (.slice zta ztn ztc)).setCell ⟨w.heap.size + 1, 5, none⟩ (.slice zsa zsn zsc)).setCell ⟨w.heap.size + 1, 6, none⟩ (.slice zpa zpn zpc)).heap.size = w3.heap.size := by simp
      have hkf : ∀ b, b ≠ w.heap.size + 1 → (((((((w3.setCell ⟨w.heap.size + 1, 0, none⟩ (.int .i64 zk)).setCell ⟨w.heap.size + 1, 1, none⟩ (.string znm)).setCell ⟨w.heap.size + 1, 2, none⟩ (.int .i64 zn)).setCell ⟨w.heap.size + 1, 3, none⟩ (.int .i64 ztk)).setCell ⟨w.heap.size + 1, 4, none⟩ (.slice zta ztn ztc)).setCell ⟨w.heap.size + 1, 5, none⟩ (.slice zsa zsn zsc)).setCell ⟨w.heap.size + 1, 6, none⟩ (.slice zpa zpn zpc)).heap[b]? = w3.heap[b]? := fun b hb => by
        rw [heap_setCell_other _ _ _ _ (by simp; omega), heap_setCell_other _ _ _ _ (by simp; omega), heap_setCell_other _ _ _ _ (by simp; omega), heap_setCell_other _ _ _ _ (by simp; omega), heap_setCell_other _ _ _ _ (by simp; omega), heap_setCell_other _ _ _ _ (by simp; omega), heap_setCell_other _ _ _ _ (by simp; omega)]
      generalize (((((((w3.setCell ⟨w.heap.size + 1, 0, none⟩ (.int .i64 zk)).setCell ⟨w.heap.size + 1, 1, none⟩ (.string znm)).setCell ⟨w.heap.size + 1, 2, none⟩ (.int .i64 zn)).setCell ⟨w.heap.size + 1, 3, none⟩ (.int .i64 ztk)).setCell ⟨w.heap.size + 1, 4, none⟩ (.slice zta ztn ztc)).setCell ⟨w.heap.size + 1, 5, none⟩ (.slice zsa zsn zsc)).setCell ⟨w.heap.size + 1, 6, none⟩ (.slice zpa zpn zpc)) = WX at XRF hBF hsz hkf ⊢
      have HVX : EditUp w.heap.size WX d (.agg #[.int .i64 zk, .string znm, .int .i64 zn, .int .i64 ztk, .slice zta ztn ztc, .slice zsa zsn zsc, .slice zpa zpn zpc]) (t.to (t.path.take q)).1 := (HV.out.kept (by rw [hsz]; exact Nat.le_refl _) fun b hb _ => hkf b (by omega)).mono (by omega)
      have h0 := XRF.2 0
      have h1 := XRF.2 1
      have h2 := XRF.2 2
      have h3 := XRF.2 3
      have h4 := XRF.2 4
      have h5 := XRF.2 5
      have h6 := XRF.2 6
      refine bodyPost_ret (v := .tuple #[.agg #[.int .i64 zk, .string znm, .int .i64 zn, .int .i64 ztk, .slice zta ztn ztc, .slice zsa zsn zsc, .slice zpa zpn zpc], .bool (t.to (t.path.take q)).2]) (by simp [results, Tryd.results8, go_sem, h0, h1, h2, h3, h4, h5, h6]) rfl ?_
      try rw [HQ.out]
      exact ⟨_, rfl, HVX, hBF⟩
end Go.Proofs.YtmmnjdhmankieaaDoor
/-
  Proved: impl.MoveUp gives the edit with the cursor one step up, in new memory of its own.
-/
namespace Go.Proofs.YtmmnjdhmankieaaDoor
open Go.RowKit

set_option maxRecDepth 100000 in
set_option maxHeartbeats 8000000 in
theorem implMoveUp (d : Nat) (v : Value) (t : Edi) (w : World) (h : EditAt w d v t) (hsz : t.bulk ≤ 1048576) (htab : TabAt w) :
    Calls Tryd.prog 10 #[v] w fun e w' => ∃ v', e = .returned (.tuple #[v', .bool t.upB.2]) ∧ EditIn w' d v' t.upB.1 w.heap.size w'.heap.size ∧ Below w.heap.size w w' := by
  obtain ⟨xk, xnm, xn, xtk, xta, xtn, xtc, xsa, xsn, xsc, xpa, xpn, xpc, rfl⟩ := edit_parts h
  have hln := edit_len h
  subst hln
  have hbk : t.bulk = t.ex.bulk + t.path.length := rfl
  have hn1 : t.ex.bulk ≤ 1048576 := by omega
  have hn2 : t.path.length ≤ 1048576 := by omega
  have B : Hid (Below w.heap.size w ((w.alloc (.cells #[.int .i64 xk, .string xnm, .int .i64 xn, .int .i64 xtk, .slice xta xtn xtc, .slice xsa xsn xsc, .slice xpa t.path.length xpc] 39)).alloc (.cells #[.int .i64 0, .string ⟨#[]⟩, .int .i64 0, .int .i64 0, .slice none 0 0, .slice none 0 0, .slice none 0 0] 39))) := ((Below.refl _ _).alloc (Nat.le_refl _) _).alloc (by simp) _
  have XA : Hid (BoxAt ((w.alloc (.cells #[.int .i64 xk, .string xnm, .int .i64 xn, .int .i64 xtk, .slice xta xtn xtc, .slice xsa xsn xsc, .slice xpa t.path.length xpc] 39)).alloc (.cells #[.int .i64 0, .string ⟨#[]⟩, .int .i64 0, .int .i64 0, .slice none 0 0, .slice none 0 0, .slice none 0 0] 39)) w.heap.size #[.int .i64 xk, .string xnm, .int .i64 xn, .int .i64 xtk, .slice xta xtn xtc, .slice xsa xsn xsc, .slice xpa t.path.length xpc]) := (BoxAt.new _ _ _).below (below_alloc _ _)
  have XR : Hid (BoxAt ((w.alloc (.cells #[.int .i64 xk, .string xnm, .int .i64 xn, .int .i64 xtk, .slice xta xtn xtc, .slice xsa xsn xsc, .slice xpa t.path.length xpc] 39)).alloc (.cells #[.int .i64 0, .string ⟨#[]⟩, .int .i64 0, .int .i64 0, .slice none 0 0, .slice none 0 0, .slice none 0 0] 39)) (w.heap.size + 1) #[.int .i64 0, .string ⟨#[]⟩, .int .i64 0, .int .i64 0, .slice none 0 0, .slice none 0 0, .slice none 0 0]) := box_at (BoxAt.new _ _ _) (by simp)
  have FR : Hid (FreeAt ((w.alloc (.cells #[.int .i64 xk, .string xnm, .int .i64 xn, .int .i64 xtk, .slice xta xtn xtc, .slice xsa xsn xsc, .slice xpa t.path.length xpc] 39)).alloc (.cells #[.int .i64 0, .string ⟨#[]⟩, .int .i64 0, .int .i64 0, .slice none 0 0, .slice none 0 0, .slice none 0 0] 39)) (w.heap.size + 1)) := free_at (FreeAt.new _ _ _) (by simp)
  have hz2 : ((w.alloc (.cells #[.int .i64 xk, .string xnm, .int .i64 xn, .int .i64 xtk, .slice xta xtn xtc, .slice xsa xsn xsc, .slice xpa t.path.length xpc] 39)).alloc (.cells #[.int .i64 0, .string ⟨#[]⟩, .int .i64 0, .int .i64 0, .slice none 0 0, .slice none 0 0, .slice none 0 0] 39)).heap.size = w.heap.size + 2 := by simp
  have HA := Lib.hid (h.below B.out)
  have HT := Lib.hid (htab.below B.out)
  clear h htab
  go_enter Tryd.func10, Tryd.ntmps10
  go_upto_region 1 with fail
  generalize ((w.alloc (.cells #[.int .i64 xk, .string xnm, .int .i64 xn, .int .i64 xtk, .slice xta xtn xtc, .slice xsa xsn xsc, .slice xpa t.path.length xpc] 39)).alloc (.cells #[.int .i64 0, .string ⟨#[]⟩, .int .i64 0, .int .i64 0, .slice none 0 0, .slice none 0 0, .slice none 0 0] 39)) = w2 at B XA XR FR hz2 HA HT ⊢
  have x0 := XA.out.2 0
  have x1 := XA.out.2 1
  have x2 := XA.out.2 2
  have x3 := XA.out.2 3
  have x4 := XA.out.2 4
  have x5 := XA.out.2 5
  have x6 := XA.out.2 6
  go_wp2_with fail
  clear x0 x1 x2 x3 x4 x5 x6
  refine (implIsEdit d _ t _ HA.out hsz HT.out).mono ?_
  rintro e w4 ⟨he1, hb⟩
  have hz4 := hb.size
  replace B := Lib.hid (below_thru B.out (Nat.le_refl _) hb)
  replace XA := Lib.hid (XA.out.below hb)
  replace XR := Lib.hid (XR.out.below hb)
  replace FR := Lib.hid (FR.out.below hb)
  replace HA := Lib.hid (HA.out.below hb)
  clear hb HT
  cases hq : t.okB with
  | false =>
    rw [hq] at he1
    subst he1
    have HQ := Lib.hid (upB_not hq)
    clear hq
    have x0 := XA.out.2 0
    have x1 := XA.out.2 1
    have x2 := XA.out.2 2
    have x3 := XA.out.2 3
    have x4 := XA.out.2 4
    have x5 := XA.out.2 5
    have x6 := XA.out.2 6
    go_wp2_with fail
    clear x0 x1 x2 x3 x4 x5 x6
    refine (implCopyEdit d _ t _ HA.out hsz).mono ?_
    rintro e w5 ⟨v5, rfl, hv, hb⟩
    obtain ⟨zk, znm, zn, ztk, zta, ztn, ztc, zsa, zsn, zsc, zpa, zpn, zpc, rfl⟩ := edit_parts hv.at_
    have HV := Lib.hid hv
    have hz5 := hb.size
    replace B := Lib.hid (below_thru B.out (Nat.le_refl _) hb)
    replace XA := Lib.hid (XA.out.below hb)
    replace XR := Lib.hid (XR.out.below hb)
    replace FR := Lib.hid (FR.out.below hb)
    replace HA := Lib.hid (HA.out.below hb)
    clear hv hb
    have r0 := XR.out.2 0
    have s0 := FR.out.2 0
    have r1 := XR.out.2 1
    have s1 := FR.out.2 1
    have r2 := XR.out.2 2
    have s2 := FR.out.2 2
    have r3 := XR.out.2 3
    have s3 := FR.out.2 3
    have r4 := XR.out.2 4
    have s4 := FR.out.2 4
    have r5 := XR.out.2 5
    have s5 := FR.out.2 5
    have r6 := XR.out.2 6
    have s6 := FR.out.2 6
    go_wp2_with fail
    have HI := im_old B.out HV.out (by omega) XR.out
    clear r0 r1 r2 r3 r4 r5 r6
    clear s0 s1 s2 s3 s4 s5 s6
    generalize (((((((w5.setCell ⟨w.heap.size + 1, 0, none⟩ (.int .i64 zk)).setCell ⟨w.heap.size + 1, 1, none⟩ (.string znm)).setCell ⟨w.heap.size + 1, 2, none⟩ (.int .i64 zn)).setCell ⟨w.heap.size + 1, 3, none⟩ (.int .i64 ztk)).setCell ⟨w.heap.size + 1, 4, none⟩ (.slice zta ztn ztc)).setCell ⟨w.heap.size + 1, 5, none⟩ (.slice zsa zsn zsc)).setCell ⟨w.heap.size + 1, 6, none⟩ (.slice zpa zpn zpc)) = WX at HI ⊢
    obtain ⟨_, yk, ynm, yn, ytk, yta, ytn, ytc, ysa, ysn, ysc, ypa, ypn, ypc, hXo, hin, hbf⟩ := HI
    have h0 := hXo.2 0
    have h1 := hXo.2 1
    have h2 := hXo.2 2
    have h3 := hXo.2 3
    have h4 := hXo.2 4
    have h5 := hXo.2 5
    have h6 := hXo.2 6
    refine bodyPost_ret (v := .tuple #[.agg #[.int .i64 yk, .string ynm, .int .i64 yn, .int .i64 ytk, .slice yta ytn ytc, .slice ysa ysn ysc, .slice ypa ypn ypc], .bool false]) (by simp [results, Tryd.results10, go_sem, h0, h1, h2, h3, h4, h5, h6]) rfl ?_
    rw [HQ.out]
    exact ⟨_, rfl, hin, hbf⟩
  | true =>
    rw [hq] at he1
    subst he1
    by_cases h0 : t.path.length = 0
    ·
      have HQ := Lib.hid (upB_nil h0)
      clear hq
      have x0 := XA.out.2 0
      have x1 := XA.out.2 1
      have x2 := XA.out.2 2
      have x3 := XA.out.2 3
      have x4 := XA.out.2 4
      have x5 := XA.out.2 5
      have x6 := XA.out.2 6
      rw [h0] at x6
      go_wp2_with fail
      rw [← h0]
      clear x0 x1 x2 x3 x4 x5 x6
      refine (implCopyEdit d _ t _ HA.out hsz).mono ?_
      rintro e w5 ⟨v5, rfl, hv, hb⟩
      obtain ⟨zk, znm, zn, ztk, zta, ztn, ztc, zsa, zsn, zsc, zpa, zpn, zpc, rfl⟩ := edit_parts hv.at_
      have HV := Lib.hid hv
      have hz5 := hb.size
      replace B := Lib.hid (below_thru B.out (Nat.le_refl _) hb)
      replace XA := Lib.hid (XA.out.below hb)
      replace XR := Lib.hid (XR.out.below hb)
      replace FR := Lib.hid (FR.out.below hb)
      replace HA := Lib.hid (HA.out.below hb)
      clear hv hb
      have r0 := XR.out.2 0
      have s0 := FR.out.2 0
      have r1 := XR.out.2 1
      have s1 := FR.out.2 1
      have r2 := XR.out.2 2
      have s2 := FR.out.2 2
      have r3 := XR.out.2 3
      have s3 := FR.out.2 3
      have r4 := XR.out.2 4
      have s4 := FR.out.2 4
      have r5 := XR.out.2 5
      have s5 := FR.out.2 5
      have r6 := XR.out.2 6
      have s6 := FR.out.2 6
      go_wp2_with fail
      have HI := im_old B.out HV.out (by omega) XR.out
      clear r0 r1 r2 r3 r4 r5 r6
      clear s0 s1 s2 s3 s4 s5 s6
      generalize (((((((w5.setCell ⟨w.heap.size + 1, 0, none⟩ (.int .i64 zk)).setCell ⟨w.heap.size + 1, 1, none⟩ (.string znm)).setCell ⟨w.heap.size + 1, 2, none⟩ (.int .i64 zn)).setCell ⟨w.heap.size + 1, 3, none⟩ (.int .i64 ztk)).setCell ⟨w.heap.size + 1, 4, none⟩ (.slice zta ztn ztc)).setCell ⟨w.heap.size + 1, 5, none⟩ (.slice zsa zsn zsc)).setCell ⟨w.heap.size + 1, 6, none⟩ (.slice zpa zpn zpc)) = WX at HI ⊢
      obtain ⟨_, yk, ynm, yn, ytk, yta, ytn, ytc, ysa, ysn, ysc, ypa, ypn, ypc, hXo, hin, hbf⟩ := HI
      have h0 := hXo.2 0
      have h1 := hXo.2 1
      have h2 := hXo.2 2
      have h3 := hXo.2 3
      have h4 := hXo.2 4
      have h5 := hXo.2 5
      have h6 := hXo.2 6
      refine bodyPost_ret (v := .tuple #[.agg #[.int .i64 yk, .string ynm, .int .i64 yn, .int .i64 ytk, .slice yta ytn ytc, .slice ysa ysn ysc, .slice ypa ypn ypc], .bool false]) (by simp [results, Tryd.results10, go_sem, h0, h1, h2, h3, h4, h5, h6]) rfl ?_
      rw [HQ.out]
      exact ⟨_, rfl, hin, hbf⟩
    ·
      have hp1 : 1 ≤ t.path.length := by omega
      have hqu := upB_ok hq h0
      clear hq
      obtain ⟨pb, po, hpa, hcap⟩ : ∃ b off, xpa = some ⟨b, off, none⟩ ∧ t.path.length ≤ xpc := path_some (edit_path HA.out) (by omega)
      subst hpa
      obtain ⟨q, hq⟩ : ∃ q, q = t.path.length - 1 := ⟨_, rfl⟩
      rw [← hq] at hqu
      have HQ := Lib.hid hqu
      clear hqu
      have hwr : IntKind.i64.wrap ((t.path.length : Int) - 1) = (q : Int) := by
        rw [IntWalk.i64_in _ (by omega)]
        omega
      have hqc : q ≤ xpc := by omega
      have hqp : q ≤ t.path.length := by omega
      clear hq
      have x0 := XA.out.2 0
      have x1 := XA.out.2 1
      have x2 := XA.out.2 2
      have x3 := XA.out.2 3
      have x4 := XA.out.2 4
      have x5 := XA.out.2 5
      have x6 := XA.out.2 6
      go_upto_region 3 with fail
      clear x0 x1 x2 x3 x4 x5 x6
      go_cut [3] (fun u wx => ImAt w d ⟨t.ex, t.path.take q⟩ u wx)
      case first =>
        have BC := Lib.hid (below_drew w4)
        have x0 := XA.out.2 0
        have x1 := XA.out.2 1
        have x2 := XA.out.2 2
        have x3 := XA.out.2 3
        have x4 := XA.out.2 4
        have x5 := XA.out.2 5
        have x6 := XA.out.2 6
        go_region_law (first
             | (go_simp
                go_at_call 33
                refine (implEditAt d _ _ t.ex (t.path.take q) _ (edit_ex (HA.out.below BC.out)) (path_cut (edit_path (HA.out.below BC.out)) q hqp) hn1 (by rw [List.length_take]; omega)).mono ?_
                rintro e w5 ⟨v5, rfl, hv, hb⟩
                obtain ⟨zk, znm, zn, ztk, zta, ztn, ztc, zsa, zsn, zsc, zpa, zpn, zpc, rfl⟩ := edit_parts hv.at_
                have HV := Lib.hid hv
                have hz5 := hb.size
                replace BC := Lib.hid (below_thru BC.out (Nat.le_refl _) hb)
                have XR5 := Lib.hid (XR.out.below BC.out)
                have FR5 := Lib.hid (FR.out.below BC.out)
                have BB := Lib.hid (below_thru B.out (Nat.le_refl _) BC.out)
                have r0 := XR5.out.2 0
                have s0 := FR5.out.2 0
                have r1 := XR5.out.2 1
                have s1 := FR5.out.2 1
                have r2 := XR5.out.2 2
                have s2 := FR5.out.2 2
                have r3 := XR5.out.2 3
                have s3 := FR5.out.2 3
                have r4 := XR5.out.2 4
                have s4 := FR5.out.2 4
                have r5 := XR5.out.2 5
                have s5 := FR5.out.2 5
                have r6 := XR5.out.2 6
                have s6 := FR5.out.2 6
                clear hv hb))
        all_goals go_wp2_with fail
        all_goals go_meet
        all_goals refine im_old BB.out HV.out ?_ XR5.out
        all_goals ((try simp only [World.size_drew]); omega)
      case rest =>
        obtain ⟨w3, hwc⟩ : ∃ u, u = wc := ⟨_, rfl⟩
        subst hwc
        obtain ⟨rfl, yk, ynm, yn, ytk, yta, ytn, ytc, ysa, ysn, ysc, ypa, ypn, ypc, hXo, hin, hbf⟩ := hcut
        have h0 := hXo.2 0
        have h1 := hXo.2 1
        have h2 := hXo.2 2
        have h3 := hXo.2 3
        have h4 := hXo.2 4
        have h5 := hXo.2 5
        have h6 := hXo.2 6
        go_wp2_with fail
        have h0 := hXo.2 0
        have h1 := hXo.2 1
        have h2 := hXo.2 2
        have h3 := hXo.2 3
        have h4 := hXo.2 4
        have h5 := hXo.2 5
        have h6 := hXo.2 6
        refine bodyPost_ret (v := .tuple #[.agg #[.int .i64 yk, .string ynm, .int .i64 yn, .int .i64 ytk, .slice yta ytn ytc, .slice ysa ysn ysc, .slice ypa ypn ypc], .bool true]) (by simp [results, Tryd.results10, go_sem, h0, h1, h2, h3, h4, h5, h6]) rfl ?_
        rw [HQ.out]
        exact ⟨_, rfl, hin, hbf⟩
end Go.Proofs.YtmmnjdhmankieaaDoor
/-
  Proved: the law FnExactMoveUp answers true for every edit, and leaves the memory that was there as it was.
-/
namespace Go.Proofs.YtmmnjdhmankieaaDoor
open Go.RowKit

set_option maxRecDepth 100000 in
set_option maxHeartbeats 4000000 in
theorem moveUpWalk (d : Nat) (v1 : Value) (t1 : Edi) (w : World) (h1 : EditAt w d v1 t1) (htab : TabAt w) :
    Calls Tryd.prog 3 #[v1] w fun e w' => e = .returned (.bool true) ∧ Below w.heap.size w w' := by
  obtain ⟨ak, am, an, atk, ata, atn, atc, asa, asn, asc, apa, apn, apc, rfl⟩ := edit_parts h1
  have B : Hid (Below w.heap.size w (w.alloc (.cells #[.int .i64 ak, .string am, .int .i64 an, .int .i64 atk, .slice ata atn atc, .slice asa asn asc, .slice apa apn apc] 30))) := below_alloc _ _
  have HA10 := Lib.hid h1
  have HA1 := Lib.hid (h1.below B.out)
  have HTAB0 := Lib.hid htab
  have HTAB := Lib.hid (htab.below B.out)
  have XA1 : Hid (BoxAt (w.alloc (.cells #[.int .i64 ak, .string am, .int .i64 an, .int .i64 atk, .slice ata atn atc, .slice asa asn asc, .slice apa apn apc] 30)) (w.heap.size) #[.int .i64 ak, .string am, .int .i64 an, .int .i64 atk, .slice ata atn atc, .slice asa asn asc, .slice apa apn apc]) := BoxAt.new _ _ _
  clear h1 htab
  go_enter Tryd.func3, Tryd.ntmps3
  go_wp2_with fail
  refine (szEdit d _ t1 1048576 _ (by omega) (by omega) HA1.out).mono ?_
  rintro e w1 ⟨r1, rfl, hb, hr1⟩
  have hz1 := hb.size
  try simp only [World.size_alloc] at hz1
  try simp only [World.size_drew] at hz1
  replace B := Lib.hid (below_thru B.out (Nat.le_refl _) hb)
  replace HA1 := Lib.hid (HA1.out.below hb)
  replace HTAB := Lib.hid (HTAB.out.below hb)
  replace XA1 := Lib.hid (XA1.out.below hb)
  clear hb
  rcases hr1 with ⟨hr1, hs1⟩ | ⟨hr1, hs1⟩
  · go_wp2_with fail
    go_ret
    exact ⟨rfl, B.out⟩
  have hn1 : t1.bulk ≤ 1048576 := by omega
  have hwt1 : t1.wt ≤ 6291456 := by
    have := t1.ex.wt_le
    have h2 : t1.bulk = t1.ex.bulk + t1.path.length := rfl
    show t1.ex.wt + t1.path.length ≤ _
    omega
  clear hs1
  obtain ⟨R, hR⟩ : ∃ R : Edi, R = t1.upB.1 := ⟨_, rfl⟩
  have hrb1 : R.bulk ≤ 1048576 := by rw [hR]; exact Nat.le_trans (up_bulk t1) (by omega)
  have hwr : R.wt ≤ 6291456 := by
    have := R.ex.wt_le
    have h2 : R.bulk = R.ex.bulk + R.path.length := rfl
    show R.ex.wt + R.path.length ≤ _
    omega
  have HR := Lib.hid hR
  clear hR
  have cXA1_0 := XA1.out.2 0
  have cXA1_1 := XA1.out.2 1
  have cXA1_2 := XA1.out.2 2
  have cXA1_3 := XA1.out.2 3
  have cXA1_4 := XA1.out.2 4
  have cXA1_5 := XA1.out.2 5
  have cXA1_6 := XA1.out.2 6
  go_wp2_with fail
  clear cXA1_0 cXA1_1 cXA1_2 cXA1_3 cXA1_4 cXA1_5 cXA1_6
  refine (toEditIn d _ t1 _ hn1 HA1.out).mono ?_
  rintro e w2 ⟨s, rfl, ht, hb⟩
  have hz2 := hb.size
  try simp only [World.size_alloc] at hz2
  try simp only [World.size_drew] at hz2
  replace B := Lib.hid (below_thru B.out (Nat.le_refl _) hb)
  replace HA1 := Lib.hid (HA1.out.below hb)
  replace HTAB := Lib.hid (HTAB.out.below hb)
  replace XA1 := Lib.hid (XA1.out.below hb)
  clear hb
  have Hs := Lib.hid ht.at_
  clear ht
  have cXA1_0 := XA1.out.2 0
  have cXA1_1 := XA1.out.2 1
  have cXA1_2 := XA1.out.2 2
  have cXA1_3 := XA1.out.2 3
  have cXA1_4 := XA1.out.2 4
  have cXA1_5 := XA1.out.2 5
  have cXA1_6 := XA1.out.2 6
  go_wp2_with fail
  clear cXA1_0 cXA1_1 cXA1_2 cXA1_3 cXA1_4 cXA1_5 cXA1_6
  refine (specMoveUp d _ t1 _ Hs.out hn1).mono ?_
  rintro e w4 ⟨u, rfl, hi, hb⟩
  rw [← HR.out] at hi
  have hz4 := hb.size
  try simp only [World.size_alloc] at hz4
  try simp only [World.size_drew] at hz4
  replace B := Lib.hid (below_thru B.out (Nat.le_refl _) hb)
  replace HA1 := Lib.hid (HA1.out.below hb)
  replace HTAB := Lib.hid (HTAB.out.below hb)
  replace XA1 := Lib.hid (XA1.out.below hb)
  replace Hs := Lib.hid (Hs.out.below hb)
  clear hb
  replace hi := hi.at_
  obtain ⟨uk, um, un, utk, uta, utn, utc, usa, usn, usc, upa, upn, upc, rfl⟩ := edit_parts hi
  have Hu0 := Lib.hid hi
  have Hu := Lib.hid hi
  have S4 := Lib.hid (Since.refl w4)
  clear hi
  have Xu : Hid (BoxAt (w4.alloc (.cells #[.int .i64 uk, .string um, .int .i64 un, .int .i64 utk, .slice uta utn utc, .slice usa usn usc, .slice upa upn upc] 39)) w4.heap.size #[.int .i64 uk, .string um, .int .i64 un, .int .i64 utk, .slice uta utn utc, .slice usa usn usc, .slice upa upn upc]) := BoxAt.new _ _ _
  have hb := below_alloc w4 (.cells #[.int .i64 uk, .string um, .int .i64 un, .int .i64 utk, .slice uta utn utc, .slice usa usn usc, .slice upa upn upc] 39)
  replace B := Lib.hid (below_thru B.out (Nat.le_refl _) hb)
  replace HA1 := Lib.hid (HA1.out.below hb)
  replace HTAB := Lib.hid (HTAB.out.below hb)
  replace XA1 := Lib.hid (XA1.out.below hb)
  replace Hs := Lib.hid (Hs.out.below hb)
  replace S4 := Lib.hid (S4.out.below hb)
  replace Hu := Lib.hid (Hu.out.below hb)
  clear hb
  clear Hs
  have cXA1_0 := XA1.out.2 0
  have cXA1_1 := XA1.out.2 1
  have cXA1_2 := XA1.out.2 2
  have cXA1_3 := XA1.out.2 3
  have cXA1_4 := XA1.out.2 4
  have cXA1_5 := XA1.out.2 5
  have cXA1_6 := XA1.out.2 6
  have cXu_0 := Xu.out.2 0
  have cXu_1 := Xu.out.2 1
  have cXu_2 := Xu.out.2 2
  have cXu_3 := Xu.out.2 3
  have cXu_4 := Xu.out.2 4
  have cXu_5 := Xu.out.2 5
  have cXu_6 := Xu.out.2 6
  go_wp2_with fail
  clear cXA1_0 cXA1_1 cXA1_2 cXA1_3 cXA1_4 cXA1_5 cXA1_6 cXu_0 cXu_1 cXu_2 cXu_3 cXu_4 cXu_5 cXu_6
  refine (toEditIn d _ t1 _ hn1 HA1.out).mono ?_
  rintro e w5 ⟨x, rfl, ht, hb⟩
  have hz5 := hb.size
  try simp only [World.size_alloc] at hz5
  try simp only [World.size_drew] at hz5
  try simp only [World.size_alloc] at ht
  replace B := Lib.hid (below_thru B.out (Nat.le_refl _) hb)
  replace HA1 := Lib.hid (HA1.out.below hb)
  replace HTAB := Lib.hid (HTAB.out.below hb)
  replace XA1 := Lib.hid (XA1.out.below hb)
  replace S4 := Lib.hid (S4.out.below hb)
  replace Hu := Lib.hid (Hu.out.below hb)
  replace Xu := Lib.hid (Xu.out.below hb)
  clear hb
  obtain ⟨xk, xm, xn, xtk, xta, xtn, xtc, xsa, xsn, xsc, xpa, xpn, xpc, rfl⟩ := edit_parts ht.at_
  have Hx := Lib.hid ht
  clear ht
  have Xx : Hid (BoxAt (w5.alloc (.cells #[.int .i64 xk, .string xm, .int .i64 xn, .int .i64 xtk, .slice xta xtn xtc, .slice xsa xsn xsc, .slice xpa xpn xpc] 39)) w5.heap.size #[.int .i64 xk, .string xm, .int .i64 xn, .int .i64 xtk, .slice xta xtn xtc, .slice xsa xsn xsc, .slice xpa xpn xpc]) := BoxAt.new _ _ _
  have hb := below_alloc w5 (.cells #[.int .i64 xk, .string xm, .int .i64 xn, .int .i64 xtk, .slice xta xtn xtc, .slice xsa xsn xsc, .slice xpa xpn xpc] 39)
  replace B := Lib.hid (below_thru B.out (Nat.le_refl _) hb)
  replace HA1 := Lib.hid (HA1.out.below hb)
  replace HTAB := Lib.hid (HTAB.out.below hb)
  replace XA1 := Lib.hid (XA1.out.below hb)
  replace S4 := Lib.hid (S4.out.below hb)
  replace Hu := Lib.hid (Hu.out.below hb)
  replace Xu := Lib.hid (Xu.out.below hb)
  replace Hx := Lib.hid (Hx.out.below hb)
  clear hb
  have cXA1_0 := XA1.out.2 0
  have cXA1_1 := XA1.out.2 1
  have cXA1_2 := XA1.out.2 2
  have cXA1_3 := XA1.out.2 3
  have cXA1_4 := XA1.out.2 4
  have cXA1_5 := XA1.out.2 5
  have cXA1_6 := XA1.out.2 6
  have cXu_0 := Xu.out.2 0
  have cXu_1 := Xu.out.2 1
  have cXu_2 := Xu.out.2 2
  have cXu_3 := Xu.out.2 3
  have cXu_4 := Xu.out.2 4
  have cXu_5 := Xu.out.2 5
  have cXu_6 := Xu.out.2 6
  have cXx_0 := Xx.out.2 0
  have cXx_1 := Xx.out.2 1
  have cXx_2 := Xx.out.2 2
  have cXx_3 := Xx.out.2 3
  have cXx_4 := Xx.out.2 4
  have cXx_5 := Xx.out.2 5
  have cXx_6 := Xx.out.2 6
  go_wp2_with fail
  clear cXA1_0 cXA1_1 cXA1_2 cXA1_3 cXA1_4 cXA1_5 cXA1_6 cXu_0 cXu_1 cXu_2 cXu_3 cXu_4 cXu_5 cXu_6 cXx_0 cXx_1 cXx_2 cXx_3 cXx_4 cXx_5 cXx_6
  have HxAT := Lib.hid Hx.out.at_
  refine (implMoveUp d _ t1 _ HxAT.out hn1 HTAB.out).mono ?_
  rintro e w7 ⟨g, rfl, hi, hb⟩
  rw [← HR.out] at hi
  have hz7 := hb.size
  try simp only [World.size_alloc] at hz7
  try simp only [World.size_drew] at hz7
  replace B := Lib.hid (below_thru B.out (Nat.le_refl _) hb)
  replace HA1 := Lib.hid (HA1.out.below hb)
  replace HTAB := Lib.hid (HTAB.out.below hb)
  replace XA1 := Lib.hid (XA1.out.below hb)
  replace S4 := Lib.hid (S4.out.below hb)
  replace Hu := Lib.hid (Hu.out.below hb)
  replace Xu := Lib.hid (Xu.out.below hb)
  replace Hx := Lib.hid (Hx.out.below hb)
  replace Xx := Lib.hid (Xx.out.below hb)
  clear hb
  try simp only [World.size_alloc] at hi
  try simp only [World.size_drew] at hi
  obtain ⟨gk, gm, gn, gtk, gta, gtn, gtc, gsa, gsn, gsc, gpa, gpn, gpc, rfl⟩ := edit_parts hi.at_
  have Hg := Lib.hid hi
  clear hi
  have Xg : Hid (BoxAt (w7.alloc (.cells #[.int .i64 gk, .string gm, .int .i64 gn, .int .i64 gtk, .slice gta gtn gtc, .slice gsa gsn gsc, .slice gpa gpn gpc] 39)) w7.heap.size #[.int .i64 gk, .string gm, .int .i64 gn, .int .i64 gtk, .slice gta gtn gtc, .slice gsa gsn gsc, .slice gpa gpn gpc]) := BoxAt.new _ _ _
  have hb := below_alloc w7 (.cells #[.int .i64 gk, .string gm, .int .i64 gn, .int .i64 gtk, .slice gta gtn gtc, .slice gsa gsn gsc, .slice gpa gpn gpc] 39)
  replace B := Lib.hid (below_thru B.out (Nat.le_refl _) hb)
  replace HA1 := Lib.hid (HA1.out.below hb)
  replace HTAB := Lib.hid (HTAB.out.below hb)
  replace XA1 := Lib.hid (XA1.out.below hb)
  replace S4 := Lib.hid (S4.out.below hb)
  replace Hu := Lib.hid (Hu.out.below hb)
  replace Xu := Lib.hid (Xu.out.below hb)
  replace Hx := Lib.hid (Hx.out.below hb)
  replace Xx := Lib.hid (Xx.out.below hb)
  replace Hg := Lib.hid (Hg.out.below hb)
  clear hb
  clear HxAT
  have cXA1_0 := XA1.out.2 0
  have cXA1_1 := XA1.out.2 1
  have cXA1_2 := XA1.out.2 2
  have cXA1_3 := XA1.out.2 3
  have cXA1_4 := XA1.out.2 4
  have cXA1_5 := XA1.out.2 5
  have cXA1_6 := XA1.out.2 6
  have cXu_0 := Xu.out.2 0
  have cXu_1 := Xu.out.2 1
  have cXu_2 := Xu.out.2 2
  have cXu_3 := Xu.out.2 3
  have cXu_4 := Xu.out.2 4
  have cXu_5 := Xu.out.2 5
  have cXu_6 := Xu.out.2 6
  have cXx_0 := Xx.out.2 0
  have cXx_1 := Xx.out.2 1
  have cXx_2 := Xx.out.2 2
  have cXx_3 := Xx.out.2 3
  have cXx_4 := Xx.out.2 4
  have cXx_5 := Xx.out.2 5
  have cXx_6 := Xx.out.2 6
  have cXg_0 := Xg.out.2 0
  have cXg_1 := Xg.out.2 1
  have cXg_2 := Xg.out.2 2
  have cXg_3 := Xg.out.2 3
  have cXg_4 := Xg.out.2 4
  have cXg_5 := Xg.out.2 5
  have cXg_6 := Xg.out.2 6
  go_wp2_with fail
  clear cXA1_0 cXA1_1 cXA1_2 cXA1_3 cXA1_4 cXA1_5 cXA1_6 cXu_0 cXu_1 cXu_2 cXu_3 cXu_4 cXu_5 cXu_6 cXx_0 cXx_1 cXx_2 cXx_3 cXx_4 cXx_5 cXx_6 cXg_0 cXg_1 cXg_2 cXg_3 cXg_4 cXg_5 cXg_6
  refine (eqEdit d _ _ R _ Hg.out.at_ Hu.out).mono ?_
  rintro e w8 ⟨rfl, hb⟩
  have hz8 := hb.size
  try simp only [World.size_alloc] at hz8
  try simp only [World.size_drew] at hz8
  replace B := Lib.hid (below_thru B.out (Nat.le_refl _) hb)
  replace HA1 := Lib.hid (HA1.out.below hb)
  replace HTAB := Lib.hid (HTAB.out.below hb)
  replace XA1 := Lib.hid (XA1.out.below hb)
  replace S4 := Lib.hid (S4.out.below hb)
  replace Hu := Lib.hid (Hu.out.below hb)
  replace Xu := Lib.hid (Xu.out.below hb)
  replace Hx := Lib.hid (Hx.out.below hb)
  replace Xx := Lib.hid (Xx.out.below hb)
  replace Hg := Lib.hid (Hg.out.below hb)
  replace Xg := Lib.hid (Xg.out.below hb)
  clear hb
  have cXA1_0 := XA1.out.2 0
  have cXA1_1 := XA1.out.2 1
  have cXA1_2 := XA1.out.2 2
  have cXA1_3 := XA1.out.2 3
  have cXA1_4 := XA1.out.2 4
  have cXA1_5 := XA1.out.2 5
  have cXA1_6 := XA1.out.2 6
  have cXu_0 := Xu.out.2 0
  have cXu_1 := Xu.out.2 1
  have cXu_2 := Xu.out.2 2
  have cXu_3 := Xu.out.2 3
  have cXu_4 := Xu.out.2 4
  have cXu_5 := Xu.out.2 5
  have cXu_6 := Xu.out.2 6
  have cXx_0 := Xx.out.2 0
  have cXx_1 := Xx.out.2 1
  have cXx_2 := Xx.out.2 2
  have cXx_3 := Xx.out.2 3
  have cXx_4 := Xx.out.2 4
  have cXx_5 := Xx.out.2 5
  have cXx_6 := Xx.out.2 6
  have cXg_0 := Xg.out.2 0
  have cXg_1 := Xg.out.2 1
  have cXg_2 := Xg.out.2 2
  have cXg_3 := Xg.out.2 3
  have cXg_4 := Xg.out.2 4
  have cXg_5 := Xg.out.2 5
  have cXg_6 := Xg.out.2 6
  go_wp2_with fail
  clear cXA1_0 cXA1_1 cXA1_2 cXA1_3 cXA1_4 cXA1_5 cXA1_6 cXu_0 cXu_1 cXu_2 cXu_3 cXu_4 cXu_5 cXu_6 cXx_0 cXx_1 cXx_2 cXx_3 cXx_4 cXx_5 cXx_6 cXg_0 cXg_1 cXg_2 cXg_3 cXg_4 cXg_5 cXg_6
  have hb := below_drew w8
  replace B := Lib.hid (below_thru B.out (Nat.le_refl _) hb)
  replace HA1 := Lib.hid (HA1.out.below hb)
  replace HTAB := Lib.hid (HTAB.out.below hb)
  replace XA1 := Lib.hid (XA1.out.below hb)
  replace S4 := Lib.hid (S4.out.below hb)
  replace Hu := Lib.hid (Hu.out.below hb)
  replace Xu := Lib.hid (Xu.out.below hb)
  replace Hx := Lib.hid (Hx.out.below hb)
  replace Xx := Lib.hid (Xx.out.below hb)
  replace Hg := Lib.hid (Hg.out.below hb)
  replace Xg := Lib.hid (Xg.out.below hb)
  clear hb
  go_region_held3 (fun w' => w'.cell? ⟨w.heap.size, 0, none⟩ = some (.int .i64 ak) ∧ w'.cell? ⟨w.heap.size, 1, none⟩ = some (.string am) ∧ w'.cell? ⟨w.heap.size, 2, none⟩ = some (.int .i64 an) ∧ w'.cell? ⟨w.heap.size, 3, none⟩ = some (.int .i64 atk) ∧ w'.cell? ⟨w.heap.size, 4, none⟩ = some (.slice ata atn atc) ∧ w'.cell? ⟨w.heap.size, 5, none⟩ = some (.slice asa asn asc) ∧ w'.cell? ⟨w.heap.size, 6, none⟩ = some (.slice apa apn apc) ∧ w'.cell? ⟨w4.heap.size, 0, none⟩ = some (.int .i64 uk) ∧ w'.cell? ⟨w4.heap.size, 1, none⟩ = some (.string um) ∧ w'.cell? ⟨w4.heap.size, 2, none⟩ = some (.int .i64 un) ∧ w'.cell? ⟨w4.heap.size, 3, none⟩ = some (.int .i64 utk) ∧ w'.cell? ⟨w4.heap.size, 4, none⟩ = some (.slice uta utn utc) ∧ w'.cell? ⟨w4.heap.size, 5, none⟩ = some (.slice usa usn usc) ∧ w'.cell? ⟨w4.heap.size, 6, none⟩ = some (.slice upa upn upc) ∧ w'.cell? ⟨w5.heap.size, 0, none⟩ = some (.int .i64 xk) ∧ w'.cell? ⟨w5.heap.size, 1, none⟩ = some (.string xm) ∧ w'.cell? ⟨w5.heap.size, 2, none⟩ = some (.int .i64 xn) ∧ w'.cell? ⟨w5.heap.size, 3, none⟩ = some (.int .i64 xtk) ∧ w'.cell? ⟨w5.heap.size, 4, none⟩ = some (.slice xta xtn xtc) ∧ w'.cell? ⟨w5.heap.size, 5, none⟩ = some (.slice xsa xsn xsc) ∧ w'.cell? ⟨w5.heap.size, 6, none⟩ = some (.slice xpa xpn xpc) ∧ w'.cell? ⟨w7.heap.size, 0, none⟩ = some (.int .i64 gk) ∧ w'.cell? ⟨w7.heap.size, 1, none⟩ = some (.string gm) ∧ w'.cell? ⟨w7.heap.size, 2, none⟩ = some (.int .i64 gn) ∧ w'.cell? ⟨w7.heap.size, 3, none⟩ = some (.int .i64 gtk) ∧ w'.cell? ⟨w7.heap.size, 4, none⟩ = some (.slice gta gtn gtc) ∧ w'.cell? ⟨w7.heap.size, 5, none⟩ = some (.slice gsa gsn gsc) ∧ w'.cell? ⟨w7.heap.size, 6, none⟩ = some (.slice gpa gpn gpc)) (exact ⟨XA1.out.2 0, XA1.out.2 1, XA1.out.2 2, XA1.out.2 3, XA1.out.2 4, XA1.out.2 5, XA1.out.2 6, Xu.out.2 0, Xu.out.2 1, Xu.out.2 2, Xu.out.2 3, Xu.out.2 4, Xu.out.2 5, Xu.out.2 6, Xx.out.2 0, Xx.out.2 1, Xx.out.2 2, Xx.out.2 3, Xx.out.2 4, Xx.out.2 5, Xx.out.2 6, Xg.out.2 0, Xg.out.2 1, Xg.out.2 2, Xg.out.2 3, Xg.out.2 4, Xg.out.2 5, Xg.out.2 6⟩)
    (first
     | (go_at_call_of 9 (Value.agg #[Value.int IntKind.i64 ak, Value.string am, Value.int IntKind.i64 an, Value.int IntKind.i64 atk, Value.slice ata atn atc, Value.slice asa asn asc, Value.slice apa apn apc])
        refine (toEditIn d _ t1 _ hn1 HA1.out).mono ?_
        rintro e w9 ⟨y, rfl, ht, hb⟩
        have hz9 := hb.size
        try simp only [World.size_drew] at hz9
        replace B := Lib.hid (below_thru B.out (Nat.le_refl _) hb)
        replace HA1 := Lib.hid (HA1.out.below hb)
        replace HTAB := Lib.hid (HTAB.out.below hb)
        replace XA1 := Lib.hid (XA1.out.below hb)
        replace S4 := Lib.hid (S4.out.below hb)
        replace Hu := Lib.hid (Hu.out.below hb)
        replace Xu := Lib.hid (Xu.out.below hb)
        replace Hx := Lib.hid (Hx.out.below hb)
        replace Xx := Lib.hid (Xx.out.below hb)
        replace Hg := Lib.hid (Hg.out.below hb)
        replace Xg := Lib.hid (Xg.out.below hb)
        clear hb
        have Hy := Lib.hid ht.at_
        clear ht)
     | (go_at_call 11
        refine (eqEdit d _ y t1 _ Hx.out.at_ Hy.out).mono ?_
        rintro e w10 ⟨rfl, hb⟩
        have hz10 := hb.size
        try simp only [World.size_drew] at hz10
        replace B := Lib.hid (below_thru B.out (Nat.le_refl _) hb)
        replace HA1 := Lib.hid (HA1.out.below hb)
        replace HTAB := Lib.hid (HTAB.out.below hb)
        replace XA1 := Lib.hid (XA1.out.below hb)
        replace S4 := Lib.hid (S4.out.below hb)
        replace Hu := Lib.hid (Hu.out.below hb)
        replace Xu := Lib.hid (Xu.out.below hb)
        replace Hx := Lib.hid (Hx.out.below hb)
        replace Xx := Lib.hid (Xx.out.below hb)
        replace Hg := Lib.hid (Hg.out.below hb)
        replace Xg := Lib.hid (Xg.out.below hb)
        clear hb
        clear Hy))
  have cXA1_0 := XA1.out.2 0
  have cXA1_1 := XA1.out.2 1
  have cXA1_2 := XA1.out.2 2
  have cXA1_3 := XA1.out.2 3
  have cXA1_4 := XA1.out.2 4
  have cXA1_5 := XA1.out.2 5
  have cXA1_6 := XA1.out.2 6
  have cXu_0 := Xu.out.2 0
  have cXu_1 := Xu.out.2 1
  have cXu_2 := Xu.out.2 2
  have cXu_3 := Xu.out.2 3
  have cXu_4 := Xu.out.2 4
  have cXu_5 := Xu.out.2 5
  have cXu_6 := Xu.out.2 6
  have cXx_0 := Xx.out.2 0
  have cXx_1 := Xx.out.2 1
  have cXx_2 := Xx.out.2 2
  have cXx_3 := Xx.out.2 3
  have cXx_4 := Xx.out.2 4
  have cXx_5 := Xx.out.2 5
  have cXx_6 := Xx.out.2 6
  have cXg_0 := Xg.out.2 0
  have cXg_1 := Xg.out.2 1
  have cXg_2 := Xg.out.2 2
  have cXg_3 := Xg.out.2 3
  have cXg_4 := Xg.out.2 4
  have cXg_5 := Xg.out.2 5
  have cXg_6 := Xg.out.2 6
  go_wp2_with fail
  clear cXA1_0 cXA1_1 cXA1_2 cXA1_3 cXA1_4 cXA1_5 cXA1_6 cXu_0 cXu_1 cXu_2 cXu_3 cXu_4 cXu_5 cXu_6 cXx_0 cXx_1 cXx_2 cXx_3 cXx_4 cXx_5 cXx_6 cXg_0 cXg_1 cXg_2 cXg_3 cXg_4 cXg_5 cXg_6
  refine (markEditIn w4.heap.size d _ t1 _ _ 1 _ (by omega) S4.out.b.size (by omega) (by omega) hn1 Hx.out).mono ?_
  rintro e w13 ⟨rfl, hm, hb0, hk⟩
  replace B := Lib.hid (B.out.trans (hb0.mono (by omega)))
  replace HA1 := Lib.hid (HA10.out.below B.out)
  replace HTAB := Lib.hid (HTAB0.out.below B.out)
  replace XA1 := Lib.hid (XA1.out.beside hk (by omega))
  replace S4 := Lib.hid (S4.out.trans hb0)
  replace Hu := Lib.hid (Hu0.out.below S4.out.b)
  replace Xu := Lib.hid (Xu.out.beside hk (by omega))
  replace Xx := Lib.hid (Xx.out.beside hk (by omega))
  replace Hg := Lib.hid (Hg.out.beside hk (by omega))
  replace Xg := Lib.hid (Xg.out.beside hk (by omega))
  replace Hx := Lib.hid hm
  have hz13 := hk.1
  clear hb0 hk hm
  clear Hx
  obtain ⟨ma, hma⟩ : ∃ ma : Int, ma = 1 + (t1.wt : Int) := ⟨_, rfl⟩
  rw [← hma]
  have Nma := Lib.hid hma
  have ma0 : 0 ≤ ma := by omega
  have ma1 : ma ≤ 6291457 := by omega
  clear hma
  have cXA1_0 := XA1.out.2 0
  have cXA1_1 := XA1.out.2 1
  have cXA1_2 := XA1.out.2 2
  have cXA1_3 := XA1.out.2 3
  have cXA1_4 := XA1.out.2 4
  have cXA1_5 := XA1.out.2 5
  have cXA1_6 := XA1.out.2 6
  have cXu_0 := Xu.out.2 0
  have cXu_1 := Xu.out.2 1
  have cXu_2 := Xu.out.2 2
  have cXu_3 := Xu.out.2 3
  have cXu_4 := Xu.out.2 4
  have cXu_5 := Xu.out.2 5
  have cXu_6 := Xu.out.2 6
  have cXx_0 := Xx.out.2 0
  have cXx_1 := Xx.out.2 1
  have cXx_2 := Xx.out.2 2
  have cXx_3 := Xx.out.2 3
  have cXx_4 := Xx.out.2 4
  have cXx_5 := Xx.out.2 5
  have cXx_6 := Xx.out.2 6
  have cXg_0 := Xg.out.2 0
  have cXg_1 := Xg.out.2 1
  have cXg_2 := Xg.out.2 2
  have cXg_3 := Xg.out.2 3
  have cXg_4 := Xg.out.2 4
  have cXg_5 := Xg.out.2 5
  have cXg_6 := Xg.out.2 6
  go_wp2_with fail
  clear cXA1_0 cXA1_1 cXA1_2 cXA1_3 cXA1_4 cXA1_5 cXA1_6 cXu_0 cXu_1 cXu_2 cXu_3 cXu_4 cXu_5 cXu_6 cXx_0 cXx_1 cXx_2 cXx_3 cXx_4 cXx_5 cXx_6 cXg_0 cXg_1 cXg_2 cXg_3 cXg_4 cXg_5 cXg_6
  refine (eqEdit d _ _ R _ Hg.out.at_ Hu.out).mono ?_
  rintro e w15 ⟨rfl, hb⟩
  have hz15 := hb.size
  try simp only [World.size_alloc] at hz15
  try simp only [World.size_drew] at hz15
  replace B := Lib.hid (below_thru B.out (Nat.le_refl _) hb)
  replace HA1 := Lib.hid (HA1.out.below hb)
  replace HTAB := Lib.hid (HTAB.out.below hb)
  replace XA1 := Lib.hid (XA1.out.below hb)
  replace S4 := Lib.hid (S4.out.below hb)
  replace Hu := Lib.hid (Hu.out.below hb)
  replace Xu := Lib.hid (Xu.out.below hb)
  replace Xx := Lib.hid (Xx.out.below hb)
  replace Hg := Lib.hid (Hg.out.below hb)
  replace Xg := Lib.hid (Xg.out.below hb)
  clear hb
  have cXA1_0 := XA1.out.2 0
  have cXA1_1 := XA1.out.2 1
  have cXA1_2 := XA1.out.2 2
  have cXA1_3 := XA1.out.2 3
  have cXA1_4 := XA1.out.2 4
  have cXA1_5 := XA1.out.2 5
  have cXA1_6 := XA1.out.2 6
  have cXu_0 := Xu.out.2 0
  have cXu_1 := Xu.out.2 1
  have cXu_2 := Xu.out.2 2
  have cXu_3 := Xu.out.2 3
  have cXu_4 := Xu.out.2 4
  have cXu_5 := Xu.out.2 5
  have cXu_6 := Xu.out.2 6
  have cXx_0 := Xx.out.2 0
  have cXx_1 := Xx.out.2 1
  have cXx_2 := Xx.out.2 2
  have cXx_3 := Xx.out.2 3
  have cXx_4 := Xx.out.2 4
  have cXx_5 := Xx.out.2 5
  have cXx_6 := Xx.out.2 6
  have cXg_0 := Xg.out.2 0
  have cXg_1 := Xg.out.2 1
  have cXg_2 := Xg.out.2 2
  have cXg_3 := Xg.out.2 3
  have cXg_4 := Xg.out.2 4
  have cXg_5 := Xg.out.2 5
  have cXg_6 := Xg.out.2 6
  go_wp2_with fail
  clear cXA1_0 cXA1_1 cXA1_2 cXA1_3 cXA1_4 cXA1_5 cXA1_6 cXu_0 cXu_1 cXu_2 cXu_3 cXu_4 cXu_5 cXu_6 cXx_0 cXx_1 cXx_2 cXx_3 cXx_4 cXx_5 cXx_6 cXg_0 cXg_1 cXg_2 cXg_3 cXg_4 cXg_5 cXg_6
  refine (markEditIn w4.heap.size _ _ R _ _ 1 _ (by omega) S4.out.b.size (by omega) (by omega) hrb1 Hg.out).mono ?_
  rintro e w16 ⟨rfl, hm, hb0, hk⟩
  replace B := Lib.hid (B.out.trans (hb0.mono (by omega)))
  replace HA1 := Lib.hid (HA10.out.below B.out)
  replace HTAB := Lib.hid (HTAB0.out.below B.out)
  replace XA1 := Lib.hid (XA1.out.beside hk (by omega))
  replace S4 := Lib.hid (S4.out.trans hb0)
  replace Hu := Lib.hid (Hu0.out.below S4.out.b)
  replace Xu := Lib.hid (Xu.out.beside hk (by omega))
  replace Xx := Lib.hid (Xx.out.beside hk (by omega))
  replace Xg := Lib.hid (Xg.out.beside hk (by omega))
  replace Hg := Lib.hid hm
  have hz16 := hk.1
  clear hb0 hk hm
  obtain ⟨mc, hmc⟩ : ∃ mc : Int, mc = 1 + (R.wt : Int) := ⟨_, rfl⟩
  rw [← hmc]
  have Nmc := Lib.hid hmc
  have mc0 : 0 ≤ mc := by omega
  have mc1 : mc ≤ 6291457 := by omega
  clear hmc
  have cXA1_0 := XA1.out.2 0
  have cXA1_1 := XA1.out.2 1
  have cXA1_2 := XA1.out.2 2
  have cXA1_3 := XA1.out.2 3
  have cXA1_4 := XA1.out.2 4
  have cXA1_5 := XA1.out.2 5
  have cXA1_6 := XA1.out.2 6
  have cXu_0 := Xu.out.2 0
  have cXu_1 := Xu.out.2 1
  have cXu_2 := Xu.out.2 2
  have cXu_3 := Xu.out.2 3
  have cXu_4 := Xu.out.2 4
  have cXu_5 := Xu.out.2 5
  have cXu_6 := Xu.out.2 6
  have cXx_0 := Xx.out.2 0
  have cXx_1 := Xx.out.2 1
  have cXx_2 := Xx.out.2 2
  have cXx_3 := Xx.out.2 3
  have cXx_4 := Xx.out.2 4
  have cXx_5 := Xx.out.2 5
  have cXx_6 := Xx.out.2 6
  have cXg_0 := Xg.out.2 0
  have cXg_1 := Xg.out.2 1
  have cXg_2 := Xg.out.2 2
  have cXg_3 := Xg.out.2 3
  have cXg_4 := Xg.out.2 4
  have cXg_5 := Xg.out.2 5
  have cXg_6 := Xg.out.2 6
  go_wp2_with fail
  clear cXA1_0 cXA1_1 cXA1_2 cXA1_3 cXA1_4 cXA1_5 cXA1_6 cXu_0 cXu_1 cXu_2 cXu_3 cXu_4 cXu_5 cXu_6 cXx_0 cXx_1 cXx_2 cXx_3 cXx_4 cXx_5 cXx_6 cXg_0 cXg_1 cXg_2 cXg_3 cXg_4 cXg_5 cXg_6
  refine (heldEdit d _ R 1 _ (by omega) (by omega) hrb1 Hg.out.at_).mono ?_
  rintro e w17 ⟨rfl, hb⟩
  have hz17 := hb.size
  try simp only [World.size_alloc] at hz17
  try simp only [World.size_drew] at hz17
  replace B := Lib.hid (below_thru B.out (Nat.le_refl _) hb)
  replace HA1 := Lib.hid (HA1.out.below hb)
  replace HTAB := Lib.hid (HTAB.out.below hb)
  replace XA1 := Lib.hid (XA1.out.below hb)
  replace S4 := Lib.hid (S4.out.below hb)
  replace Hu := Lib.hid (Hu.out.below hb)
  replace Xu := Lib.hid (Xu.out.below hb)
  replace Xx := Lib.hid (Xx.out.below hb)
  replace Hg := Lib.hid (Hg.out.below hb)
  replace Xg := Lib.hid (Xg.out.below hb)
  clear hb
  rw [← Nmc.out]
  have cXA1_0 := XA1.out.2 0
  have cXA1_1 := XA1.out.2 1
  have cXA1_2 := XA1.out.2 2
  have cXA1_3 := XA1.out.2 3
  have cXA1_4 := XA1.out.2 4
  have cXA1_5 := XA1.out.2 5
  have cXA1_6 := XA1.out.2 6
  have cXu_0 := Xu.out.2 0
  have cXu_1 := Xu.out.2 1
  have cXu_2 := Xu.out.2 2
  have cXu_3 := Xu.out.2 3
  have cXu_4 := Xu.out.2 4
  have cXu_5 := Xu.out.2 5
  have cXu_6 := Xu.out.2 6
  have cXx_0 := Xx.out.2 0
  have cXx_1 := Xx.out.2 1
  have cXx_2 := Xx.out.2 2
  have cXx_3 := Xx.out.2 3
  have cXx_4 := Xx.out.2 4
  have cXx_5 := Xx.out.2 5
  have cXx_6 := Xx.out.2 6
  have cXg_0 := Xg.out.2 0
  have cXg_1 := Xg.out.2 1
  have cXg_2 := Xg.out.2 2
  have cXg_3 := Xg.out.2 3
  have cXg_4 := Xg.out.2 4
  have cXg_5 := Xg.out.2 5
  have cXg_6 := Xg.out.2 6
  go_wp2_with fail
  clear cXA1_0 cXA1_1 cXA1_2 cXA1_3 cXA1_4 cXA1_5 cXA1_6 cXu_0 cXu_1 cXu_2 cXu_3 cXu_4 cXu_5 cXu_6 cXx_0 cXx_1 cXx_2 cXx_3 cXx_4 cXx_5 cXx_6 cXg_0 cXg_1 cXg_2 cXg_3 cXg_4 cXg_5 cXg_6
  refine (toEditIn d _ t1 _ hn1 HA1.out).mono ?_
  rintro e w18 ⟨h, rfl, ht, hb⟩
  have hz18 := hb.size
  try simp only [World.size_alloc] at hz18
  try simp only [World.size_drew] at hz18
  replace B := Lib.hid (below_thru B.out (Nat.le_refl _) hb)
  replace HA1 := Lib.hid (HA1.out.below hb)
  replace HTAB := Lib.hid (HTAB.out.below hb)
  replace XA1 := Lib.hid (XA1.out.below hb)
  replace S4 := Lib.hid (S4.out.below hb)
  replace Hu := Lib.hid (Hu.out.below hb)
  replace Xu := Lib.hid (Xu.out.below hb)
  replace Xx := Lib.hid (Xx.out.below hb)
  replace Hg := Lib.hid (Hg.out.below hb)
  replace Xg := Lib.hid (Xg.out.below hb)
  clear hb
  have Hh := Lib.hid ht.at_
  clear ht
  have cXA1_0 := XA1.out.2 0
  have cXA1_1 := XA1.out.2 1
  have cXA1_2 := XA1.out.2 2
  have cXA1_3 := XA1.out.2 3
  have cXA1_4 := XA1.out.2 4
  have cXA1_5 := XA1.out.2 5
  have cXA1_6 := XA1.out.2 6
  have cXu_0 := Xu.out.2 0
  have cXu_1 := Xu.out.2 1
  have cXu_2 := Xu.out.2 2
  have cXu_3 := Xu.out.2 3
  have cXu_4 := Xu.out.2 4
  have cXu_5 := Xu.out.2 5
  have cXu_6 := Xu.out.2 6
  have cXx_0 := Xx.out.2 0
  have cXx_1 := Xx.out.2 1
  have cXx_2 := Xx.out.2 2
  have cXx_3 := Xx.out.2 3
  have cXx_4 := Xx.out.2 4
  have cXx_5 := Xx.out.2 5
  have cXx_6 := Xx.out.2 6
  have cXg_0 := Xg.out.2 0
  have cXg_1 := Xg.out.2 1
  have cXg_2 := Xg.out.2 2
  have cXg_3 := Xg.out.2 3
  have cXg_4 := Xg.out.2 4
  have cXg_5 := Xg.out.2 5
  have cXg_6 := Xg.out.2 6
  go_wp2_with fail
  clear cXA1_0 cXA1_1 cXA1_2 cXA1_3 cXA1_4 cXA1_5 cXA1_6 cXu_0 cXu_1 cXu_2 cXu_3 cXu_4 cXu_5 cXu_6 cXx_0 cXx_1 cXx_2 cXx_3 cXx_4 cXx_5 cXx_6 cXg_0 cXg_1 cXg_2 cXg_3 cXg_4 cXg_5 cXg_6
  refine (implMoveUp d _ t1 _ Hh.out hn1 HTAB.out).mono ?_
  rintro e w20 ⟨j, rfl, hi, hb⟩
  rw [← HR.out] at hi
  have hz20 := hb.size
  try simp only [World.size_alloc] at hz20
  try simp only [World.size_drew] at hz20
  replace B := Lib.hid (below_thru B.out (Nat.le_refl _) hb)
  replace HA1 := Lib.hid (HA1.out.below hb)
  replace HTAB := Lib.hid (HTAB.out.below hb)
  replace XA1 := Lib.hid (XA1.out.below hb)
  replace S4 := Lib.hid (S4.out.below hb)
  replace Hu := Lib.hid (Hu.out.below hb)
  replace Xu := Lib.hid (Xu.out.below hb)
  replace Xx := Lib.hid (Xx.out.below hb)
  replace Hg := Lib.hid (Hg.out.below hb)
  replace Xg := Lib.hid (Xg.out.below hb)
  replace Hh := Lib.hid (Hh.out.below hb)
  clear hb
  try simp only [World.size_alloc] at hi
  try simp only [World.size_drew] at hi
  obtain ⟨jk, jm, jn, jtk, jta, jtn, jtc, jsa, jsn, jsc, jpa, jpn, jpc, rfl⟩ := edit_parts hi.at_
  have Hj := Lib.hid hi
  clear hi
  have Xj : Hid (BoxAt (w20.alloc (.cells #[.int .i64 jk, .string jm, .int .i64 jn, .int .i64 jtk, .slice jta jtn jtc, .slice jsa jsn jsc, .slice jpa jpn jpc] 39)) w20.heap.size #[.int .i64 jk, .string jm, .int .i64 jn, .int .i64 jtk, .slice jta jtn jtc, .slice jsa jsn jsc, .slice jpa jpn jpc]) := BoxAt.new _ _ _
  have hb := below_alloc w20 (.cells #[.int .i64 jk, .string jm, .int .i64 jn, .int .i64 jtk, .slice jta jtn jtc, .slice jsa jsn jsc, .slice jpa jpn jpc] 39)
  replace B := Lib.hid (below_thru B.out (Nat.le_refl _) hb)
  replace HA1 := Lib.hid (HA1.out.below hb)
  replace HTAB := Lib.hid (HTAB.out.below hb)
  replace XA1 := Lib.hid (XA1.out.below hb)
  replace S4 := Lib.hid (S4.out.below hb)
  replace Hu := Lib.hid (Hu.out.below hb)
  replace Xu := Lib.hid (Xu.out.below hb)
  replace Xx := Lib.hid (Xx.out.below hb)
  replace Hg := Lib.hid (Hg.out.below hb)
  replace Xg := Lib.hid (Xg.out.below hb)
  replace Hh := Lib.hid (Hh.out.below hb)
  replace Hj := Lib.hid (Hj.out.below hb)
  clear hb
  clear Hh
  have cXA1_0 := XA1.out.2 0
  have cXA1_1 := XA1.out.2 1
  have cXA1_2 := XA1.out.2 2
  have cXA1_3 := XA1.out.2 3
  have cXA1_4 := XA1.out.2 4
  have cXA1_5 := XA1.out.2 5
  have cXA1_6 := XA1.out.2 6
  have cXu_0 := Xu.out.2 0
  have cXu_1 := Xu.out.2 1
  have cXu_2 := Xu.out.2 2
  have cXu_3 := Xu.out.2 3
  have cXu_4 := Xu.out.2 4
  have cXu_5 := Xu.out.2 5
  have cXu_6 := Xu.out.2 6
  have cXx_0 := Xx.out.2 0
  have cXx_1 := Xx.out.2 1
  have cXx_2 := Xx.out.2 2
  have cXx_3 := Xx.out.2 3
  have cXx_4 := Xx.out.2 4
  have cXx_5 := Xx.out.2 5
  have cXx_6 := Xx.out.2 6
  have cXg_0 := Xg.out.2 0
  have cXg_1 := Xg.out.2 1
  have cXg_2 := Xg.out.2 2
  have cXg_3 := Xg.out.2 3
  have cXg_4 := Xg.out.2 4
  have cXg_5 := Xg.out.2 5
  have cXg_6 := Xg.out.2 6
  have cXj_0 := Xj.out.2 0
  have cXj_1 := Xj.out.2 1
  have cXj_2 := Xj.out.2 2
  have cXj_3 := Xj.out.2 3
  have cXj_4 := Xj.out.2 4
  have cXj_5 := Xj.out.2 5
  have cXj_6 := Xj.out.2 6
  go_wp2_with fail
  clear cXA1_0 cXA1_1 cXA1_2 cXA1_3 cXA1_4 cXA1_5 cXA1_6 cXu_0 cXu_1 cXu_2 cXu_3 cXu_4 cXu_5 cXu_6 cXx_0 cXx_1 cXx_2 cXx_3 cXx_4 cXx_5 cXx_6 cXg_0 cXg_1 cXg_2 cXg_3 cXg_4 cXg_5 cXg_6 cXj_0 cXj_1 cXj_2 cXj_3 cXj_4 cXj_5 cXj_6
  refine (eqEdit d _ _ R _ Hj.out.at_ Hu.out).mono ?_
  rintro e w21 ⟨rfl, hb⟩
  have hz21 := hb.size
  try simp only [World.size_alloc] at hz21
  try simp only [World.size_drew] at hz21
  replace B := Lib.hid (below_thru B.out (Nat.le_refl _) hb)
  replace HA1 := Lib.hid (HA1.out.below hb)
  replace HTAB := Lib.hid (HTAB.out.below hb)
  replace XA1 := Lib.hid (XA1.out.below hb)
  replace S4 := Lib.hid (S4.out.below hb)
  replace Hu := Lib.hid (Hu.out.below hb)
  replace Xu := Lib.hid (Xu.out.below hb)
  replace Xx := Lib.hid (Xx.out.below hb)
  replace Hg := Lib.hid (Hg.out.below hb)
  replace Xg := Lib.hid (Xg.out.below hb)
  replace Hj := Lib.hid (Hj.out.below hb)
  replace Xj := Lib.hid (Xj.out.below hb)
  clear hb
  have cXA1_0 := XA1.out.2 0
  have cXA1_1 := XA1.out.2 1
  have cXA1_2 := XA1.out.2 2
  have cXA1_3 := XA1.out.2 3
  have cXA1_4 := XA1.out.2 4
  have cXA1_5 := XA1.out.2 5
  have cXA1_6 := XA1.out.2 6
  have cXu_0 := Xu.out.2 0
  have cXu_1 := Xu.out.2 1
  have cXu_2 := Xu.out.2 2
  have cXu_3 := Xu.out.2 3
  have cXu_4 := Xu.out.2 4
  have cXu_5 := Xu.out.2 5
  have cXu_6 := Xu.out.2 6
  have cXx_0 := Xx.out.2 0
  have cXx_1 := Xx.out.2 1
  have cXx_2 := Xx.out.2 2
  have cXx_3 := Xx.out.2 3
  have cXx_4 := Xx.out.2 4
  have cXx_5 := Xx.out.2 5
  have cXx_6 := Xx.out.2 6
  have cXg_0 := Xg.out.2 0
  have cXg_1 := Xg.out.2 1
  have cXg_2 := Xg.out.2 2
  have cXg_3 := Xg.out.2 3
  have cXg_4 := Xg.out.2 4
  have cXg_5 := Xg.out.2 5
  have cXg_6 := Xg.out.2 6
  have cXj_0 := Xj.out.2 0
  have cXj_1 := Xj.out.2 1
  have cXj_2 := Xj.out.2 2
  have cXj_3 := Xj.out.2 3
  have cXj_4 := Xj.out.2 4
  have cXj_5 := Xj.out.2 5
  have cXj_6 := Xj.out.2 6
  go_wp2_with fail
  clear cXA1_0 cXA1_1 cXA1_2 cXA1_3 cXA1_4 cXA1_5 cXA1_6 cXu_0 cXu_1 cXu_2 cXu_3 cXu_4 cXu_5 cXu_6 cXx_0 cXx_1 cXx_2 cXx_3 cXx_4 cXx_5 cXx_6 cXg_0 cXg_1 cXg_2 cXg_3 cXg_4 cXg_5 cXg_6 cXj_0 cXj_1 cXj_2 cXj_3 cXj_4 cXj_5 cXj_6
  refine (heldEdit d _ R 1 _ (by omega) (by omega) hrb1 Hg.out.at_).mono ?_
  rintro e w22 ⟨rfl, hb⟩
  have hz22 := hb.size
  try simp only [World.size_alloc] at hz22
  try simp only [World.size_drew] at hz22
  replace B := Lib.hid (below_thru B.out (Nat.le_refl _) hb)
  replace HA1 := Lib.hid (HA1.out.below hb)
  replace HTAB := Lib.hid (HTAB.out.below hb)
  replace XA1 := Lib.hid (XA1.out.below hb)
  replace S4 := Lib.hid (S4.out.below hb)
  replace Hu := Lib.hid (Hu.out.below hb)
  replace Xu := Lib.hid (Xu.out.below hb)
  replace Xx := Lib.hid (Xx.out.below hb)
  replace Hg := Lib.hid (Hg.out.below hb)
  replace Xg := Lib.hid (Xg.out.below hb)
  replace Hj := Lib.hid (Hj.out.below hb)
  replace Xj := Lib.hid (Xj.out.below hb)
  clear hb
  rw [← Nmc.out]
  have cXA1_0 := XA1.out.2 0
  have cXA1_1 := XA1.out.2 1
  have cXA1_2 := XA1.out.2 2
  have cXA1_3 := XA1.out.2 3
  have cXA1_4 := XA1.out.2 4
  have cXA1_5 := XA1.out.2 5
  have cXA1_6 := XA1.out.2 6
  have cXu_0 := Xu.out.2 0
  have cXu_1 := Xu.out.2 1
  have cXu_2 := Xu.out.2 2
  have cXu_3 := Xu.out.2 3
  have cXu_4 := Xu.out.2 4
  have cXu_5 := Xu.out.2 5
  have cXu_6 := Xu.out.2 6
  have cXx_0 := Xx.out.2 0
  have cXx_1 := Xx.out.2 1
  have cXx_2 := Xx.out.2 2
  have cXx_3 := Xx.out.2 3
  have cXx_4 := Xx.out.2 4
  have cXx_5 := Xx.out.2 5
  have cXx_6 := Xx.out.2 6
  have cXg_0 := Xg.out.2 0
  have cXg_1 := Xg.out.2 1
  have cXg_2 := Xg.out.2 2
  have cXg_3 := Xg.out.2 3
  have cXg_4 := Xg.out.2 4
  have cXg_5 := Xg.out.2 5
  have cXg_6 := Xg.out.2 6
  have cXj_0 := Xj.out.2 0
  have cXj_1 := Xj.out.2 1
  have cXj_2 := Xj.out.2 2
  have cXj_3 := Xj.out.2 3
  have cXj_4 := Xj.out.2 4
  have cXj_5 := Xj.out.2 5
  have cXj_6 := Xj.out.2 6
  go_wp2_with fail
  go_ret
  exact ⟨rfl, B.out⟩
end Go.Proofs.YtmmnjdhmankieaaDoor
namespace Go.Proofs.YtmmnjdhmankieaaDoor.ExactMoveUp
open Go.ChangeShapes Go.WideShapes Go.ChangeAt Go.RowKit Go.WideMaps Go.WideElems
open Go.ChangeMaps (setBlock shut_map_nil open_string shut_string keptBut_setBlock frozen?_setBlock heap_setBlock_same)
set_option maxRecDepth 100000 in
theorem contract (H : Type) (enc : TypeId × Value → H) (W : World) (base : Nat) (args : Array Value) (ds gs : List (DataW H)) (before : List MemPlace)
    (hval : ∀ (j : Nat) t v, Tryd.f3.params[j]? = some t → args[j]? = some v → Value.okWide Tryd.prog W .any base t v)
    (hW : DataW.Whole enc Tryd.prog Tryd.f3.params.toList Rows.fnExactMoveUpSpec.vars false W args.toList ds gs before) (hL : laidMetH Tryd.prog Rows.fnExactMoveUpRow.laid W)
    (_hsz : (DataW.weightsEach Tryd.prog (Tryd.f3.params.toList ++ (OpenSpec.ofChange Rows.fnExactMoveUpSpec).bare.plain.varTypes Tryd.prog) (ds ++ gs)).all (· ≤ reachBytes) = true) (_hsh : W.ShapedOpen Tryd.prog) :
    Calls Tryd.prog 3 args W fun e W' => ∃ v, e = .returned v ∧ Rows.fnExactMoveUpSpec.post enc Tryd.prog Tryd.f3 false true false false W args v W' := by
  have hW' := hW
  obtain ⟨p, q, hA0, hV, rfl, hfz, hnd⟩ := hW
  have hA : DataW.TrodAll enc Tryd.prog W 0 (fun _ => true) true Tryd.f3.params.toList args.toList ds p := hA0
  rw [Tryd.params3] at hA hval
  obtain ⟨v0, vs0, d0, ds0, p0, q0, hargs, rfl, rfl, h0, r0⟩ := trodAll_cons hA
  obtain ⟨rfl, rfl, rfl⟩ := trodAll_nil r0
  obtain rfl : args = #[v0] := by cases args; simp_all
  obtain ⟨gg, gt, gcs, gfuel, gd, gp, rfl, _⟩ := trodVars_one hV
  obtain ⟨e0, t0, ht0⟩ := ed_of_arg (hval 0 30 v0 rfl rfl) h0
  rw [MakeChecks.laidMetH_plain _ _ _ (by kernel_rfl)] at hL
  have htab : Lib.TabIs Tryd.prog W "loop.example/g00585/impl.arities" .i64 arTab :=
    Lib.tabIs_of_head (rest := []) (g := 1) (t := 118) (e := 3) (n := 15) (by kernel_rfl) (by kernel_rfl) Tryd.underlying118 Tryd.underlying3 (by kernel_rfl) (by kernel_rfl) hL
  refine Calls.mono (moveUpWalk e0 v0 t0 W ht0 htab) fun e W' ⟨he, hg⟩ => ?_
  subst he
  exact ⟨_, rfl, Law.law_post_vars hW' (by kernel_rfl) (by kernel_rfl) Tryd.underlying4 (by kernel_rfl) (by kernel_rfl) rfl hg⟩
set_option maxRecDepth 100000 in
theorem laid_met (os : Os) : laidMet Tryd.prog Rows.fnExactMoveUpRow.laid (((World.doorLaid Tryd.prog 64 os)).forCall (fun _ _ => 0) ⟨#[], #[.agg #[.int .i64 0, .string ⟨#[]⟩, .int .i64 0, .int .i64 0, .slice none 0 0, .slice none 0 0, .slice none 0 0]], []⟩).memory :=
  laidMet_of_run' 8 (by kernel_rfl) (by kernel_rfl)
theorem reads (os : Os) {H : Type} (enc : TypeId × Value → H) : ∃ places, DataW.whole enc Tryd.prog (((World.doorLaid Tryd.prog 64 os)).forCall (fun _ _ => 0) ⟨#[], #[.agg #[.int .i64 0, .string ⟨#[]⟩, .int .i64 0, .int .i64 0, .slice none 0 0, .slice none 0 0, .slice none 0 0]], []⟩).memory Tryd.f3.params.toList Rows.fnExactMoveUpSpec.vars false (#[.agg #[.int .i64 0, .string ⟨#[]⟩, .int .i64 0, .int .i64 0, .slice none 0 0, .slice none 0 0, .slice none 0 0]] : Array Value).toList 8 = some ([.agg [.agg [.lit (.int .i64 0), .lit (.string []), .lit (.int .i64 0), .agg [.lit (.int .i64 0), .nil], .nil], .nil]], [Rows.laid_loop_example_g00585_impl_arities], places) :=
  ⟨MemPlace.row ⟨1, 0, none⟩ 15, by kernel_rfl⟩
set_option maxRecDepth 100000 in
theorem lifted (os : Os) (started : os.Started) (H : Type) (enc : TypeId × Value → H) (F : Stop.Interp) :
    ReturnsInHanded {} Tryd.checked os 3 .any ((OpenSpec.ofChange Rows.fnExactMoveUpSpec).preRow enc Tryd.prog Tryd.f3 Rows.fnExactMoveUpRow.domain false Rows.fnExactMoveUpRow.laid) (((OpenSpec.ofChange Rows.fnExactMoveUpSpec).at F).post enc Tryd.prog Tryd.f3 false true false false) := by
  obtain ⟨places, hx⟩ := reads os enc
  refine returnsInHanded_of_row (C := Tryd.checked) (s := OpenSpec.ofChange Rows.fnExactMoveUpSpec) (by kernel_rfl) started (by kernel_rfl) Tryd.func3
    (witness_row_atRef (enc := enc) (C := Tryd.checked) false (World.doorLaid Tryd.prog 64 os) #[.agg #[.int .i64 0, .string ⟨#[]⟩, .int .i64 0, .int .i64 0, .slice none 0 0, .slice none 0 0, .slice none 0 0]] rfl (by kernel_rfl) (by kernel_rfl) (by kernel_rfl)
      (OpenSpec.preRow_of_cond 8 hx (by kernel_rfl) (fun k hk => by cases hk) (by kernel_rfl) (laid_met os))) ?_
  intro W base args ds gs before hval hW _ _ hsz hL hsh _
  exact contract H enc W base args ds gs before hval hW hL hsz hsh
theorem said : Rows.FnExactMoveUpSaid :=
  OpenClaim.holds_of_cond 3 Tryd.f3 rfl rfl rfl rfl rfl rfl rfl ⟨rfl, rfl, rfl, rfl, rfl⟩ rfl rfl rfl rfl rfl (by kernel_rfl) Tryd.func3 (by kernel_rfl)
    (of_decide_eq_true (by kernel_rfl)) (by unfold Func.isWrapper; first | (rw [if_pos (by decide +kernel)]; kernel_rfl) | (rw [if_neg (by decide +kernel)]; exact ⟨rfl, rfl⟩))
    (fun os started H enc _ F => by rw [OpenClaim.pre_eq_preRow]; exact lifted os started H enc F)
theorem plain (f : FuncId) (fn : Func) (hf : Tryd.pinned.checked.prog.funcNamed "loop.example/g00585/laws.FnExactMoveUp" = some f) (hfn : Tryd.pinned.checked.prog.funcs[f]? = some fn) :
    false = Tryd.pinned.checked.prog.looks [] ∧ ∀ (j : Nat) t, fn.params[j]? = some t → Tryd.pinned.checked.prog.wantsStandIn t = false := by
  obtain rfl : f = 3 := Option.some.inj ((show Tryd.prog.funcNamed "loop.example/g00585/laws.FnExactMoveUp" = some 3 by kernel_rfl).symm.trans hf) |>.symm
  obtain rfl : fn = Tryd.f3 := (Option.some.inj (Tryd.func3.symm.trans hfn)).symm
  refine ⟨by kernel_rfl, fun j t ht => ?_⟩
  rw [Tryd.params3] at ht
  have hm : t ∈ [30] := by simpa using Array.mem_of_getElem? ht
  have hall : ([30].all fun u => !Tryd.prog.wantsStandIn u) = true := by kernel_rfl
  exact (show Tryd.prog.wantsStandIn t = false by simpa using List.all_eq_true.1 hall t hm)
theorem card : Rows.FnExactMoveUpCardSaid :=
  Claim7.holds_tied_plain_at .later [] _ _ _ _ said (fun _ h => by cases h) (by kernel_rfl) (fun _ h => by cases h) fnExactMoveUp_row_tie rfl ⟨rfl, rfl⟩ (by kernel_rfl) rfl plain (by kernel_rfl)
end Go.Proofs.YtmmnjdhmankieaaDoor.ExactMoveUp
