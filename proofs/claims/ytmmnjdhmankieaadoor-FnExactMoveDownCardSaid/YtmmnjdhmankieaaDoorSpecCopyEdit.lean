/-
  Proved: spec.l14Copy copies an edit; the memory that was there stays as it was.
-/
import Derived.Test.YtmmnjdhmankieaaDoorEditUp
import Derived.Test.YtmmnjdhmankieaaDoorSpecExCopy
import Derived.Test.YtmmnjdhmankieaaDoorHold
import Derived.Test.YtmmnjdhmankieaaDoorTwo
import Derived.Test.YtmmnjdhmankieaaDoorPut
import Derived.Test.YtmmnjdhmankieaaDoorIntsRow
import Derived.Deep.AppendLies
import Derived.Deep.Upon
import Derived.ArgAppend
import Derived.Deep.RegionLaw
namespace Go.Proofs.YtmmnjdhmankieaaDoor
open Go.RowKit

/-- A path that is appended to an empty slice. -/
theorem path_append (ty : TypeId) (w : World) (b : Addr) (v : Value) (ps : List Int) (hv : Ints w v ps) (hn : ps.length ≤ 1048576) :
    ∃ v' w', (Builtin.append_ #[28, 28] ty #[.slice (some b) 0 0, v]).run Tryd.prog w = .ok v' w' ∧ (∃ a cap, v' = .slice a ps.length cap) ∧ (∀ W', (∀ b, w.heap.size ≤ b → b < w'.heap.size → W'.heap[b]? = w'.heap[b]?) → Ints W' v' ps) ∧ Below w.heap.size w w' := by
  obtain ⟨i0, hi, hz0, hz1, hz2⟩ := info_parts info_i
  obtain ⟨a, cap, rfl, hcap, hat⟩ := hv
  by_cases h0 : 0 < ps.length
  · obtain ⟨g, off, rfl, hg, _⟩ := hat 0 h0
    obtain ⟨v', w', hr, ho, hgr⟩ := run_append_arg_grows (P := Tryd.prog) (w := w) 28 ty 3 i0 (.int .i64 0) 1 8 Tryd.underlying28 hi hz0 hz1 hz2 rfl (by omega) b 0 0 [] rfl (fun j u h => by simp at h)
      ⟨g, off, none⟩ ps.length cap (ps.map (Value.int IntKind.i64)) (by simp) (fun j u h => by
        simp at h
        obtain ⟨x, hx, rfl⟩ := h
        obtain ⟨hj, rfl⟩ := List.getElem?_eq_some_iff.1 hx
        obtain ⟨g', off', e, _, hc⟩ := hat j hj
        cases e
        rw [addr_add]; exact hc) (by omega) (by unfold maxLen; omega) (by omega)
    rw [Nat.zero_add, List.nil_append] at ho
    have hi2 := Ints.of_own ho
    refine ⟨v', w', hr, ?_, fun W' hk => Ints.of_own (own_keeps ho fun k e => hk k (ho.lt k e).1 (ho.lt k e).2), (Below.refl _ w).grown hgr (Nat.le_refl _) (fun k e => by cases e)⟩
    obtain ⟨a', cap', hv', _⟩ := hi2
    exact ⟨a', cap', hv'⟩
  · have hp : ps = [] := List.length_eq_zero_iff.1 (by omega)
    subst hp
    refine ⟨_, w, run_append_nothing w 28 28 ty 3 i0 Tryd.underlying28 hi (some b) 0 0 (Nat.le_refl _) (.slice a 0 cap) ?_, ⟨some b, 0, rfl⟩, fun _ _ => Ints.nil _ _, Below.refl _ _⟩
    cases a with
    | none => exact Src.ofNil w Tryd.underlying28 cap
    | some a => exact Src.ofSlice w Tryd.underlying28 a 0 cap [] (by simp) (fun j u h => by simp at h) (by simp)
theorem below_low {B : Nat} {W cur w' : World} (h : Below B W cur) (_ : Below cur.heap.size cur w') : W.heap.size ≤ cur.heap.size := h.size
/-- An append at a step of a region that draws its order. -/
theorem step_append_any {P : Program} {w : World} {ops : Array Oper} {o : Oper} {a : Act} {K : Act → World → Prop} {Q : Exit → Act → World → Prop} {E : Prop} (hgd : o.guard = none) (s x : Operand) (t : TypeId)
    (ho : o.op = .call { callee := .builtin .append, args := #[s, x], argTypes := #[t, t] }) (v xv : Value) (hs : a.eval s = v) (hx : a.eval x = xv) {R : Value → World → Prop}
    (hr : ∃ v' w', (Builtin.append_ #[t, t] o.type #[v, xv]).run P w = .ok v' w' ∧ R v' w') (h : ∀ v' w', R v' w' → K (a.put o.dst v') w') :
    if Region.wanted o (yielded ops a.tmps) = true then Oper.wp P o a w K Q else E := by
  have hw : Region.wanted o (yielded ops a.tmps) = true := by simp [Region.wanted, hgd]
  rw [if_pos hw]
  obtain ⟨v', w', hr, hR⟩ := hr
  unfold Oper.wp execOp
  simp only [ho, resolve, invoke, builtin, Sem.run_bind, Sem.run_pure, Result.andThen_ok, List.map_toArray, List.map_cons, List.map_nil, hs, hx, hr]
  exact h v' w' hR
set_option maxRecDepth 100000 in
set_option maxHeartbeats 4000000 in
theorem specCopyEdit (d : Nat) (v : Value) (t : Edi) (w : World) (h : EditAt w d v t) (hsz : t.bulk ≤ 1048576) :
    Calls Tryd.prog 27 #[v] w fun e w' => ∃ v', e = .returned v' ∧ EditUp w.heap.size w' d v' t ∧ Below w.heap.size w w' := by
  cases t with
  | mk ex ps =>
    obtain ⟨k, nm, n, tk, ta, tn, tc, sa, sn, sc, pa, pn, pc, rfl, he, hp, hl⟩ := h
    dsimp only at he hp hl ⊢
    have hbk : (Edi.mk ex ps).bulk = ex.bulk + ps.length := rfl
    have hn1 : ex.bulk ≤ 1048576 := by omega
    have hn2 : ps.length ≤ 1048576 := by omega
    clear hsz hbk
    have e2 : Below w.heap.size w ((w.alloc (.cells #[.int .i64 k, .string nm, .int .i64 n, .int .i64 tk, .slice ta tn tc, .slice sa sn sc, .slice pa pn pc] 39)).alloc (.cells #[.int .i64 0, .string ⟨#[]⟩, .int .i64 0, .int .i64 0, .slice none 0 0, .slice none 0 0, .slice none 0 0] 39)) := ((Below.refl _ _).alloc (Nat.le_refl _) _).alloc (by simp) _
    have HE := Lib.hid (he.below e2)
    have HP := Lib.hid (hp.below e2)
    have XA : Hid (BoxAt ((w.alloc (.cells #[.int .i64 k, .string nm, .int .i64 n, .int .i64 tk, .slice ta tn tc, .slice sa sn sc, .slice pa pn pc] 39)).alloc (.cells #[.int .i64 0, .string ⟨#[]⟩, .int .i64 0, .int .i64 0, .slice none 0 0, .slice none 0 0, .slice none 0 0] 39)) w.heap.size #[.int .i64 k, .string nm, .int .i64 n, .int .i64 tk, .slice ta tn tc, .slice sa sn sc, .slice pa pn pc]) := (BoxAt.new _ _ _).below (below_alloc _ _)
    have XR : Hid (BoxAt ((w.alloc (.cells #[.int .i64 k, .string nm, .int .i64 n, .int .i64 tk, .slice ta tn tc, .slice sa sn sc, .slice pa pn pc] 39)).alloc (.cells #[.int .i64 0, .string ⟨#[]⟩, .int .i64 0, .int .i64 0, .slice none 0 0, .slice none 0 0, .slice none 0 0] 39)) (w.heap.size + 1) #[.int .i64 0, .string ⟨#[]⟩, .int .i64 0, .int .i64 0, .slice none 0 0, .slice none 0 0, .slice none 0 0]) := box_at (BoxAt.new _ _ _) (by simp)
    have FR : Hid (FreeAt ((w.alloc (.cells #[.int .i64 k, .string nm, .int .i64 n, .int .i64 tk, .slice ta tn tc, .slice sa sn sc, .slice pa pn pc] 39)).alloc (.cells #[.int .i64 0, .string ⟨#[]⟩, .int .i64 0, .int .i64 0, .slice none 0 0, .slice none 0 0, .slice none 0 0] 39)) (w.heap.size + 1)) := free_at (FreeAt.new _ _ _) (by simp)
    have E2 := Lib.hid e2
    clear e2 he hp
    go_enter Tryd.func27, Tryd.ntmps27
    go_wp2_with fail
    have hzw : ((w.alloc (.cells #[.int .i64 k, .string nm, .int .i64 n, .int .i64 tk, .slice ta tn tc, .slice sa sn sc, .slice pa pn pc] 39)).alloc (.cells #[.int .i64 0, .string ⟨#[]⟩, .int .i64 0, .int .i64 0, .slice none 0 0, .slice none 0 0, .slice none 0 0] 39)).heap.size = w.heap.size + 2 := by simp
    generalize ((w.alloc (.cells #[.int .i64 k, .string nm, .int .i64 n, .int .i64 tk, .slice ta tn tc, .slice sa sn sc, .slice pa pn pc] 39)).alloc (.cells #[.int .i64 0, .string ⟨#[]⟩, .int .i64 0, .int .i64 0, .slice none 0 0, .slice none 0 0, .slice none 0 0] 39)) = W2 at HE HP XA XR FR E2 hzw ⊢
    have a0 := XA.out.2 0
    have a1 := XA.out.2 1
    have a2 := XA.out.2 2
    have a3 := XA.out.2 3
    have a4 := XA.out.2 4
    have a5 := XA.out.2 5
    have a6 := XA.out.2 6
    have BC := Lib.hid (below_drew W2)
    have d6 := (XA.out.below (below_alloc W2 (.cells #[] 3))).2 6
    have d0 := (XA.out.below (below_alloc W2 (.cells #[] 3))).2 0
    have d1 := (XA.out.below (below_alloc W2 (.cells #[] 3))).2 1
    have d2 := (XA.out.below (below_alloc W2 (.cells #[] 3))).2 2
    have d3 := (XA.out.below (below_alloc W2 (.cells #[] 3))).2 3
    have d4 := (XA.out.below (below_alloc W2 (.cells #[] 3))).2 4
    have d5 := (XA.out.below (below_alloc W2 (.cells #[] 3))).2 5
    go_region_law (first
      | (refine step_append_any rfl (.tmp 6) (.tmp 8) 28 rfl (.slice (some ⟨_, 0, none⟩) 0 0) (.slice pa pn pc) rfl rfl (path_append _ _ _ _ ps (HP.out.below (by first | exact BC.out | exact BC.out.alloc BC.out.size _)) hn2) ?_
         rintro v' w' ⟨⟨ga, gc, rfl⟩, hgi, hgb⟩
         have hlow := below_low (by first | exact BC.out | exact BC.out.alloc BC.out.size _) hgb
         replace BC := Lib.hid (below_thru (by first | exact BC.out | exact BC.out.alloc BC.out.size _) (Nat.le_refl _) hgb)
         have HG := Lib.hid hgi
         have LG := Lib.hid hlow
         have KG := Lib.hid (Below.refl w'.heap.size w')
         try replace KT := Lib.hid (below_thru (by first | exact KT.out | exact KT.out.alloc KT.out.size _) (Nat.le_refl _) hgb)
         have gr0 := (XR.out.below BC.out).2 0
         have gf0 := (FR.out.below BC.out).2 0
         have gr1 := (XR.out.below BC.out).2 1
         have gf1 := (FR.out.below BC.out).2 1
         have gr2 := (XR.out.below BC.out).2 2
         have gf2 := (FR.out.below BC.out).2 2
         have gr3 := (XR.out.below BC.out).2 3
         have gf3 := (FR.out.below BC.out).2 3
         have gr4 := (XR.out.below BC.out).2 4
         have gf4 := (FR.out.below BC.out).2 4
         have gr5 := (XR.out.below BC.out).2 5
         have gf5 := (FR.out.below BC.out).2 5
         have gr6 := (XR.out.below BC.out).2 6
         have gf6 := (FR.out.below BC.out).2 6
         have ga0 := (XA.out.below BC.out).2 0
         have ga1 := (XA.out.below BC.out).2 1
         have ga2 := (XA.out.below BC.out).2 2
         have ga3 := (XA.out.below BC.out).2 3
         have ga4 := (XA.out.below BC.out).2 4
         have ga5 := (XA.out.below BC.out).2 5
         clear hgi hgb hlow)
      | (go_simp
         go_at_call 52
         refine (specExCopy d _ ex _ hn1 (HE.out.below (by first | exact BC.out | exact BC.out.alloc BC.out.size _))).mono ?_
         rintro e w' ⟨v2, fp, rfl, ht, hfp, hb1⟩
         have hlow := below_low (by first | exact BC.out | exact BC.out.alloc BC.out.size _) hb1
         replace BC := Lib.hid (below_thru (by first | exact BC.out | exact BC.out.alloc BC.out.size _) (Nat.le_refl _) hb1)
         obtain ⟨yk, ynm, yn, ytk, yta, ytn, ytc, ya, ym, yc, rfl⟩ := ex_parts ht.at_
         have HT := Lib.hid ht
         have HF := Lib.hid hfp
         have LT := Lib.hid hlow
         have KT := Lib.hid (Below.refl w'.heap.size w')
         try replace KG := Lib.hid (below_thru KG.out (Nat.le_refl _) hb1)
         have cr0 := (XR.out.below BC.out).2 0
         have cf0 := (FR.out.below BC.out).2 0
         have cr1 := (XR.out.below BC.out).2 1
         have cf1 := (FR.out.below BC.out).2 1
         have cr2 := (XR.out.below BC.out).2 2
         have cf2 := (FR.out.below BC.out).2 2
         have cr3 := (XR.out.below BC.out).2 3
         have cf3 := (FR.out.below BC.out).2 3
         have cr4 := (XR.out.below BC.out).2 4
         have cf4 := (FR.out.below BC.out).2 4
         have cr5 := (XR.out.below BC.out).2 5
         have cf5 := (FR.out.below BC.out).2 5
         have cr6 := (XR.out.below BC.out).2 6
         have cf6 := (FR.out.below BC.out).2 6
         have ca6 := (XA.out.below BC.out).2 6
         have cb6 := ((XA.out.below BC.out).below (below_alloc _ (.cells #[] 3))).2 6
         clear ht hfp hb1 hlow))
    all_goals go_wp2_with fail
    all_goals (
      have XF := XR.out.below BC.out
      have XRF := (((((((XF.put (j := 0) (u := .int .i64 yk) (by simp)).put (j := 1) (u := .string ynm) (by simp)).put (j := 2) (u := .int .i64 yn) (by simp)).put (j := 3) (u := .int .i64 ytk) (by simp)).put (j := 4) (u := .slice yta ytn ytc) (by simp)).put (j := 5) (u := .slice ya ym yc) (by simp)).put (j := 6) (u := .slice ga ps.length gc) (by simp))
      have KF : ∀ b, w.heap.size + 2 ≤ b → (((((((w'.setCell ⟨w.heap.size + 1, 0, none⟩ (.int .i64 yk)).setCell ⟨w.heap.size + 1, 1, none⟩ (.string ynm)).setCell ⟨w.heap.size + 1, 2, none⟩ (.int .i64 yn)).setCell ⟨w.heap.size + 1, 3, none⟩ (.int .i64 ytk)).setCell ⟨w.heap.size + 1, 4, none⟩ (.slice yta ytn ytc)).setCell ⟨w.heap.size + 1, 5, none⟩ (.slice ya ym yc)).setCell ⟨w.heap.size + 1, 6, none⟩ (.slice ga ps.length gc)).heap[b]? = w'.heap[b]? := fun b hb => by
        rw [heap_setCell_other _ _ _ _ (by simp; omega), heap_setCell_other _ _ _ _ (by simp; omega), heap_setCell_other _ _ _ _ (by simp; omega), heap_setCell_other _ _ _ _ (by simp; omega), heap_setCell_other _ _ _ _ (by simp; omega), heap_setCell_other _ _ _ _ (by simp; omega), heap_setCell_other _ _ _ _ (by simp; omega)]
      have hsz : (((((((w'.setCell ⟨w.heap.size + 1, 0, none⟩ (.int .i64 yk)).setCell ⟨w.heap.size + 1, 1, none⟩ (.string ynm)).setCell ⟨w.heap.size + 1, 2, none⟩ (.int .i64 yn)).setCell ⟨w.heap.size + 1, 3, none⟩ (.int .i64 ytk)).setCell ⟨w.heap.size + 1, 4, none⟩ (.slice yta ytn ytc)).setCell ⟨w.heap.size + 1, 5, none⟩ (.slice ya ym yc)).setCell ⟨w.heap.size + 1, 6, none⟩ (.slice ga ps.length gc)).heap.size = w'.heap.size := by simp
      have hbF : Below w.heap.size w (((((((w'.setCell ⟨w.heap.size + 1, 0, none⟩ (.int .i64 yk)).setCell ⟨w.heap.size + 1, 1, none⟩ (.string ynm)).setCell ⟨w.heap.size + 1, 2, none⟩ (.int .i64 yn)).setCell ⟨w.heap.size + 1, 3, none⟩ (.int .i64 ytk)).setCell ⟨w.heap.size + 1, 4, none⟩ (.slice yta ytn ytc)).setCell ⟨w.heap.size + 1, 5, none⟩ (.slice ya ym yc)).setCell ⟨w.heap.size + 1, 6, none⟩ (.slice ga ps.length gc)) := ((((((((E2.out.trans (BC.out.mono E2.out.size)).setCell (by simp) _).setCell (by simp) _).setCell (by simp) _).setCell (by simp) _).setCell (by simp) _).setCell (by simp) _).setCell (by simp) _)
      have HX : ∀ W2 : World, w'.heap.size ≤ W2.heap.size → (∀ b, w.heap.size + 2 ≤ b → b < w'.heap.size → W2.heap[b]? = w'.heap[b]?) → ExAt W2 d (.agg #[.int .i64 yk, .string ynm, .int .i64 yn, .int .i64 ytk, .slice yta ytn ytc, .slice ya ym yc]) ex := fun W2 hs hk => (HT.out.kept (Nat.le_trans KT.out.size hs) fun b hb => by
        have h1 := HF.out.2 b hb
        have h2 := LT.out
        have h3 := KT.out.size
        rw [hk b (by omega) (by omega), KT.out.block b h1.2]).at_
      have HI : ∀ W2 : World, w'.heap.size ≤ W2.heap.size → (∀ b, w.heap.size + 2 ≤ b → b < w'.heap.size → W2.heap[b]? = w'.heap[b]?) → Ints W2 (.slice ga ps.length gc) ps := fun W2 hs hk => HG.out _ fun b h1 h2 => by
        have h3 := LG.out
        have h4 := KG.out.size
        rw [hk b (by omega) (by omega), KG.out.block b h2]
      have g0 := XRF.2 0
      have g1 := XRF.2 1
      have g2 := XRF.2 2
      have g3 := XRF.2 3
      have g4 := XRF.2 4
      have g5 := XRF.2 5
      have g6 := XRF.2 6
      clear XRF
      generalize (((((((w'.setCell ⟨w.heap.size + 1, 0, none⟩ (.int .i64 yk)).setCell ⟨w.heap.size + 1, 1, none⟩ (.string ynm)).setCell ⟨w.heap.size + 1, 2, none⟩ (.int .i64 yn)).setCell ⟨w.heap.size + 1, 3, none⟩ (.int .i64 ytk)).setCell ⟨w.heap.size + 1, 4, none⟩ (.slice yta ytn ytc)).setCell ⟨w.heap.size + 1, 5, none⟩ (.slice ya ym yc)).setCell ⟨w.heap.size + 1, 6, none⟩ (.slice ga ps.length gc)) = WX at g0 g1 g2 g3 g4 g5 g6 KF hsz hbF ⊢
      refine bodyPost_ret (v := .agg #[.int .i64 yk, .string ynm, .int .i64 yn, .int .i64 ytk, .slice yta ytn ytc, .slice ya ym yc, .slice ga ps.length gc]) (by simp [results, Tryd.results27, go_sem, g0, g1, g2, g3, g4, g5, g6]) rfl ?_
      exact ⟨_, rfl, fun w2 hs2 hk2 => ⟨_, _, _, _, _, _, _, _, _, _, _, _, _, rfl, HX w2 (by rw [hsz] at hs2; exact hs2) (fun b hb hl2 => by rw [hk2 b (by omega) (by rw [hsz]; exact hl2), KF b hb]), HI w2 (by rw [hsz] at hs2; exact hs2) (fun b hb hl2 => by rw [hk2 b (by omega) (by rw [hsz]; exact hl2), KF b hb]), hl⟩, hbF⟩)
end Go.Proofs.YtmmnjdhmankieaaDoor
