/-
  Proved: laws.toTyping and toTypingS copy typings into new memory; they leave the memory that was there as it was.
-/
import Derived.Test.YteffjeejbdjjpaaGreatDoorWellG1
import Derived.Test.YteffjeejbdjjpaaGreatDoorWellG4
namespace Go.Proofs.YteffjeejbdjjpaaGreatDoor
open Go.RowKit

theorem info_bi : (Tryz.prog.info? 61).map (fun i => (i.zero, i.size, i.bytes)) = some (some (.agg #[.string ⟨#[]⟩, .int .i64 0, .slice none 0 0]), 3, 48) := by kernel_rfl
set_option maxRecDepth 100000 in
set_option maxHeartbeats 2000000 in
theorem toBi (d : Nat) (v : Value) (t : Bi) (w : World) (hn : t.bulk ≤ 1048576) (h : BiAt w d v t) :
    Calls Tryz.prog 30 #[v] w fun e w' => ∃ v' fp, e = .returned v' ∧ BiOwn w' d v' t fp ∧ Fp w.heap.size w'.heap.size fp ∧ Below w.heap.size w w' := by
  cases t with
  | mk nm ty =>
    obtain ⟨tk, ta, tn, tc, rfl, hnm, hty⟩ := h
    dsimp only at hnm hty ⊢
    have hsz1 : ty.size ≤ 1048577 := by have : (Bi.mk nm ty).bulk = nm.size + (ty.size - 1) := rfl; omega
    clear hn
    have B : Hid (Below w.heap.size w (((w.alloc (.cells #[.string nm, .int .i64 tk, .slice ta tn tc] 56)).alloc (.cells #[.string ⟨#[]⟩, .int .i64 0, .slice none 0 0] 61)).alloc (.cells #[.string nm, .int .i64 0, .slice none 0 0] 61))) := (((Below.refl _ _).alloc (Nat.le_refl _) _).alloc (by simp) _).alloc (by simp; omega) _
    have HTY := Lib.hid (hty.below B.out)
    have XR : Hid (BoxAt (((w.alloc (.cells #[.string nm, .int .i64 tk, .slice ta tn tc] 56)).alloc (.cells #[.string ⟨#[]⟩, .int .i64 0, .slice none 0 0] 61)).alloc (.cells #[.string nm, .int .i64 0, .slice none 0 0] 61)) (w.heap.size + 1) #[.string ⟨#[]⟩, .int .i64 0, .slice none 0 0]) := (box_at (BoxAt.new _ _ _) (by simp)).below (below_alloc _ _)
    have XO : Hid (BoxAt (((w.alloc (.cells #[.string nm, .int .i64 tk, .slice ta tn tc] 56)).alloc (.cells #[.string ⟨#[]⟩, .int .i64 0, .slice none 0 0] 61)).alloc (.cells #[.string nm, .int .i64 0, .slice none 0 0] 61)) (w.heap.size + 1 + 1) #[.string nm, .int .i64 0, .slice none 0 0]) := box_at (BoxAt.new _ _ _) (by simp)
    have FR : Hid (FreeAt (((w.alloc (.cells #[.string nm, .int .i64 tk, .slice ta tn tc] 56)).alloc (.cells #[.string ⟨#[]⟩, .int .i64 0, .slice none 0 0] 61)).alloc (.cells #[.string nm, .int .i64 0, .slice none 0 0] 61)) (w.heap.size + 1)) := (free_at (FreeAt.new _ _ _) (by simp)).below (below_alloc _ _)
    have FO : Hid (FreeAt (((w.alloc (.cells #[.string nm, .int .i64 tk, .slice ta tn tc] 56)).alloc (.cells #[.string ⟨#[]⟩, .int .i64 0, .slice none 0 0] 61)).alloc (.cells #[.string nm, .int .i64 0, .slice none 0 0] 61)) (w.heap.size + 1 + 1)) := free_at (FreeAt.new _ _ _) (by simp)
    have hz0 : (((w.alloc (.cells #[.string nm, .int .i64 tk, .slice ta tn tc] 56)).alloc (.cells #[.string ⟨#[]⟩, .int .i64 0, .slice none 0 0] 61)).alloc (.cells #[.string nm, .int .i64 0, .slice none 0 0] 61)).heap.size = w.heap.size + 3 := by simp
    clear hty
    go_enter Tryz.func30, Tryz.ntmps30
    go_wp2_with fail
    refine ((toTy_all d).1 _ ty _ hsz1 HTY.out).mono ?_
    rintro e w1 ⟨v1, f1, rfl, ht, hf1, hb⟩
    have hz1 := hb.size
    rw [hz0] at hz1 hf1
    obtain ⟨gk, ga, gn, gc, rfl, HG⟩ := ty_parts ht
    have F1 := Lib.hid hf1
    replace B := Lib.hid (below_thru B.out (Nat.le_refl _) hb)
    replace XR := Lib.hid (XR.out.below hb)
    replace XO := Lib.hid (XO.out.below hb)
    replace FR := Lib.hid (FR.out.below hb)
    replace FO := Lib.hid (FO.out.below hb)
    clear ht hf1 hb HTY
    have o0 := XO.out.2 0
    have u0 := FO.out.2 0
    have r0 := XR.out.2 0
    have s0 := FR.out.2 0
    have o1 := XO.out.2 1
    have u1 := FO.out.2 1
    have r1 := XR.out.2 1
    have s1 := FR.out.2 1
    have o2 := XO.out.2 2
    have u2 := FO.out.2 2
    have r2 := XR.out.2 2
    have s2 := FR.out.2 2
    go_wp2_with fail
    clear o0 o1 o2 u0 u1 u2 r0 r1 r2 s0 s1 s2
    have XRF : BoxAt (((((w1.setCell ⟨w.heap.size + 1 + 1, 1, none⟩ (.int .i64 gk)).setCell ⟨w.heap.size + 1 + 1, 2, none⟩ (.slice ga gn gc)).setCell ⟨w.heap.size + 1, 0, none⟩ (.string nm)).setCell ⟨w.heap.size + 1, 1, none⟩ (.int .i64 gk)).setCell ⟨w.heap.size + 1, 2, none⟩ (.slice ga gn gc)) (w.heap.size + 1) #[.string nm, .int .i64 gk, .slice ga gn gc] := by
      have := ((((XR.out.stored (q := w.heap.size + 1 + 1) (j := 1) (u := .int .i64 gk) (by omega)).stored (q := w.heap.size + 1 + 1) (j := 2) (u := .slice ga gn gc) (by omega)).put (j := 0) (u := .string nm) (by simp)).put (j := 1) (u := .int .i64 gk) (by simp)).put (j := 2) (u := .slice ga gn gc) (by simp)
      exact this
    have K3 : ∀ b, w.heap.size + 3 ≤ b → (((((w1.setCell ⟨w.heap.size + 1 + 1, 1, none⟩ (.int .i64 gk)).setCell ⟨w.heap.size + 1 + 1, 2, none⟩ (.slice ga gn gc)).setCell ⟨w.heap.size + 1, 0, none⟩ (.string nm)).setCell ⟨w.heap.size + 1, 1, none⟩ (.int .i64 gk)).setCell ⟨w.heap.size + 1, 2, none⟩ (.slice ga gn gc)).heap[b]? = w1.heap[b]? := fun b hb => by
      rw [heap_setCell_other _ _ _ _ (by simp; omega), heap_setCell_other _ _ _ _ (by simp; omega), heap_setCell_other _ _ _ _ (by simp; omega), heap_setCell_other _ _ _ _ (by simp; omega), heap_setCell_other _ _ _ _ (by simp; omega)]
    have hzf : (((((w1.setCell ⟨w.heap.size + 1 + 1, 1, none⟩ (.int .i64 gk)).setCell ⟨w.heap.size + 1 + 1, 2, none⟩ (.slice ga gn gc)).setCell ⟨w.heap.size + 1, 0, none⟩ (.string nm)).setCell ⟨w.heap.size + 1, 1, none⟩ (.int .i64 gk)).setCell ⟨w.heap.size + 1, 2, none⟩ (.slice ga gn gc)).heap.size = w1.heap.size := by simp
    have hbF : Below w.heap.size w (((((w1.setCell ⟨w.heap.size + 1 + 1, 1, none⟩ (.int .i64 gk)).setCell ⟨w.heap.size + 1 + 1, 2, none⟩ (.slice ga gn gc)).setCell ⟨w.heap.size + 1, 0, none⟩ (.string nm)).setCell ⟨w.heap.size + 1, 1, none⟩ (.int .i64 gk)).setCell ⟨w.heap.size + 1, 2, none⟩ (.slice ga gn gc)) := (((((B.out.setCell (by simp; omega) _).setCell (by simp; omega) _).setCell (by simp) _).setCell (by simp) _).setCell (by simp) _)
    have g0 := XRF.2 0
    have g1 := XRF.2 1
    have g2 := XRF.2 2
    clear XRF
    have HY : TyOwn (((((w1.setCell ⟨w.heap.size + 1 + 1, 1, none⟩ (.int .i64 gk)).setCell ⟨w.heap.size + 1 + 1, 2, none⟩ (.slice ga gn gc)).setCell ⟨w.heap.size + 1, 0, none⟩ (.string nm)).setCell ⟨w.heap.size + 1, 1, none⟩ (.int .i64 gk)).setCell ⟨w.heap.size + 1, 2, none⟩ (.slice ga gn gc)) d (.agg #[.int .i64 gk, .slice ga gn gc]) ty f1 := HG.kept (by rw [hzf]; exact Nat.le_refl _) fun b hb => K3 b (F1.out.2 b hb).1
    have HFP : Fp w.heap.size (((((w1.setCell ⟨w.heap.size + 1 + 1, 1, none⟩ (.int .i64 gk)).setCell ⟨w.heap.size + 1 + 1, 2, none⟩ (.slice ga gn gc)).setCell ⟨w.heap.size + 1, 0, none⟩ (.string nm)).setCell ⟨w.heap.size + 1, 1, none⟩ (.int .i64 gk)).setCell ⟨w.heap.size + 1, 2, none⟩ (.slice ga gn gc)).heap.size f1 := by rw [hzf]; exact F1.out.mono (by omega) (Nat.le_refl _)
    generalize (((((w1.setCell ⟨w.heap.size + 1 + 1, 1, none⟩ (.int .i64 gk)).setCell ⟨w.heap.size + 1 + 1, 2, none⟩ (.slice ga gn gc)).setCell ⟨w.heap.size + 1, 0, none⟩ (.string nm)).setCell ⟨w.heap.size + 1, 1, none⟩ (.int .i64 gk)).setCell ⟨w.heap.size + 1, 2, none⟩ (.slice ga gn gc)) = WX at g0 g1 g2 HY HFP hbF ⊢
    refine bodyPost_ret (v := .agg #[.string nm, .int .i64 gk, .slice ga gn gc]) (by simp [results, Tryz.results30, go_sem, g0, g1, g2]) rfl ?_
    exact ⟨_, f1, rfl, ⟨_, _, _, _, rfl, hnm, HY⟩, HFP, hbF⟩

set_option maxRecDepth 100000 in
set_option maxHeartbeats 2000000 in
theorem toBisOwn (d : Nat) (v : Value) (ts : List Bi) (w : World) (hn : Bi.bulks ts ≤ 1048576) (h : BisAt w d v ts) :
    Calls Tryz.prog 9 #[v] w fun e w' => ∃ v' fp, e = .returned v' ∧ BisOwn w' d v' ts fp ∧ Fp w.heap.size w'.heap.size fp ∧ Below w.heap.size w w' := by
  obtain ⟨i0, hi, hz0, hz1, hz2⟩ := info_parts info_bi
  have hlen := Bi.length_le ts
  obtain ⟨a, cap, rfl, hcap, hcap2, hat⟩ := h
  have HAT := Lib.hid hat; clear hat
  go_enter Tryz.func9, Tryz.ntmps9
  go_wp2_with (at_make; refine wpList_make_full _ rfl _ _ 36 rfl w.heap.size 61 i0 (.agg #[.string ⟨#[]⟩, .int .i64 0, .slice none 0 0]) 3 Tryz.underlying36 hi hz0 hz1 .i64 .i64 _ _ ts.length rfl rfl rfl rfl (by rw [hz2]; omega) (by unfold maxLen; omega) (Nat.le_refl _) ?_; intro w0 hown0 hg0; refine Hid.out ?_)
  refine Lib.hid ?_
  have HB0 := Lib.hid ((Below.refl w.heap.size w).grown hg0 (Nat.le_refl _) (fun k hk => by cases hk))
  have HO0 := Lib.hid hown0
  clear hown0 hg0 hi hz0 hz1 hz2
  go_wp2_with fail
  go_loopw [4] (fun i wr => ∃ (k : Nat) (cs : List Value) (fps : List (List Nat)), k ≤ ts.length ∧ i = .int .i64 k ∧ wr.ownsRow w.heap.size 61 3 (.slice (some ⟨w.heap.size, 0, none⟩) ts.length ts.length) ts.length cs ∧
      fps.length = k ∧ Fp (w.heap.size + 1) wr.heap.size (List.flatten fps) ∧ (∀ j (h : j < ts.length), j < k → ∃ c0 c1 c2 f, cs[j * 3]? = some c0 ∧ cs[j * 3 + 1]? = some c1 ∧ cs[j * 3 + 2]? = some c2 ∧ fps[j]? = some f ∧ BiOwn wr d (.agg #[c0, c1, c2]) ts[j] f) ∧ Below w.heap.size w wr) (fun i _ => ts.length - (intOf i).toNat)
  case atStart => exact ⟨0, _, [], by omega, rfl, HO0.out, rfl, Fp.nil _ _, fun j h h2 => by omega, HB0.out⟩
  case round =>
    obtain ⟨k, cs, fps, hk, rfl, hown, hfl, hfp, hdone, hb⟩ := hrel
    have HF := Lib.hid hfp; clear hfp
    have HL := Lib.hid hfl; clear hfl
    have HO := Lib.hid hown
    have HD := Lib.hid hdone; clear hdone
    have HB := Lib.hid hb; clear hb
    have hgl := (hown.lt w.heap.size rfl).2
    clear hown
    by_cases hlt : k < ts.length
    · obtain ⟨b, off, x0, x1, x2, rfl, hbl, hc0, hc1, hc2, ht⟩ := HAT.out k hlt
      have hg := Bi.bulk_get ts k hlt
      have e0 : wr.cell? ⟨b, off + k * 3, none⟩ = some x0 := by rw [HB.out.cell (p := ⟨b, off + k * 3, none⟩) hbl]; exact hc0
      have e1 : wr.cell? ⟨b, off + k * 3 + 1, none⟩ = some x1 := by rw [HB.out.cell (p := ⟨b, off + k * 3 + 1, none⟩) hbl]; exact hc1
      have e2 : wr.cell? ⟨b, off + k * 3 + 2, none⟩ = some x2 := by rw [HB.out.cell (p := ⟨b, off + k * 3 + 2, none⟩) hbl]; exact hc2
      have HT := Lib.hid (ht.below HB.out)
      clear ht hc0 hc1 hc2
      go_wp2_with fail
      refine (toBi d _ _ wr (by omega) HT.out).mono ?_
      rintro e w' ⟨v2, fp, rfl, ht, hfp, hb1⟩
      have HF1 := Lib.hid hfp; clear hfp
      have HO1 := Lib.hid (own_below HO.out hb1); clear HO
      have hz1 := hb1.size
      obtain ⟨znm, ztk, zta, ztn, ztc, rfl⟩ := bi_parts ht.at_
      have HY := Lib.hid ht
      clear ht
      have hcs : cs.length = ts.length * 3 := HO1.out.1
      obtain ⟨u0v, p0⟩ : ∃ u, w'.cell? ⟨w.heap.size, k * 3, none⟩ = some u := by
        rw [HO1.out.cellAt (k * 3) (by omega)]
        exact ⟨_, List.getElem?_eq_getElem (by rw [HO1.out.1]; omega)⟩
      have f0 := HO1.out.frozenAt (k * 3)
      obtain ⟨u1v, p1⟩ : ∃ u, w'.cell? ⟨w.heap.size, k * 3 + 1, none⟩ = some u := by
        rw [HO1.out.cellAt (k * 3 + 1) (by omega)]
        exact ⟨_, List.getElem?_eq_getElem (by rw [HO1.out.1]; omega)⟩
      have f1 := HO1.out.frozenAt (k * 3 + 1)
      obtain ⟨u2v, p2⟩ : ∃ u, w'.cell? ⟨w.heap.size, k * 3 + 2, none⟩ = some u := by
        rw [HO1.out.cellAt (k * 3 + 2) (by omega)]
        exact ⟨_, List.getElem?_eq_getElem (by rw [HO1.out.1]; omega)⟩
      have f2 := HO1.out.frozenAt (k * 3 + 2)
      have HB1 := Lib.hid hb1; clear hb1
      have HCS := Lib.hid hcs; clear hcs
      go_wp2_with fail
      have hcs := HCS.out
      have hs0 := HO1.out.stored (k * 3) (.string znm)
      have hs1 := hs0.1.stored (k * 3 + 1) (.int .i64 ztk)
      have hs2 := hs1.1.stored (k * 3 + 2) (.slice zta ztn ztc)
      have hkeep : ∀ b, w.heap.size + 1 ≤ b → (((w'.setCell ⟨w.heap.size, k * 3, none⟩ (.string znm)).setCell ⟨w.heap.size, k * 3 + 1, none⟩ (.int .i64 ztk)).setCell ⟨w.heap.size, k * 3 + 2, none⟩ (.slice zta ztn ztc)).heap[b]? = w'.heap[b]? := fun b h1 => by
        rw [heap_setCell_other _ _ _ _ (by simp; omega), heap_setCell_other _ _ _ _ (by simp; omega), heap_setCell_other _ _ _ _ (by simp; omega)]
      have hF := HF.out
      have hF1 := HF1.out
      have hL := HL.out
      have hzz : (((w'.setCell ⟨w.heap.size, k * 3, none⟩ (.string znm)).setCell ⟨w.heap.size, k * 3 + 1, none⟩ (.int .i64 ztk)).setCell ⟨w.heap.size, k * 3 + 2, none⟩ (.slice zta ztn ztc)).heap.size = w'.heap.size := by simp
      refine ⟨⟨k + 1, _, fps ++ [fp], by omega, by go_num, hs2.1, by simp [hL], ?_, ?_, (((HB.out.trans (HB1.out.mono HB.out.size)).setCell (Nat.le_refl _) _).setCell (Nat.le_refl _) _).setCell (Nat.le_refl _) _⟩, by simp [intOf]; omega⟩
      · rw [hzz, List.flatten_append, List.flatten_cons, List.flatten_nil, List.append_nil]
        exact hF.join hF1 (by omega) hz1
      · intro j hj hjk
        by_cases hjk2 : j = k
        · subst hjk2
          refine ⟨_, _, _, fp, (by rw [List.getElem?_set_ne (by omega), List.getElem?_set_ne (by omega), List.getElem?_set_self (by first | omega | (simp only [List.length_set]; omega))]), (by rw [List.getElem?_set_ne (by omega), List.getElem?_set_self (by first | omega | (simp only [List.length_set]; omega))]), (by rw [List.getElem?_set_self (by first | omega | (simp only [List.length_set]; omega))]), ?_, HY.out.kept (by simp) fun b hb => hkeep b ?_⟩
          · rw [List.getElem?_append_right (by omega), hL]; simp
          · have := (hF1.2 b hb).1; omega
        · obtain ⟨c0, c1, c2, f, hc0, hc1, hc2, hfj, hty⟩ := HD.out j hj (by omega)
          have hsub : ∀ b, b ∈ f → b ∈ fps.flatten := fun b hb => List.mem_flatten.2 ⟨f, List.mem_of_getElem? hfj, hb⟩
          refine ⟨c0, c1, c2, f, (by rw [List.getElem?_set_ne (by omega), List.getElem?_set_ne (by omega), List.getElem?_set_ne (by omega)]; exact hc0), (by rw [List.getElem?_set_ne (by omega), List.getElem?_set_ne (by omega), List.getElem?_set_ne (by omega)]; exact hc1), (by rw [List.getElem?_set_ne (by omega), List.getElem?_set_ne (by omega), List.getElem?_set_ne (by omega)]; exact hc2), ?_, hty.kept (by simp; omega) fun b hb => ?_⟩
          · rw [List.getElem?_append_left (by omega)]; exact hfj
          · have hb2 := hF.2 b (hsub b hb)
            rw [hkeep b hb2.1]; exact HB1.out.block b hb2.2
    · have hkk : k = ts.length := by omega
      subst hkk
      go_wp2_with fail
      go_ret
      refine ⟨_, [w.heap.size] ++ fps.flatten, rfl, ⟨_, _, [w.heap.size], fps, rfl, Nat.le_refl _, by omega, HL.out, rfl, fun b hb => by cases List.mem_singleton.1 hb; exact hgl, fun j hj => ?_⟩, (Fp.one (Nat.le_refl _) (Nat.lt_succ_self _)).join HF.out (by omega) (by omega), HB.out⟩
      obtain ⟨c0, c1, c2, f, hc0, hc1, hc2, hfj, hty⟩ := HD.out j hj hj
      refine ⟨w.heap.size, 0, c0, c1, c2, f, rfl, rfl, hgl, (by rw [Nat.zero_add, HO.out.cellAt (j * 3) (by omega)]; exact hc0), (by rw [Nat.zero_add, HO.out.cellAt (j * 3 + 1) (by omega)]; exact hc1), (by rw [Nat.zero_add, HO.out.cellAt (j * 3 + 2) (by omega)]; exact hc2), fun o => HO.out.frozenAt o, hfj, hty⟩
theorem toBis (d : Nat) (v : Value) (ts : List Bi) (w : World) (hn : Bi.bulks ts ≤ 1048576) (h : BisAt w d v ts) :
    Calls Tryz.prog 9 #[v] w fun e w' => ∃ v', e = .returned v' ∧ BisAt w' d v' ts ∧ Below w.heap.size w w' :=
  (toBisOwn d v ts w hn h).mono fun _ _ ⟨v', _, he, ho, _, hb⟩ => ⟨v', he, ho.at_, hb⟩
end Go.Proofs.YteffjeejbdjjpaaGreatDoor
