/-
  Proved: laws.toType and toTypeS copy a tree of at most 2^20 nodes into new memory; they leave the memory that was there as it was.
-/
import Derived.Test.YtefoenkmppeidaaToTyD
namespace Go.Proofs.Ytefoenkmppeidaa
open Go.RowKit

def ToTysEnd (d : Nat) (ts : List Ty) (w : World) (e : Ending) (w' : World) : Prop :=
  ∃ v' fp, e = .returned v' ∧ TysOwn w' d v' ts fp ∧ Fp w.heap.size w'.heap.size fp ∧ Below w.heap.size w w'
def ToTySaid (d : Nat) : Prop := ∀ (v : Value) (t : Ty) (w : World), t.size ≤ 1048577 → TyAt w d v t →
  Calls Try.prog 43 #[v] w (ToTyEnd d t w)
def ToTysSaid (d : Nat) : Prop := ∀ (v : Value) (ts : List Ty) (w : World), Ty.sizes ts ≤ 1048577 → TysAt w d v ts →
  Calls Try.prog 93 #[v] w (ToTysEnd d ts w)

set_option maxRecDepth 100000 in
set_option maxHeartbeats 1000000 in
theorem toTy_step (d : Nat) (ih : ToTysSaid d) : ToTySaid (d + 1) := by
  intro v t w hn h
  have IH := Lib.hid ih; clear ih
  cases t with
  | node kd ts =>
    obtain ⟨sl, rfl, hk0, hk1, h⟩ := h
    have HT := Lib.hid (show TysAt w d sl ts from h)
    have hn2 : Ty.sizes ts ≤ 1048577 := by simp [Ty.size] at hn; omega
    have e3 : Below w.heap.size w (((w.alloc (.cells #[.int .i64 kd, sl] 24)).alloc (.cells #[.int .i64 0, .slice none 0 0] 31)).alloc (.cells #[.int .i64 kd, .slice none 0 0] 31)) :=
      (((Below.refl _ _).alloc (Nat.le_refl _) _).alloc (by simp) _).alloc (by simp; omega) _
    have HT3 := Lib.hid (HT.out.below e3)
    have HE3 := Lib.hid e3; clear e3
    obtain ⟨a, cap, rfl, _⟩ := h
    go_enter Try.func43, Try.ntmps43
    go_wp2_with fail
    refine (IH.out _ ts _ hn2 HT3.out).mono ?_
    rintro e w' ⟨v2, fp, rfl, ht, hfp, hb1⟩
    have hz := hb1.size
    simp at hz
    have hcell : ∀ b o, b < w.heap.size + 3 → w'.cell? ⟨b, o, none⟩ = (((w.alloc (.cells #[.int .i64 kd, .slice a ts.length cap] 24)).alloc (.cells #[.int .i64 0, .slice none 0 0] 31)).alloc (.cells #[.int .i64 kd, .slice none 0 0] 31)).cell? ⟨b, o, none⟩ := fun b o h => hb1.cell (p := ⟨b, o, none⟩) (by simp; omega)
    have hfroz : ∀ b o, b < w.heap.size + 3 → w'.frozen? ⟨b, o, none⟩ = (((w.alloc (.cells #[.int .i64 kd, .slice a ts.length cap] 24)).alloc (.cells #[.int .i64 0, .slice none 0 0] 31)).alloc (.cells #[.int .i64 kd, .slice none 0 0] 31)).frozen? ⟨b, o, none⟩ := fun b o h => hb1.frozen (p := ⟨b, o, none⟩) (by simp; omega)
    have c20 : w'.cell? ⟨w.heap.size + 1 + 1, 0, none⟩ = some (.int .i64 kd) := by rw [hcell _ _ (by omega)]; simp [go_sem]
    have c21 : w'.cell? ⟨w.heap.size + 1 + 1, 1, none⟩ = some (.slice none 0 0) := by rw [hcell _ _ (by omega)]; simp [go_sem]
    have c10 : w'.cell? ⟨w.heap.size + 1, 0, none⟩ = some (.int .i64 0) := by rw [hcell _ _ (by omega)]; simp [go_sem]
    have c11 : w'.cell? ⟨w.heap.size + 1, 1, none⟩ = some (.slice none 0 0) := by rw [hcell _ _ (by omega)]; simp [go_sem]
    have f20 : w'.frozen? ⟨w.heap.size + 1 + 1, 0, none⟩ = false := by rw [hfroz _ _ (by omega)]; simp [go_sem]
    have f21 : w'.frozen? ⟨w.heap.size + 1 + 1, 1, none⟩ = false := by rw [hfroz _ _ (by omega)]; simp [go_sem]
    have f10 : w'.frozen? ⟨w.heap.size + 1, 0, none⟩ = false := by rw [hfroz _ _ (by omega)]; simp [go_sem]
    have f11 : w'.frozen? ⟨w.heap.size + 1, 1, none⟩ = false := by rw [hfroz _ _ (by omega)]; simp [go_sem]
    have hs3 : (((w.alloc (.cells #[.int .i64 kd, .slice a ts.length cap] 24)).alloc (.cells #[.int .i64 0, .slice none 0 0] 31)).alloc (.cells #[.int .i64 kd, .slice none 0 0] 31)).heap.size = w.heap.size + 3 := by simp
    rw [hs3] at hfp
    have HF := Lib.hid hfp; clear hfp
    obtain ⟨a2, cap2, hd2, fps2, rfl, hr⟩ := ht
    have HR : Hid (TysOwn w' d (.slice a2 ts.length cap2) ts fp) := ⟨a2, cap2, hd2, fps2, rfl, hr⟩
    have HB := Lib.hid (HE3.out.trans (hb1.mono HE3.out.size))
    clear hcell hfroz hb1 hr HT3 HE3
    go_wp2_with fail
    have hkeep : ∀ b, w.heap.size + 3 ≤ b → b < w'.heap.size → (((w'.setCell ⟨w.heap.size + 1 + 1, 1, none⟩ (.slice a2 ts.length cap2)).setCell ⟨w.heap.size + 1, 0, none⟩ (.int .i64 kd)).setCell ⟨w.heap.size + 1, 1, none⟩ (.slice a2 ts.length cap2)).heap[b]? = w'.heap[b]? := fun b h1 h2 => by
      rw [heap_setCell_other _ _ _ _ (by simp; omega), heap_setCell_other _ _ _ _ (by simp; omega), heap_setCell_other _ _ _ _ (by simp; omega)]
    have g0 : (((w'.setCell ⟨w.heap.size + 1 + 1, 1, none⟩ (.slice a2 ts.length cap2)).setCell ⟨w.heap.size + 1, 0, none⟩ (.int .i64 kd)).setCell ⟨w.heap.size + 1, 1, none⟩ (.slice a2 ts.length cap2)).cell? ⟨w.heap.size + 1, 0, none⟩ = some (.int .i64 kd) := by simp [go_sem, c10]
    have g1 : (((w'.setCell ⟨w.heap.size + 1 + 1, 1, none⟩ (.slice a2 ts.length cap2)).setCell ⟨w.heap.size + 1, 0, none⟩ (.int .i64 kd)).setCell ⟨w.heap.size + 1, 1, none⟩ (.slice a2 ts.length cap2)).cell? ⟨w.heap.size + 1, 1, none⟩ = some (.slice a2 ts.length cap2) := by simp [go_sem, c11]
    refine bodyPost_ret (v := .agg #[.int .i64 kd, .slice a2 ts.length cap2]) (by simp [results, Try.results43, go_sem, g0, g1]) rfl ?_
    exact ⟨_, fp, rfl, ⟨_, rfl, hk0, hk1, HR.out.kept (by simp) fun b hb => hkeep b (HF.out.2 b hb).1 (HF.out.2 b hb).2⟩, HF.out.mono (by omega) (by simp), ((HB.out.setCell (by simp; omega) _).setCell (by simp) _).setCell (by simp) _⟩

set_option maxRecDepth 100000 in
set_option maxHeartbeats 1000000 in
theorem toTys_step (d : Nat) (ih : ToTySaid d) : ToTysSaid d := by
  intro v ts w hn h
  have IH := Lib.hid ih; clear ih
  obtain ⟨i0, hi, hz0, hz1, hz2⟩ := info_parts info_ty
  have hlen := Ty.length_le ts
  obtain ⟨a, cap, rfl, hcap, hcap2, hat⟩ := h
  have HAT := Lib.hid hat; clear hat
  go_enter Try.func93, Try.ntmps93
  go_wp2_with (at_make; refine wpList_make_full _ rfl _ _ 29 rfl w.heap.size 31 i0 (.agg #[.int .i64 0, .slice none 0 0]) 2 Try.underlying29 hi hz0 hz1 .i64 .i64 _ _ ts.length rfl rfl rfl rfl (by rw [hz2]; omega) (by unfold maxLen; omega) (Nat.le_refl _) ?_; intro w0 hown0 hg0; refine Hid.out ?_)
  refine Lib.hid ?_
  have HB0 := Lib.hid ((Below.refl w.heap.size w).grown hg0 (Nat.le_refl _) (fun k hk => by cases hk))
  have HO0 := Lib.hid hown0
  clear hown0 hg0 hi hz0 hz1 hz2
  go_wp2_with fail
  go_loopw [4] (fun i wr => ∃ (k : Nat) (cs : List Value) (fps : List (List Nat)), k ≤ ts.length ∧ i = .int .i64 k ∧ wr.ownsRow w.heap.size 31 2 (.slice (some ⟨w.heap.size, 0, none⟩) ts.length ts.length) ts.length cs ∧
      fps.length = k ∧ Fp (w.heap.size + 1) wr.heap.size (List.flatten fps) ∧ (∀ j (h : j < ts.length), j < k → ∃ c0 c1 f, cs[j * 2]? = some c0 ∧ cs[j * 2 + 1]? = some c1 ∧ fps[j]? = some f ∧ TyOwn wr d (.agg #[c0, c1]) ts[j] f) ∧ Below w.heap.size w wr) (fun i _ => ts.length - (intOf i).toNat)
  case atStart => exact ⟨0, _, [], by omega, rfl, HO0.out, rfl, Fp.nil _ _, fun j h h2 => by omega, HB0.out⟩
  case round =>
    obtain ⟨k, cs, fps, hk, rfl, hown, hfl, hfp, hdone, hb⟩ := hrel
    have HF := Lib.hid hfp; clear hfp
    have HL := Lib.hid hfl; clear hfl
    have HO := Lib.hid hown
    have HD := Lib.hid hdone; clear hdone
    have HB := Lib.hid hb; clear hb
    have hgl := (hown.lt w.heap.size rfl).2
    clear hown
    by_cases hlt : k < ts.length
    · obtain ⟨b, off, x0, x1, rfl, hbl, hc0, hc1, ht⟩ := HAT.out k hlt
      have hg := Ty.size_get ts k hlt
      have e0 : wr.cell? ⟨b, off + k * 2, none⟩ = some x0 := by rw [HB.out.cell (p := ⟨b, off + k * 2, none⟩) hbl]; exact hc0
      have e1 : wr.cell? ⟨b, off + k * 2 + 1, none⟩ = some x1 := by rw [HB.out.cell (p := ⟨b, off + k * 2 + 1, none⟩) hbl]; exact hc1
      have HT := Lib.hid (ht.below HB.out)
      clear ht hc0 hc1
      go_wp2_with fail
      refine (IH.out _ _ wr (by omega) HT.out).mono ?_
      rintro e w' ⟨v2, fp, rfl, ht, hfp, hb1⟩
      have HF1 := Lib.hid hfp; clear hfp
      have HO1 := Lib.hid (own_below HO.out hb1); clear HO
      have hz1 := hb1.size
      obtain ⟨yk, ya, yn, yc, rfl, HY⟩ := ty_parts ht
      clear ht
      have p0 : ∃ u, w'.cell? ⟨w.heap.size, k * 2, none⟩ = some u := by
        rw [HO1.out.cellAt (k * 2) (by omega)]
        exact ⟨_, List.getElem?_eq_getElem (by rw [HO1.out.1]; omega)⟩
      have p1 : ∃ u, w'.cell? ⟨w.heap.size, k * 2 + 1, none⟩ = some u := by
        rw [HO1.out.cellAt (k * 2 + 1) (by omega)]
        exact ⟨_, List.getElem?_eq_getElem (by rw [HO1.out.1]; omega)⟩
      obtain ⟨u0, p0⟩ := p0
      obtain ⟨u1, p1⟩ := p1
      have f0 := HO1.out.frozenAt (k * 2)
      have f1 := HO1.out.frozenAt (k * 2 + 1)
      have HB1 := Lib.hid hb1; clear hb1
      go_wp2_with fail
      have hcs : cs.length = ts.length * 2 := HO1.out.1
      have hs1 := HO1.out.stored (k * 2) (.int .i64 yk)
      have hs2 := hs1.1.stored (k * 2 + 1) (.slice ya yn yc)
      have hkeep : ∀ b, w.heap.size + 1 ≤ b → b < w'.heap.size → ((w'.setCell ⟨w.heap.size, k * 2, none⟩ (.int .i64 yk)).setCell ⟨w.heap.size, k * 2 + 1, none⟩ (.slice ya yn yc)).heap[b]? = w'.heap[b]? := fun b h1 h2 => by
        rw [heap_setCell_other _ _ _ _ (by simp; omega), heap_setCell_other _ _ _ _ (by simp; omega)]
      have hF := HF.out
      have hF1 := HF1.out
      have hL := HL.out
      have hz2 : ((w'.setCell ⟨w.heap.size, k * 2, none⟩ (.int .i64 yk)).setCell ⟨w.heap.size, k * 2 + 1, none⟩ (.slice ya yn yc)).heap.size = w'.heap.size := by simp
      refine ⟨⟨k + 1, _, fps ++ [fp], by omega, by go_num, hs2.1, by simp [hL], ?_, ?_, ((HB.out.trans (HB1.out.mono HB.out.size)).setCell (Nat.le_refl _) _).setCell (by simp) _⟩, by simp [intOf]; omega⟩
      · rw [hz2, List.flatten_append, List.flatten_cons, List.flatten_nil, List.append_nil]
        exact hF.join hF1 (by omega) hz1
      · intro j hj hjk
        by_cases hjk2 : j = k
        · subst hjk2
          refine ⟨_, _, fp, ?_, ?_, ?_, HY.out.kept (by simp) fun b hb => hkeep b ?_ (hF1.2 b hb).2⟩
          · rw [List.getElem?_set_ne (by omega), List.getElem?_set_self (by omega)]
          · rw [List.getElem?_set_self (by simp; omega)]
          · rw [List.getElem?_append_right (by omega), hL]; simp
          · have := (hF1.2 b hb).1; omega
        · obtain ⟨c0, c1, f, hc0, hc1, hfj, hty⟩ := HD.out j hj (by omega)
          have hsub : ∀ b, b ∈ f → b ∈ fps.flatten := fun b hb => List.mem_flatten.2 ⟨f, List.mem_of_getElem? hfj, hb⟩
          refine ⟨c0, c1, f, ?_, ?_, ?_, hty.kept (by simp; omega) fun b hb => ?_⟩
          · rw [List.getElem?_set_ne (by omega), List.getElem?_set_ne (by omega)]; exact hc0
          · rw [List.getElem?_set_ne (by omega), List.getElem?_set_ne (by omega)]; exact hc1
          · rw [List.getElem?_append_left (by omega)]; exact hfj
          · have hb2 := hF.2 b (hsub b hb)
            rw [hkeep b hb2.1 (by omega)]; exact HB1.out.block b hb2.2
    · have hkk : k = ts.length := by omega
      subst hkk
      go_wp2_with fail
      go_ret
      refine ⟨_, [w.heap.size] ++ fps.flatten, rfl, ⟨_, _, [w.heap.size], fps, rfl, Nat.le_refl _, by omega, HL.out, rfl, fun b hb => by cases List.mem_singleton.1 hb; exact hgl, fun j hj => ?_⟩, (Fp.one (Nat.le_refl _) (Nat.lt_succ_self _)).join HF.out (by omega) (by omega), HB.out⟩
      obtain ⟨c0, c1, f, hc0, hc1, hfj, hty⟩ := HD.out j hj hj
      refine ⟨w.heap.size, 0, c0, c1, f, rfl, rfl, hgl, ?_, HO.out.frozenAt _, ?_, hfj, hty⟩
      · rw [Nat.zero_add, HO.out.cellAt (j * 2) (by omega)]; exact hc0
      · rw [Nat.zero_add, HO.out.cellAt (j * 2 + 1) (by omega)]; exact hc1

theorem toTy_all (d : Nat) : ToTySaid d ∧ ToTysSaid d := by
  induction d with
  | zero =>
    have h0 : ToTySaid 0 := fun v t w _ h => h.elim
    exact ⟨h0, toTys_step 0 h0⟩
  | succ d ih =>
    have h1 := toTy_step d ih.2
    exact ⟨h1, toTys_step (d + 1) h1⟩
end Go.Proofs.Ytefoenkmppeidaa
