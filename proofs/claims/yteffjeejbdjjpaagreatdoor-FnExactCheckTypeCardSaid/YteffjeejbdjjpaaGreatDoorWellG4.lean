/-
  Proved: plain facts on a cell that is written in a box.
-/
import Derived.Test.YteffjeejbdjjpaaGreatDoorWellG1
import Derived.Test.YteffjeejbdjjpaaGreatDoorWellG3
/-
  Proved: plain facts on a type with blocks of its own, as the copies give it.
-/
namespace Go.Proofs.YteffjeejbdjjpaaGreatDoor
open Go.RowKit

theorem info_ty : (Tryz.prog.info? 33).map (fun i => (i.zero, i.size, i.bytes)) = some (some (.agg #[.int .i64 0, .slice none 0 0]), 2, 32) := by kernel_rfl

def ToTyEnd (d : Nat) (t : Ty) (w : World) (e : Ending) (w' : World) : Prop :=
  ∃ v' fp, e = .returned v' ∧ TyOwn w' d v' t fp ∧ Fp w.heap.size w'.heap.size fp ∧ Below w.heap.size w w'
theorem ty_parts {w : World} {d : Nat} {v : Value} {t : Ty} {fp : List Nat} (h : TyOwn w d v t fp) : ∃ k a n cap, v = .agg #[.int .i64 k, .slice a n cap] ∧ Hid (TyOwn w d (.agg #[.int .i64 k, .slice a n cap]) t fp) := by
  cases d with
  | zero => exact h.elim
  | succ d =>
    cases t with
    | node k ts =>
      obtain ⟨sl, rfl, h0, h1, a, cap, hd, fps, rfl, h2⟩ := h
      exact ⟨_, _, _, _, rfl, _, rfl, h0, h1, _, _, hd, fps, rfl, h2⟩

end Go.Proofs.YteffjeejbdjjpaaGreatDoor
/-
  Proved: laws.toType and toTypeS copy a tree of at most 2^20 nodes into new memory; they leave the memory that was there as it was.
-/
namespace Go.Proofs.YteffjeejbdjjpaaGreatDoor
open Go.RowKit

def ToTysEnd (d : Nat) (ts : List Ty) (w : World) (e : Ending) (w' : World) : Prop :=
  ∃ v' fp, e = .returned v' ∧ TysOwn w' d v' ts fp ∧ Fp w.heap.size w'.heap.size fp ∧ Below w.heap.size w w'
def ToTySaid (d : Nat) : Prop := ∀ (v : Value) (t : Ty) (w : World), t.size ≤ 1048577 → TyAt w d v t →
  Calls Tryz.prog 21 #[v] w (ToTyEnd d t w)
def ToTysSaid (d : Nat) : Prop := ∀ (v : Value) (ts : List Ty) (w : World), Ty.sizes ts ≤ 1048577 → TysAt w d v ts →
  Calls Tryz.prog 46 #[v] w (ToTysEnd d ts w)

set_option maxRecDepth 100000 in
set_option maxHeartbeats 1000000 in
theorem toTy_step (d : Nat) (ih : ToTysSaid d) : ToTySaid (d + 1) := by
  intro v t w hn h
  have IH := Lib.hid ih; clear ih
  cases t with
  | node kd ts =>
    obtain ⟨sl, rfl, hk0, hk1, h⟩ := h
    have HT := Lib.hid (show TysAt w d sl ts from h)
    have hn2 : Ty.sizes ts ≤ 1048577 := by simp [Ty.size] at hn; omega
    have e3 : Below w.heap.size w (((w.alloc (.cells #[.int .i64 kd, sl] 25)).alloc (.cells #[.int .i64 0, .slice none 0 0] 33)).alloc (.cells #[.int .i64 kd, .slice none 0 0] 33)) :=
      (((Below.refl _ _).alloc (Nat.le_refl _) _).alloc (by simp) _).alloc (by simp; omega) _
    have HT3 := Lib.hid (HT.out.below e3)
    have HE3 := Lib.hid e3; clear e3
    obtain ⟨a, cap, rfl, _⟩ := h
    go_enter Tryz.func21, Tryz.ntmps21
    go_wp2_with fail
    refine (IH.out _ ts _ hn2 HT3.out).mono ?_
    rintro e w' ⟨v2, fp, rfl, ht, hfp, hb1⟩
    have hz := hb1.size
    simp at hz
    have hcell : ∀ b o, b < w.heap.size + 3 → w'.cell? ⟨b, o, none⟩ = (((w.alloc (.cells #[.int .i64 kd, .slice a ts.length cap] 25)).alloc (.cells #[.int .i64 0, .slice none 0 0] 33)).alloc (.cells #[.int .i64 kd, .slice none 0 0] 33)).cell? ⟨b, o, none⟩ := fun b o h => hb1.cell (p := ⟨b, o, none⟩) (by simp; omega)
    have hfroz : ∀ b o, b < w.heap.size + 3 → w'.frozen? ⟨b, o, none⟩ = (((w.alloc (.cells #[.int .i64 kd, .slice a ts.length cap] 25)).alloc (.cells #[.int .i64 0, .slice none 0 0] 33)).alloc (.cells #[.int .i64 kd, .slice none 0 0] 33)).frozen? ⟨b, o, none⟩ := fun b o h => hb1.frozen (p := ⟨b, o, none⟩) (by simp; omega)
    have c20 : w'.cell? ⟨w.heap.size + 1 + 1, 0, none⟩ = some (.int .i64 kd) := by rw [hcell _ _ (by omega)]; simp [go_sem]
    have c21 : w'.cell? ⟨w.heap.size + 1 + 1, 1, none⟩ = some (.slice none 0 0) := by rw [hcell _ _ (by omega)]; simp [go_sem]
    have c10 : w'.cell? ⟨w.heap.size + 1, 0, none⟩ = some (.int .i64 0) := by rw [hcell _ _ (by omega)]; simp [go_sem]
    have c11 : w'.cell? ⟨w.heap.size + 1, 1, none⟩ = some (.slice none 0 0) := by rw [hcell _ _ (by omega)]; simp [go_sem]
    have f20 : w'.frozen? ⟨w.heap.size + 1 + 1, 0, none⟩ = false := by rw [hfroz _ _ (by omega)]; simp [go_sem]
    have f21 : w'.frozen? ⟨w.heap.size + 1 + 1, 1, none⟩ = false := by rw [hfroz _ _ (by omega)]; simp [go_sem]
    have f10 : w'.frozen? ⟨w.heap.size + 1, 0, none⟩ = false := by rw [hfroz _ _ (by omega)]; simp [go_sem]
    have f11 : w'.frozen? ⟨w.heap.size + 1, 1, none⟩ = false := by rw [hfroz _ _ (by omega)]; simp [go_sem]
    have hs3 : (((w.alloc (.cells #[.int .i64 kd, .slice a ts.length cap] 25)).alloc (.cells #[.int .i64 0, .slice none 0 0] 33)).alloc (.cells #[.int .i64 kd, .slice none 0 0] 33)).heap.size = w.heap.size + 3 := by simp
    rw [hs3] at hfp
    have HF := Lib.hid hfp; clear hfp
    obtain ⟨a2, cap2, hd2, fps2, rfl, hr⟩ := ht
    have HR : Hid (TysOwn w' d (.slice a2 ts.length cap2) ts fp) := ⟨a2, cap2, hd2, fps2, rfl, hr⟩
    have HB := Lib.hid (HE3.out.trans (hb1.mono HE3.out.size))
    clear hcell hfroz hb1 hr HT3 HE3
    go_wp2_with fail
    have hkeep : ∀ b, w.heap.size + 3 ≤ b → b < w'.heap.size → (((w'.setCell ⟨w.heap.size + 1 + 1, 1, none⟩ (.slice a2 ts.length cap2)).setCell ⟨w.heap.size + 1, 0, none⟩ (.int .i64 kd)).setCell ⟨w.heap.size + 1, 1, none⟩ (.slice a2 ts.length cap2)).heap[b]? = w'.heap[b]? := fun b h1 h2 => by
      rw [heap_setCell_other _ _ _ _ (by simp; omega), heap_setCell_other _ _ _ _ (by simp; omega), heap_setCell_other _ _ _ _ (by simp; omega)]
    have g0 : (((w'.setCell ⟨w.heap.size + 1 + 1, 1, none⟩ (.slice a2 ts.length cap2)).setCell ⟨w.heap.size + 1, 0, none⟩ (.int .i64 kd)).setCell ⟨w.heap.size + 1, 1, none⟩ (.slice a2 ts.length cap2)).cell? ⟨w.heap.size + 1, 0, none⟩ = some (.int .i64 kd) := by simp [go_sem, c10]
    have g1 : (((w'.setCell ⟨w.heap.size + 1 + 1, 1, none⟩ (.slice a2 ts.length cap2)).setCell ⟨w.heap.size + 1, 0, none⟩ (.int .i64 kd)).setCell ⟨w.heap.size + 1, 1, none⟩ (.slice a2 ts.length cap2)).cell? ⟨w.heap.size + 1, 1, none⟩ = some (.slice a2 ts.length cap2) := by simp [go_sem, c11]
    refine bodyPost_ret (v := .agg #[.int .i64 kd, .slice a2 ts.length cap2]) (by simp [results, Tryz.results21, go_sem, g0, g1]) rfl ?_
    exact ⟨_, fp, rfl, ⟨_, rfl, hk0, hk1, HR.out.kept (by simp) fun b hb => hkeep b (HF.out.2 b hb).1 (HF.out.2 b hb).2⟩, HF.out.mono (by omega) (by simp), ((HB.out.setCell (by simp; omega) _).setCell (by simp) _).setCell (by simp) _⟩

set_option maxRecDepth 100000 in
set_option maxHeartbeats 1000000 in
theorem toTys_step (d : Nat) (ih : ToTySaid d) : ToTysSaid d := by
  intro v ts w hn h
  have IH := Lib.hid ih; clear ih
  obtain ⟨i0, hi, hz0, hz1, hz2⟩ := info_parts info_ty
  have hlen := Ty.length_le ts
  obtain ⟨a, cap, rfl, hcap, hcap2, hat⟩ := h
  have HAT := Lib.hid hat; clear hat
  go_enter Tryz.func46, Tryz.ntmps46
  go_wp2_with (at_make; refine wpList_make_full _ rfl _ _ 31 rfl w.heap.size 33 i0 (.agg #[.int .i64 0, .slice none 0 0]) 2 Tryz.underlying31 hi hz0 hz1 .i64 .i64 _ _ ts.length rfl rfl rfl rfl (by rw [hz2]; omega) (by unfold maxLen; omega) (Nat.le_refl _) ?_; intro w0 hown0 hg0; refine Hid.out ?_)
  refine Lib.hid ?_
  have HB0 := Lib.hid ((Below.refl w.heap.size w).grown hg0 (Nat.le_refl _) (fun k hk => by cases hk))
  have HO0 := Lib.hid hown0
  clear hown0 hg0 hi hz0 hz1 hz2
  go_wp2_with fail
  go_loopw [4] (fun i wr => ∃ (k : Nat) (cs : List Value) (fps : List (List Nat)), k ≤ ts.length ∧ i = .int .i64 k ∧ wr.ownsRow w.heap.size 33 2 (.slice (some ⟨w.heap.size, 0, none⟩) ts.length ts.length) ts.length cs ∧
      fps.length = k ∧ Fp (w.heap.size + 1) wr.heap.size (List.flatten fps) ∧ (∀ j (h : j < ts.length), j < k → ∃ c0 c1 f, cs[j * 2]? = some c0 ∧ cs[j * 2 + 1]? = some c1 ∧ fps[j]? = some f ∧ TyOwn wr d (.agg #[c0, c1]) ts[j] f) ∧ Below w.heap.size w wr) (fun i _ => ts.length - (intOf i).toNat)
  case atStart => exact ⟨0, _, [], by omega, rfl, HO0.out, rfl, Fp.nil _ _, fun j h h2 => by omega, HB0.out⟩
  case round =>
    obtain ⟨k, cs, fps, hk, rfl, hown, hfl, hfp, hdone, hb⟩ := hrel
    have HF := Lib.hid hfp; clear hfp
    have HL := Lib.hid hfl; clear hfl
    have HO := Lib.hid hown
    have HD := Lib.hid hdone; clear hdone
    have HB := Lib.hid hb; clear hb
    have hgl := (hown.lt w.heap.size rfl).2
    clear hown
    by_cases hlt : k < ts.length
    · obtain ⟨b, off, x0, x1, rfl, hbl, hc0, hc1, ht⟩ := HAT.out k hlt
      have hg := Ty.size_get ts k hlt
      have e0 : wr.cell? ⟨b, off + k * 2, none⟩ = some x0 := by rw [HB.out.cell (p := ⟨b, off + k * 2, none⟩) hbl]; exact hc0
      have e1 : wr.cell? ⟨b, off + k * 2 + 1, none⟩ = some x1 := by rw [HB.out.cell (p := ⟨b, off + k * 2 + 1, none⟩) hbl]; exact hc1
      have HT := Lib.hid (ht.below HB.out)
      clear ht hc0 hc1
      go_wp2_with fail
      refine (IH.out _ _ wr (by omega) HT.out).mono ?_
      rintro e w' ⟨v2, fp, rfl, ht, hfp, hb1⟩
      have HF1 := Lib.hid hfp; clear hfp
      have HO1 := Lib.hid (own_below HO.out hb1); clear HO
      have hz1 := hb1.size
      obtain ⟨yk, ya, yn, yc, rfl, HY⟩ := ty_parts ht
      clear ht
      have p0 : ∃ u, w'.cell? ⟨w.heap.size, k * 2, none⟩ = some u := by
        rw [HO1.out.cellAt (k * 2) (by omega)]
        exact ⟨_, List.getElem?_eq_getElem (by rw [HO1.out.1]; omega)⟩
      have p1 : ∃ u, w'.cell? ⟨w.heap.size, k * 2 + 1, none⟩ = some u := by
        rw [HO1.out.cellAt (k * 2 + 1) (by omega)]
        exact ⟨_, List.getElem?_eq_getElem (by rw [HO1.out.1]; omega)⟩
      obtain ⟨u0, p0⟩ := p0
      obtain ⟨u1, p1⟩ := p1
      have f0 := HO1.out.frozenAt (k * 2)
      have f1 := HO1.out.frozenAt (k * 2 + 1)
      have HB1 := Lib.hid hb1; clear hb1
      go_wp2_with fail
      have hcs : cs.length = ts.length * 2 := HO1.out.1
      have hs1 := HO1.out.stored (k * 2) (.int .i64 yk)
      have hs2 := hs1.1.stored (k * 2 + 1) (.slice ya yn yc)
      have hkeep : ∀ b, w.heap.size + 1 ≤ b → b < w'.heap.size → ((w'.setCell ⟨w.heap.size, k * 2, none⟩ (.int .i64 yk)).setCell ⟨w.heap.size, k * 2 + 1, none⟩ (.slice ya yn yc)).heap[b]? = w'.heap[b]? := fun b h1 h2 => by
        rw [heap_setCell_other _ _ _ _ (by simp; omega), heap_setCell_other _ _ _ _ (by simp; omega)]
      have hF := HF.out
      have hF1 := HF1.out
      have hL := HL.out
      have hz2 : ((w'.setCell ⟨w.heap.size, k * 2, none⟩ (.int .i64 yk)).setCell ⟨w.heap.size, k * 2 + 1, none⟩ (.slice ya yn yc)).heap.size = w'.heap.size := by simp
      refine ⟨⟨k + 1, _, fps ++ [fp], by omega, by go_num, hs2.1, by simp [hL], ?_, ?_, ((HB.out.trans (HB1.out.mono HB.out.size)).setCell (Nat.le_refl _) _).setCell (by simp) _⟩, by simp [intOf]; omega⟩
      · rw [hz2, List.flatten_append, List.flatten_cons, List.flatten_nil, List.append_nil]
        exact hF.join hF1 (by omega) hz1
      · intro j hj hjk
        by_cases hjk2 : j = k
        · subst hjk2
          refine ⟨_, _, fp, ?_, ?_, ?_, HY.out.kept (by simp) fun b hb => hkeep b ?_ (hF1.2 b hb).2⟩
          · rw [List.getElem?_set_ne (by omega), List.getElem?_set_self (by omega)]
          · rw [List.getElem?_set_self (by simp; omega)]
          · rw [List.getElem?_append_right (by omega), hL]; simp
          · have := (hF1.2 b hb).1; omega
        · obtain ⟨c0, c1, f, hc0, hc1, hfj, hty⟩ := HD.out j hj (by omega)
          have hsub : ∀ b, b ∈ f → b ∈ fps.flatten := fun b hb => List.mem_flatten.2 ⟨f, List.mem_of_getElem? hfj, hb⟩
          refine ⟨c0, c1, f, ?_, ?_, ?_, hty.kept (by simp; omega) fun b hb => ?_⟩
          · rw [List.getElem?_set_ne (by omega), List.getElem?_set_ne (by omega)]; exact hc0
          · rw [List.getElem?_set_ne (by omega), List.getElem?_set_ne (by omega)]; exact hc1
          · rw [List.getElem?_append_left (by omega)]; exact hfj
          · have hb2 := hF.2 b (hsub b hb)
            rw [hkeep b hb2.1 (by omega)]; exact HB1.out.block b hb2.2
    · have hkk : k = ts.length := by omega
      subst hkk
      go_wp2_with fail
      go_ret
      refine ⟨_, [w.heap.size] ++ fps.flatten, rfl, ⟨_, _, [w.heap.size], fps, rfl, Nat.le_refl _, by omega, HL.out, rfl, fun b hb => by cases List.mem_singleton.1 hb; exact hgl, fun j hj => ?_⟩, (Fp.one (Nat.le_refl _) (Nat.lt_succ_self _)).join HF.out (by omega) (by omega), HB.out⟩
      obtain ⟨c0, c1, f, hc0, hc1, hfj, hty⟩ := HD.out j hj hj
      refine ⟨w.heap.size, 0, c0, c1, f, rfl, rfl, hgl, ?_, HO.out.frozenAt _, ?_, hfj, hty⟩
      · rw [Nat.zero_add, HO.out.cellAt (j * 2) (by omega)]; exact hc0
      · rw [Nat.zero_add, HO.out.cellAt (j * 2 + 1) (by omega)]; exact hc1

theorem toTy_all (d : Nat) : ToTySaid d ∧ ToTysSaid d := by
  induction d with
  | zero =>
    have h0 : ToTySaid 0 := fun v t w _ h => h.elim
    exact ⟨h0, toTys_step 0 h0⟩
  | succ d ih =>
    have h1 := toTy_step d ih.2
    exact ⟨h1, toTys_step (d + 1) h1⟩
end Go.Proofs.YteffjeejbdjjpaaGreatDoor
/-
  Proved: spec.l3Left takes a tree's nodes from what is left, and spec.IsValidType says whether a tree is a valid type; both leave the memory that was there as it was.
-/
namespace Go.Proofs.YteffjeejbdjjpaaGreatDoor
open Go.RowKit

/-- What is left behind n nodes; -1 where there were more than that. -/
def leftOf (n : Nat) (left : Int) : Int := if (n : Int) ≤ left then left - n else -1
theorem leftOf_add (n p : Nat) (left : Int) (h : 0 ≤ leftOf n left) : leftOf p (leftOf n left) = leftOf (n + p) left := by
  unfold leftOf at h ⊢
  split at h
  · rename_i h1
    rw [if_pos h1]
    by_cases h2 : (p : Int) ≤ left - n
    · rw [if_pos h2, if_pos (by omega)]; omega
    · rw [if_neg h2, if_neg (by omega)]
  · omega
theorem leftOf_neg (n p : Nat) (left : Int) (h : leftOf n left < 0) (hp : n ≤ p) : leftOf n left = leftOf p left := by
  unfold leftOf at h ⊢
  split at h
  · omega
  · rename_i h1
    rw [if_neg h1, if_neg (by omega)]
theorem leftOf_bound (n : Nat) (left : Int) (hl : 0 ≤ left) : -1 ≤ leftOf n left ∧ leftOf n left ≤ left := by
  unfold leftOf; split <;> omega

set_option maxRecDepth 100000 in
set_option maxHeartbeats 2000000 in
theorem specLeft : ∀ (d : Nat) (v : Value) (t : Ty) (left : Int) (w : World), 0 ≤ left → left ≤ 1048576 → TyAt w d v t → t.size ≤ 1152921504606846976 →
    Calls Tryz.prog 84 #[v, .int .i64 left] w fun e w' => e = .returned (.int .i64 (leftOf t.size left)) ∧ Below w.heap.size w w'
  | 0, _, _, _, _, _, _, h, _ => h.elim
  | d + 1, v, .node kd ts, left, w, hl0, hl1, h, hsz => by
    have IH : Hid (∀ (v : Value) (t : Ty) (left : Int) (w : World), 0 ≤ left → left ≤ 1048576 → TyAt w d v t → t.size ≤ 1152921504606846976 → Calls Tryz.prog 84 #[v, .int .i64 left] w fun e w' => e = .returned (.int .i64 (leftOf t.size left)) ∧ Below w.heap.size w w') := specLeft d
    obtain ⟨sl, rfl, hk0, hk1, a, cap, rfl, hcap, hcap2, hat⟩ := h
    have HAT := Lib.hid hat; clear hat
    have hlen : ts.length ≤ 1152921504606846976 := by have := Ty.length_le ts; simp [Ty.size] at hsz; omega
    have HSZ : Hid (Ty.sizes ts + 1 ≤ 1152921504606846976) := by simp [Ty.size] at hsz; show _ ≤ _; omega
    clear hsz
    go_enter Tryz.func84, Tryz.ntmps84
    go_wp2_with fail
    go_loopw [1, 5] (fun l i wr => ∃ (k : Nat) (m : Int), k ≤ ts.length ∧ i = .int .i64 k ∧ l = .int .i64 m ∧ m = leftOf (1 + Ty.sizes (ts.take k)) left ∧ Below (w.heap.size + 1) (w.alloc (.cells #[.int .i64 kd, .slice a ts.length cap] 33)) wr) (fun _ i _ => ts.length - (intOf i).toNat)
    case atStart => exact ⟨0, left - 1, by omega, rfl, rfl, by simp [Ty.sizes, leftOf]; omega, Below.refl _ _⟩
    case round =>
      obtain ⟨k, m, hk, rfl, rfl, hm, hb⟩ := hrel
      have HM := Lib.hid hm; clear hm
      have mb : -1 ≤ m ∧ m ≤ 1048576 := by have := leftOf_bound (1 + Ty.sizes (ts.take k)) left hl0; rw [HM.out]; omega
      obtain ⟨mb0, mb1⟩ := mb
      have c1 := box_cell hb 1
      have HB := Lib.hid (box_below hb)
      have HBX := Lib.hid hb; clear hb
      by_cases hlt : k < ts.length
      · by_cases hneg : m < 0
        · have hfin : m = leftOf (1 + Ty.sizes ts) left := by
            have h1 := HM.out
            have h2 := Ty.sizes_le ts k
            rw [h1]; rw [h1] at hneg
            exact leftOf_neg _ _ left hneg (by omega)
          have HFIN := Lib.hid hfin; clear hfin
          go_wp2_with fail
          go_ret
          exact ⟨by rw [HFIN.out]; rfl, HB.out⟩
        · obtain ⟨b, off, x0, x1, rfl, hbl, hc0, hc1, ht⟩ := HAT.out k hlt
          have hg := Ty.size_get ts k hlt
          have HS2 := HSZ.out
          have e0 : wr.cell? ⟨b, off + k * 2, none⟩ = some x0 := by rw [HB.out.cell (p := ⟨b, off + k * 2, none⟩) hbl]; exact hc0
          have e1 : wr.cell? ⟨b, off + k * 2 + 1, none⟩ = some x1 := by rw [HB.out.cell (p := ⟨b, off + k * 2 + 1, none⟩) hbl]; exact hc1
          have HT := Lib.hid (ht.below HB.out)
          clear ht hc0 hc1
          go_wp2_with fail
          refine (IH.out _ _ m wr (by omega) mb1 HT.out (by omega)).mono ?_
          rintro e w' ⟨rfl, hb1⟩
          have HN := Lib.hid (box_next HBX.out hb1); clear hb1
          have HT2 := Lib.hid (Ty.sizes_take ts k hlt)
          have hnew : leftOf ts[k].size m = leftOf (1 + Ty.sizes (ts.take (k + 1))) left := by
            have h1 := HM.out
            rw [HT2.out, h1, leftOf_add _ _ _ (by rw [← h1]; omega), Nat.add_assoc]
          have HNEW := Lib.hid hnew; clear hnew
          go_wp2_with fail
          exact ⟨⟨k + 1, _, by omega, by go_num, rfl, HNEW.out, HN.out⟩, by simp [intOf]; omega⟩
      · obtain rfl : k = ts.length := by omega
        have HFIN : Hid (m = leftOf (1 + Ty.sizes ts) left) := by have := HM.out; rw [List.take_length] at this; exact this
        go_wp2_with fail
        go_ret
        exact ⟨by rw [HFIN.out]; rfl, HB.out⟩

/-- A valid type: at most 800 nodes, at most 24 deep, and every node of a kind's form. -/
def Ty.valid (t : Ty) : Bool := decide (t.size ≤ 800) && decide (t.depth ≤ 24) && t.form
set_option maxRecDepth 100000 in
set_option maxHeartbeats 2000000 in
theorem specValid (d : Nat) (v : Value) (t : Ty) (w : World) (h : TyAt w d v t) (hsz : t.size ≤ 1048577) :
    Calls Tryz.prog 44 #[v] w fun e w' => e = .returned (.bool t.valid) ∧ Below w.heap.size w w' := by
  have HT := Lib.hid h
  obtain ⟨yk, ya, yn, yc, rfl⟩ : ∃ k a n c, v = .agg #[.int .i64 k, .slice a n c] := by
    cases d with
    | zero => exact h.elim
    | succ d => cases t with | node k ts => obtain ⟨sl, rfl, _, _, a, cap, rfl, _⟩ := h; exact ⟨_, _, _, _, rfl⟩
  clear h
  have E0 : Below w.heap.size w (w.alloc (.cells #[.int .i64 yk, .slice ya yn yc] 33)) := (Below.refl _ _).alloc (Nat.le_refl _) _
  have HT0 := Lib.hid (HT.out.below E0)
  clear E0
  go_enter Tryz.func44, Tryz.ntmps44
  go_wp2_with fail
  refine (specLeft d _ t 800 _ (by omega) (by omega) HT0.out (by omega)).mono ?_
  rintro e w1 ⟨rfl, hb1⟩
  have B1 := Lib.hid (box_next (Below.refl _ _) hb1); clear hb1
  have c0 := box_cell B1.out 0
  have c1 := box_cell B1.out 1
  have hl : leftOf t.size 800 = if (t.size : Int) ≤ 800 then 800 - (t.size : Int) else -1 := rfl
  by_cases q1 : t.size ≤ 800
  · rw [if_pos (by omega)] at hl
    rw [hl]; clear hl
    have hge : ¬ (800 - (t.size : Int) < 0) := by omega
    go_wp2_with fail
    refine (specDepth d _ t _ (HT.out.below (box_below B1.out)) (by omega)).mono ?_
    rintro e w2 ⟨rfl, hb2⟩
    have B2 := Lib.hid (box_next B1.out hb2); clear hb2 B1 c0 c1
    have c0 := box_cell B2.out 0
    have c1 := box_cell B2.out 1
    have hdl : t.depth ≤ 1048577 := by have := t.depth_le; omega
    by_cases q2 : t.depth ≤ 24
    · go_wp2_with fail
      refine (specForm d _ t _ (HT.out.below (box_below B2.out)) (by omega)).mono ?_
      rintro e w3 ⟨rfl, hb3⟩
      have B3 := Lib.hid (box_next B2.out hb3); clear hb3 B2 c0 c1
      go_wp2_with fail
      go_ret
      exact ⟨by simp [Ty.valid, q1, q2], box_below B3.out⟩
    · go_wp2_with fail
      go_ret
      exact ⟨by simp [Ty.valid, q2], box_below B2.out⟩
  · rw [if_neg (by omega)] at hl
    rw [hl]; clear hl
    go_wp2_with fail
    go_ret
    exact ⟨by simp [Ty.valid, q1], box_below B1.out⟩
end Go.Proofs.YteffjeejbdjjpaaGreatDoor
/-
  Proved: plain facts on ground types; the memory that was there stays as it was.
-/
namespace Go.Proofs.YteffjeejbdjjpaaGreatDoor
open Go.RowKit

/-- The ground type of a type's kind; the zero type for others. -/
def Ty.ground : Ty → Ty
  | .node k ts => if (Ty.node k ts).valid = true then (if k = 2 then .node 2 [] else if k = 3 then .node 3 [] else if k = 4 then .node 4 [.node 1 [], .node 1 []] else if k = 5 then .node 5 [.node 1 [], .node 1 []] else .node 0 []) else .node 0 []
theorem Ty.ground_size (t : Ty) : t.ground.size ≤ 3 := by
  cases t with
  | node k ts =>
    simp only [Ty.ground]
    (repeat' split) <;> decide
theorem own_zero (w : World) (d : Nat) (k : Int) (h0 : -9223372036854775808 ≤ k) (h1 : k ≤ 9223372036854775807) : TyOwn w (d + 1) (.agg #[.int .i64 k, .slice none 0 0]) (.node k []) [] :=
  ⟨_, rfl, h0, h1, none, 0, [], [], rfl, Nat.le_refl _, by omega, rfl, rfl, (fun b hb => by cases hb), fun j hj => by simp at hj⟩
end Go.Proofs.YteffjeejbdjjpaaGreatDoor
/-
  Proved: plain facts on a type of two parts that a call builds.
-/
namespace Go.Proofs.YteffjeejbdjjpaaGreatDoor
open Go.RowKit

theorem box_at {w : World} {p q : Nat} {cs : Array Value} (h : BoxAt w p cs) (e : p = q) : BoxAt w q cs := e ▸ h
theorem BoxAt.stored {w : World} {p q j : Nat} {u : Value} {cs : Array Value} (h : BoxAt w p cs) (hne : p ≠ q) : BoxAt (w.setCell ⟨q, j, none⟩ u) p cs :=
  h.kept (by simp) (heap_setCell_other _ _ _ _ hne)
/-- Block p is there and free to be written. -/
def FreeAt (w : World) (p : Nat) : Prop := p < w.heap.size ∧ ∀ j, w.frozen? ⟨p, j, none⟩ = false
theorem FreeAt.below {w w' : World} {p : Nat} (h : FreeAt w p) (hb : Below w.heap.size w w') : FreeAt w' p :=
  ⟨Nat.lt_of_lt_of_le h.1 hb.size, fun j => (hb.frozen (p := ⟨p, j, none⟩) h.1).trans (h.2 j)⟩
theorem FreeAt.new (w : World) (cs : Array Value) (T : TypeId) : FreeAt (w.alloc (.cells cs T)) w.heap.size := ⟨by simp, fun j => by simp [go_sem]⟩
/-- Two parts in blocks of their own, laid side by side in a new block: a type with blocks of its own. -/
theorem own_two {X : World} {d lo mid hi : Nat} {k : Int} {c0 c1 d0 d1 : Value} {t1 t2 : Ty} {f1 f2 : List Nat} (hk0 : -9223372036854775808 ≤ k) (hk1 : k ≤ 9223372036854775807) (hX : hi = X.heap.size)
    (HC : TyOwn X d (.agg #[c0, c1]) t1 f1) (HD : TyOwn X d (.agg #[d0, d1]) t2 f2) (F1 : Fp lo mid f1) (F2 : Fp mid hi f2) (h1 : lo ≤ mid) (h2 : mid ≤ hi) :
    ∃ fp, TyOwn (X.alloc (.cells #[c0, c1, d0, d1] 33)) (d + 1) (.agg #[.int .i64 k, .slice (some ⟨hi, 0, none⟩) 2 2]) (.node k [t1, t2]) fp ∧ Fp lo (hi + 1) fp := by
  subst hX
  have hb := below_alloc X (.cells #[c0, c1, d0, d1] 33)
  have hx := BoxAt.new X #[c0, c1, d0, d1] 33
  have hf := FreeAt.new X #[c0, c1, d0, d1] 33
  refine ⟨[X.heap.size] ++ List.flatten [f1, f2], ⟨_, rfl, hk0, hk1, some ⟨X.heap.size, 0, none⟩, 2, [X.heap.size], [f1, f2], rfl, by simp, by omega, rfl, rfl, fun b hb => by cases List.mem_singleton.1 hb; exact hx.1, fun j hj => ?_⟩, ?_, ?_⟩
  · match j, hj with
    | 0, _ => exact ⟨X.heap.size, 0, _, _, f1, rfl, rfl, hx.1, hx.2 0, hf.2 0, hx.2 1, rfl, HC.below hb⟩
    | 1, _ => exact ⟨X.heap.size, 0, _, _, f2, rfl, rfl, hx.1, hx.2 2, hf.2 2, hx.2 3, rfl, HD.below hb⟩
  · have hj := F1.join F2 h1 h2
    simp only [List.flatten_cons, List.flatten_nil, List.append_nil]
    rw [List.singleton_append, List.nodup_cons]
    exact ⟨fun hm => by have := (hj.2 _ hm).2; omega, hj.1⟩
  · have hj := F1.join F2 h1 h2
    simp only [List.flatten_cons, List.flatten_nil, List.append_nil]
    intro b hb
    rcases List.mem_append.1 hb with hb | hb
    · cases List.mem_singleton.1 hb; omega
    · have := hj.2 b hb; omega
theorem free_at {w : World} {p q : Nat} (h : FreeAt w p) (e : p = q) : FreeAt w q := e ▸ h
end Go.Proofs.YteffjeejbdjjpaaGreatDoor
namespace Go.Proofs.YteffjeejbdjjpaaGreatDoor
open Go.RowKit

theorem BoxAt.put {w : World} {p j : Nat} {u : Value} {cs : Array Value} (h : BoxAt w p cs) (hj : j < cs.size) : BoxAt (w.setCell ⟨p, j, none⟩ u) p (cs.setIfInBounds j u) := by
  refine ⟨by simpa using h.1, fun i => ?_⟩
  by_cases e : i = j
  · subst e
    have hi := h.2 i
    rw [Array.getElem?_eq_getElem hj] at hi
    simp [go_sem, hi, hj]
  · have hi := h.2 i
    rw [Array.getElem?_setIfInBounds_ne (fun h => e h.symm), ← hi]
    simp [go_sem]
theorem FreeAt.put {w : World} {p q j : Nat} {u : Value} (h : FreeAt w p) : FreeAt (w.setCell ⟨q, j, none⟩ u) p :=
  ⟨by simpa using h.1, fun i => by have := h.2 i; simpa [go_sem] using this⟩
end Go.Proofs.YteffjeejbdjjpaaGreatDoor
