/-
  Proved: laws.toExpr and toExprS copy an expression into new memory; they leave the memory that was there as it was.
-/
import Derived.Test.YteffjeejbdjjpaaGreatDoorWellG2
import Derived.Test.YteffjeejbdjjpaaGreatDoorWellG4
namespace Go.Proofs.YteffjeejbdjjpaaGreatDoor
open Go.RowKit

theorem info_ex : (Tryz.prog.info? 40).map (fun i => (i.zero, i.size, i.bytes)) = some (some (.agg #[.int .i64 0, .string ⟨#[]⟩, .int .i64 0, .int .i64 0, .slice none 0 0, .slice none 0 0]), 6, 88) := by kernel_rfl
def ToExEnd (d : Nat) (t : Ex) (w : World) (e : Ending) (w' : World) : Prop :=
  ∃ v' fp, e = .returned v' ∧ ExOwn w' d v' t fp ∧ Fp w.heap.size w'.heap.size fp ∧ Below w.heap.size w w'
def ToExsEnd (d : Nat) (ts : List Ex) (w : World) (e : Ending) (w' : World) : Prop :=
  ∃ v' fp, e = .returned v' ∧ ExsOwn w' d v' ts fp ∧ Fp w.heap.size w'.heap.size fp ∧ Below w.heap.size w w'
def ToExSaid (d : Nat) : Prop := ∀ (v : Value) (t : Ex) (w : World), t.bulk ≤ 1048576 → ExAt w d v t →
  Calls Tryz.prog 10 #[v] w (ToExEnd d t w)
def ToExsSaid (d : Nat) : Prop := ∀ (v : Value) (ts : List Ex) (w : World), Ex.bulks ts ≤ 1048576 → ExsAt w d v ts →
  Calls Tryz.prog 31 #[v] w (ToExsEnd d ts w)

set_option maxRecDepth 100000 in
set_option maxHeartbeats 2000000 in
theorem toExs_step (d : Nat) (ih : ToExSaid d) : ToExsSaid d := by
  intro v ts w hn h
  have IH := Lib.hid ih; clear ih
  obtain ⟨i0, hi, hz0, hz1, hz2⟩ := info_parts info_ex
  have hlen := Ex.length_le ts
  obtain ⟨a, cap, rfl, hcap, hcap2, hat⟩ := h
  have HAT := Lib.hid hat; clear hat
  go_enter Tryz.func31, Tryz.ntmps31
  go_wp2_with (at_make; refine wpList_make_full _ rfl _ _ 38 rfl w.heap.size 40 i0 (.agg #[.int .i64 0, .string ⟨#[]⟩, .int .i64 0, .int .i64 0, .slice none 0 0, .slice none 0 0]) 6 Tryz.underlying38 hi hz0 hz1 .i64 .i64 _ _ ts.length rfl rfl rfl rfl (by rw [hz2]; omega) (by unfold maxLen; omega) (Nat.le_refl _) ?_; intro w0 hown0 hg0; refine Hid.out ?_)
  refine Lib.hid ?_
  have HB0 := Lib.hid ((Below.refl w.heap.size w).grown hg0 (Nat.le_refl _) (fun k hk => by cases hk))
  have HO0 := Lib.hid hown0
  clear hown0 hg0 hi hz0 hz1 hz2
  go_wp2_with fail
  go_loopw [4] (fun i wr => ∃ (k : Nat) (cs : List Value) (fps : List (List Nat)), k ≤ ts.length ∧ i = .int .i64 k ∧ wr.ownsRow w.heap.size 40 6 (.slice (some ⟨w.heap.size, 0, none⟩) ts.length ts.length) ts.length cs ∧
      fps.length = k ∧ Fp (w.heap.size + 1) wr.heap.size (List.flatten fps) ∧ (∀ j (h : j < ts.length), j < k → ∃ c0 c1 c2 c3 c4 c5 f, cs[j * 6]? = some c0 ∧ cs[j * 6 + 1]? = some c1 ∧ cs[j * 6 + 2]? = some c2 ∧ cs[j * 6 + 3]? = some c3 ∧ cs[j * 6 + 4]? = some c4 ∧ cs[j * 6 + 5]? = some c5 ∧ fps[j]? = some f ∧ ExOwn wr d (.agg #[c0, c1, c2, c3, c4, c5]) ts[j] f) ∧ Below w.heap.size w wr) (fun i _ => ts.length - (intOf i).toNat)
  case atStart => exact ⟨0, _, [], by omega, rfl, HO0.out, rfl, Fp.nil _ _, fun j h h2 => by omega, HB0.out⟩
  case round =>
    obtain ⟨k, cs, fps, hk, rfl, hown, hfl, hfp, hdone, hb⟩ := hrel
    have HF := Lib.hid hfp; clear hfp
    have HL := Lib.hid hfl; clear hfl
    have HO := Lib.hid hown
    have HD := Lib.hid hdone; clear hdone
    have HB := Lib.hid hb; clear hb
    have hgl := (hown.lt w.heap.size rfl).2
    clear hown
    by_cases hlt : k < ts.length
    · obtain ⟨b, off, x0, x1, x2, x3, x4, x5, rfl, hbl, hc0, hc1, hc2, hc3, hc4, hc5, ht⟩ := HAT.out k hlt
      have hg := Ex.bulk_get ts k hlt
      have e0 : wr.cell? ⟨b, off + k * 6, none⟩ = some x0 := by rw [HB.out.cell (p := ⟨b, off + k * 6, none⟩) hbl]; exact hc0
      have e1 : wr.cell? ⟨b, off + k * 6 + 1, none⟩ = some x1 := by rw [HB.out.cell (p := ⟨b, off + k * 6 + 1, none⟩) hbl]; exact hc1
      have e2 : wr.cell? ⟨b, off + k * 6 + 2, none⟩ = some x2 := by rw [HB.out.cell (p := ⟨b, off + k * 6 + 2, none⟩) hbl]; exact hc2
      have e3 : wr.cell? ⟨b, off + k * 6 + 3, none⟩ = some x3 := by rw [HB.out.cell (p := ⟨b, off + k * 6 + 3, none⟩) hbl]; exact hc3
      have e4 : wr.cell? ⟨b, off + k * 6 + 4, none⟩ = some x4 := by rw [HB.out.cell (p := ⟨b, off + k * 6 + 4, none⟩) hbl]; exact hc4
      have e5 : wr.cell? ⟨b, off + k * 6 + 5, none⟩ = some x5 := by rw [HB.out.cell (p := ⟨b, off + k * 6 + 5, none⟩) hbl]; exact hc5
      have HT := Lib.hid (ht.below HB.out)
      clear ht hc0 hc1 hc2 hc3 hc4 hc5
      go_wp2_with fail
      refine (IH.out _ _ wr (by omega) HT.out).mono ?_
      rintro e w' ⟨v2, fp, rfl, ht, hfp, hb1⟩
      have HF1 := Lib.hid hfp; clear hfp
      have HO1 := Lib.hid (own_below HO.out hb1); clear HO
      have hz1 := hb1.size
      obtain ⟨zk, znm, zn, ztk, zta, ztn, ztc, za, zm, zc, rfl⟩ := ex_parts ht.at_
      have HY := Lib.hid ht
      clear ht
      have hcs : cs.length = ts.length * 6 := HO1.out.1
      obtain ⟨u0v, p0⟩ : ∃ u, w'.cell? ⟨w.heap.size, k * 6, none⟩ = some u := by
        rw [HO1.out.cellAt (k * 6) (by omega)]
        exact ⟨_, List.getElem?_eq_getElem (by rw [HO1.out.1]; omega)⟩
      have f0 := HO1.out.frozenAt (k * 6)
      obtain ⟨u1v, p1⟩ : ∃ u, w'.cell? ⟨w.heap.size, k * 6 + 1, none⟩ = some u := by
        rw [HO1.out.cellAt (k * 6 + 1) (by omega)]
        exact ⟨_, List.getElem?_eq_getElem (by rw [HO1.out.1]; omega)⟩
      have f1 := HO1.out.frozenAt (k * 6 + 1)
      obtain ⟨u2v, p2⟩ : ∃ u, w'.cell? ⟨w.heap.size, k * 6 + 2, none⟩ = some u := by
        rw [HO1.out.cellAt (k * 6 + 2) (by omega)]
        exact ⟨_, List.getElem?_eq_getElem (by rw [HO1.out.1]; omega)⟩
      have f2 := HO1.out.frozenAt (k * 6 + 2)
      obtain ⟨u3v, p3⟩ : ∃ u, w'.cell? ⟨w.heap.size, k * 6 + 3, none⟩ = some u := by
        rw [HO1.out.cellAt (k * 6 + 3) (by omega)]
        exact ⟨_, List.getElem?_eq_getElem (by rw [HO1.out.1]; omega)⟩
      have f3 := HO1.out.frozenAt (k * 6 + 3)
      obtain ⟨u4v, p4⟩ : ∃ u, w'.cell? ⟨w.heap.size, k * 6 + 4, none⟩ = some u := by
        rw [HO1.out.cellAt (k * 6 + 4) (by omega)]
        exact ⟨_, List.getElem?_eq_getElem (by rw [HO1.out.1]; omega)⟩
      have f4 := HO1.out.frozenAt (k * 6 + 4)
      obtain ⟨u5v, p5⟩ : ∃ u, w'.cell? ⟨w.heap.size, k * 6 + 5, none⟩ = some u := by
        rw [HO1.out.cellAt (k * 6 + 5) (by omega)]
        exact ⟨_, List.getElem?_eq_getElem (by rw [HO1.out.1]; omega)⟩
      have f5 := HO1.out.frozenAt (k * 6 + 5)
      have HB1 := Lib.hid hb1; clear hb1
      have HCS := Lib.hid hcs; clear hcs
      go_wp2_with fail
      have hcs := HCS.out
      have hs0 := HO1.out.stored (k * 6) (.int .i64 zk)
      have hs1 := hs0.1.stored (k * 6 + 1) (.string znm)
      have hs2 := hs1.1.stored (k * 6 + 2) (.int .i64 zn)
      have hs3 := hs2.1.stored (k * 6 + 3) (.int .i64 ztk)
      have hs4 := hs3.1.stored (k * 6 + 4) (.slice zta ztn ztc)
      have hs5 := hs4.1.stored (k * 6 + 5) (.slice za zm zc)
      have hkeep : ∀ b, w.heap.size + 1 ≤ b → ((((((w'.setCell ⟨w.heap.size, k * 6, none⟩ (.int .i64 zk)).setCell ⟨w.heap.size, k * 6 + 1, none⟩ (.string znm)).setCell ⟨w.heap.size, k * 6 + 2, none⟩ (.int .i64 zn)).setCell ⟨w.heap.size, k * 6 + 3, none⟩ (.int .i64 ztk)).setCell ⟨w.heap.size, k * 6 + 4, none⟩ (.slice zta ztn ztc)).setCell ⟨w.heap.size, k * 6 + 5, none⟩ (.slice za zm zc)).heap[b]? = w'.heap[b]? := fun b h1 => by
        rw [heap_setCell_other _ _ _ _ (by simp; omega), heap_setCell_other _ _ _ _ (by simp; omega), heap_setCell_other _ _ _ _ (by simp; omega), heap_setCell_other _ _ _ _ (by simp; omega), heap_setCell_other _ _ _ _ (by simp; omega), heap_setCell_other _ _ _ _ (by simp; omega)]
      have hF := HF.out
      have hF1 := HF1.out
      have hL := HL.out
      have hzz : ((((((w'.setCell ⟨w.heap.size, k * 6, none⟩ (.int .i64 zk)).setCell ⟨w.heap.size, k * 6 + 1, none⟩ (.string znm)).setCell ⟨w.heap.size, k * 6 + 2, none⟩ (.int .i64 zn)).setCell ⟨w.heap.size, k * 6 + 3, none⟩ (.int .i64 ztk)).setCell ⟨w.heap.size, k * 6 + 4, none⟩ (.slice zta ztn ztc)).setCell ⟨w.heap.size, k * 6 + 5, none⟩ (.slice za zm zc)).heap.size = w'.heap.size := by simp
      refine ⟨⟨k + 1, _, fps ++ [fp], by omega, by go_num, hs5.1, by simp [hL], ?_, ?_, ((((((HB.out.trans (HB1.out.mono HB.out.size)).setCell (Nat.le_refl _) _).setCell (Nat.le_refl _) _).setCell (Nat.le_refl _) _).setCell (Nat.le_refl _) _).setCell (Nat.le_refl _) _).setCell (Nat.le_refl _) _⟩, by simp [intOf]; omega⟩
      · rw [hzz, List.flatten_append, List.flatten_cons, List.flatten_nil, List.append_nil]
        exact hF.join hF1 (by omega) hz1
      · intro j hj hjk
        by_cases hjk2 : j = k
        · subst hjk2
          refine ⟨_, _, _, _, _, _, fp, (by rw [List.getElem?_set_ne (by omega), List.getElem?_set_ne (by omega), List.getElem?_set_ne (by omega), List.getElem?_set_ne (by omega), List.getElem?_set_ne (by omega), List.getElem?_set_self (by first | omega | (simp only [List.length_set]; omega))]), (by rw [List.getElem?_set_ne (by omega), List.getElem?_set_ne (by omega), List.getElem?_set_ne (by omega), List.getElem?_set_ne (by omega), List.getElem?_set_self (by first | omega | (simp only [List.length_set]; omega))]), (by rw [List.getElem?_set_ne (by omega), List.getElem?_set_ne (by omega), List.getElem?_set_ne (by omega), List.getElem?_set_self (by first | omega | (simp only [List.length_set]; omega))]), (by rw [List.getElem?_set_ne (by omega), List.getElem?_set_ne (by omega), List.getElem?_set_self (by first | omega | (simp only [List.length_set]; omega))]), (by rw [List.getElem?_set_ne (by omega), List.getElem?_set_self (by first | omega | (simp only [List.length_set]; omega))]), (by rw [List.getElem?_set_self (by first | omega | (simp only [List.length_set]; omega))]), ?_, HY.out.kept (by simp) fun b hb => hkeep b ?_⟩
          · rw [List.getElem?_append_right (by omega), hL]; simp
          · have := (hF1.2 b hb).1; omega
        · obtain ⟨c0, c1, c2, c3, c4, c5, f, hc0, hc1, hc2, hc3, hc4, hc5, hfj, hty⟩ := HD.out j hj (by omega)
          have hsub : ∀ b, b ∈ f → b ∈ fps.flatten := fun b hb => List.mem_flatten.2 ⟨f, List.mem_of_getElem? hfj, hb⟩
          refine ⟨c0, c1, c2, c3, c4, c5, f, (by rw [List.getElem?_set_ne (by omega), List.getElem?_set_ne (by omega), List.getElem?_set_ne (by omega), List.getElem?_set_ne (by omega), List.getElem?_set_ne (by omega), List.getElem?_set_ne (by omega)]; exact hc0), (by rw [List.getElem?_set_ne (by omega), List.getElem?_set_ne (by omega), List.getElem?_set_ne (by omega), List.getElem?_set_ne (by omega), List.getElem?_set_ne (by omega), List.getElem?_set_ne (by omega)]; exact hc1), (by rw [List.getElem?_set_ne (by omega), List.getElem?_set_ne (by omega), List.getElem?_set_ne (by omega), List.getElem?_set_ne (by omega), List.getElem?_set_ne (by omega), List.getElem?_set_ne (by omega)]; exact hc2), (by rw [List.getElem?_set_ne (by omega), List.getElem?_set_ne (by omega), List.getElem?_set_ne (by omega), List.getElem?_set_ne (by omega), List.getElem?_set_ne (by omega), List.getElem?_set_ne (by omega)]; exact hc3), (by rw [List.getElem?_set_ne (by omega), List.getElem?_set_ne (by omega), List.getElem?_set_ne (by omega), List.getElem?_set_ne (by omega), List.getElem?_set_ne (by omega), List.getElem?_set_ne (by omega)]; exact hc4), (by rw [List.getElem?_set_ne (by omega), List.getElem?_set_ne (by omega), List.getElem?_set_ne (by omega), List.getElem?_set_ne (by omega), List.getElem?_set_ne (by omega), List.getElem?_set_ne (by omega)]; exact hc5), ?_, hty.kept (by simp; omega) fun b hb => ?_⟩
          · rw [List.getElem?_append_left (by omega)]; exact hfj
          · have hb2 := hF.2 b (hsub b hb)
            rw [hkeep b hb2.1]; exact HB1.out.block b hb2.2
    · have hkk : k = ts.length := by omega
      subst hkk
      go_wp2_with fail
      go_ret
      refine ⟨_, [w.heap.size] ++ fps.flatten, rfl, ⟨_, _, [w.heap.size], fps, rfl, Nat.le_refl _, by omega, HL.out, rfl, fun b hb => by cases List.mem_singleton.1 hb; exact hgl, fun j hj => ?_⟩, (Fp.one (Nat.le_refl _) (Nat.lt_succ_self _)).join HF.out (by omega) (by omega), HB.out⟩
      obtain ⟨c0, c1, c2, c3, c4, c5, f, hc0, hc1, hc2, hc3, hc4, hc5, hfj, hty⟩ := HD.out j hj hj
      refine ⟨w.heap.size, 0, c0, c1, c2, c3, c4, c5, f, rfl, rfl, hgl, (by rw [Nat.zero_add, HO.out.cellAt (j * 6) (by omega)]; exact hc0), (by rw [Nat.zero_add, HO.out.cellAt (j * 6 + 1) (by omega)]; exact hc1), (by rw [Nat.zero_add, HO.out.cellAt (j * 6 + 2) (by omega)]; exact hc2), (by rw [Nat.zero_add, HO.out.cellAt (j * 6 + 3) (by omega)]; exact hc3), (by rw [Nat.zero_add, HO.out.cellAt (j * 6 + 4) (by omega)]; exact hc4), (by rw [Nat.zero_add, HO.out.cellAt (j * 6 + 5) (by omega)]; exact hc5), fun o => HO.out.frozenAt o, hfj, hty⟩

set_option maxRecDepth 100000 in
set_option maxHeartbeats 2000000 in
theorem toEx_step (d : Nat) (ih : ToExsSaid d) : ToExSaid (d + 1) := by
  intro v t w hn h
  have IH := Lib.hid ih; clear ih
  have HV := ex_parts h
  cases t with
  | node kd nm n ty ts =>
    obtain ⟨c3, c4, sl, rfl, hk0, hk1, hn0, hn1, hnm, hty, h⟩ := h
    obtain ⟨k', nm', n', tk, ta, tn, tc, sa, sn, sc, hv⟩ := HV
    injection hv with hv
    injection hv with hv
    simp at hv
    obtain ⟨rfl, rfl, rfl, rfl, rfl, rfl⟩ := hv
    have hbk : (Ex.node kd nm n ty ts).bulk = nm.size + (ty.size - 1) + Ex.bulks ts := rfl
    have hsz1 : ty.size ≤ 1048577 := by omega
    have hsz2 : Ex.bulks ts ≤ 1048576 := by omega
    clear hn hbk
    have B : Hid (Below w.heap.size w (((w.alloc (.cells #[.int .i64 kd, .string nm, .int .i64 n, .int .i64 tk, .slice ta tn tc, .slice sa sn sc] 28)).alloc (.cells #[.int .i64 0, .string ⟨#[]⟩, .int .i64 0, .int .i64 0, .slice none 0 0, .slice none 0 0] 40)).alloc (.cells #[.int .i64 kd, .string nm, .int .i64 n, .int .i64 0, .slice none 0 0, .slice none 0 0] 40))) := (((Below.refl _ _).alloc (Nat.le_refl _) _).alloc (by simp) _).alloc (by simp; omega) _
    have HTY := Lib.hid (hty.below B.out)
    have HTW : Hid (ExsAt w d (.slice sa sn sc) ts) := h
    have XA : Hid (BoxAt (((w.alloc (.cells #[.int .i64 kd, .string nm, .int .i64 n, .int .i64 tk, .slice ta tn tc, .slice sa sn sc] 28)).alloc (.cells #[.int .i64 0, .string ⟨#[]⟩, .int .i64 0, .int .i64 0, .slice none 0 0, .slice none 0 0] 40)).alloc (.cells #[.int .i64 kd, .string nm, .int .i64 n, .int .i64 0, .slice none 0 0, .slice none 0 0] 40)) w.heap.size #[.int .i64 kd, .string nm, .int .i64 n, .int .i64 tk, .slice ta tn tc, .slice sa sn sc]) := ((BoxAt.new _ _ _).below (below_alloc _ _)).below (below_alloc _ _)
    have XR : Hid (BoxAt (((w.alloc (.cells #[.int .i64 kd, .string nm, .int .i64 n, .int .i64 tk, .slice ta tn tc, .slice sa sn sc] 28)).alloc (.cells #[.int .i64 0, .string ⟨#[]⟩, .int .i64 0, .int .i64 0, .slice none 0 0, .slice none 0 0] 40)).alloc (.cells #[.int .i64 kd, .string nm, .int .i64 n, .int .i64 0, .slice none 0 0, .slice none 0 0] 40)) (w.heap.size + 1) #[.int .i64 0, .string ⟨#[]⟩, .int .i64 0, .int .i64 0, .slice none 0 0, .slice none 0 0]) := (box_at (BoxAt.new _ _ _) (by simp)).below (below_alloc _ _)
    have XO : Hid (BoxAt (((w.alloc (.cells #[.int .i64 kd, .string nm, .int .i64 n, .int .i64 tk, .slice ta tn tc, .slice sa sn sc] 28)).alloc (.cells #[.int .i64 0, .string ⟨#[]⟩, .int .i64 0, .int .i64 0, .slice none 0 0, .slice none 0 0] 40)).alloc (.cells #[.int .i64 kd, .string nm, .int .i64 n, .int .i64 0, .slice none 0 0, .slice none 0 0] 40)) (w.heap.size + 1 + 1) #[.int .i64 kd, .string nm, .int .i64 n, .int .i64 0, .slice none 0 0, .slice none 0 0]) := box_at (BoxAt.new _ _ _) (by simp)
    have FR : Hid (FreeAt (((w.alloc (.cells #[.int .i64 kd, .string nm, .int .i64 n, .int .i64 tk, .slice ta tn tc, .slice sa sn sc] 28)).alloc (.cells #[.int .i64 0, .string ⟨#[]⟩, .int .i64 0, .int .i64 0, .slice none 0 0, .slice none 0 0] 40)).alloc (.cells #[.int .i64 kd, .string nm, .int .i64 n, .int .i64 0, .slice none 0 0, .slice none 0 0] 40)) (w.heap.size + 1)) := (free_at (FreeAt.new _ _ _) (by simp)).below (below_alloc _ _)
    have FO : Hid (FreeAt (((w.alloc (.cells #[.int .i64 kd, .string nm, .int .i64 n, .int .i64 tk, .slice ta tn tc, .slice sa sn sc] 28)).alloc (.cells #[.int .i64 0, .string ⟨#[]⟩, .int .i64 0, .int .i64 0, .slice none 0 0, .slice none 0 0] 40)).alloc (.cells #[.int .i64 kd, .string nm, .int .i64 n, .int .i64 0, .slice none 0 0, .slice none 0 0] 40)) (w.heap.size + 1 + 1)) := free_at (FreeAt.new _ _ _) (by simp)
    have hz0 : (((w.alloc (.cells #[.int .i64 kd, .string nm, .int .i64 n, .int .i64 tk, .slice ta tn tc, .slice sa sn sc] 28)).alloc (.cells #[.int .i64 0, .string ⟨#[]⟩, .int .i64 0, .int .i64 0, .slice none 0 0, .slice none 0 0] 40)).alloc (.cells #[.int .i64 kd, .string nm, .int .i64 n, .int .i64 0, .slice none 0 0, .slice none 0 0] 40)).heap.size = w.heap.size + 3 := by simp
    clear hty h
    go_enter Tryz.func10, Tryz.ntmps10
    go_wp2_with fail
    refine ((toTy_all d).1 _ ty _ hsz1 HTY.out).mono ?_
    rintro e w1 ⟨v1, f1, rfl, ht, hf1, hb⟩
    have hz1 := hb.size
    rw [hz0] at hz1 hf1
    obtain ⟨gk, ga, gn, gc, rfl, HG⟩ := ty_parts ht
    have F1 := Lib.hid hf1
    replace B := Lib.hid (below_thru B.out (Nat.le_refl _) hb)
    replace XA := Lib.hid (XA.out.below hb)
    replace XR := Lib.hid (XR.out.below hb)
    replace XO := Lib.hid (XO.out.below hb)
    replace FR := Lib.hid (FR.out.below hb)
    replace FO := Lib.hid (FO.out.below hb)
    clear ht hf1 hb HTY
    have BS : Hid (Below w.heap.size w ((w1.setCell ⟨w.heap.size + 1 + 1, 3, none⟩ (.int .i64 gk)).setCell ⟨w.heap.size + 1 + 1, 4, none⟩ (.slice ga gn gc))) := (B.out.setCell (by simp; omega) _).setCell (by simp; omega) _
    have HTS := Lib.hid (HTW.out.below BS.out)
    have XO1 : Hid (BoxAt ((w1.setCell ⟨w.heap.size + 1 + 1, 3, none⟩ (.int .i64 gk)).setCell ⟨w.heap.size + 1 + 1, 4, none⟩ (.slice ga gn gc)) (w.heap.size + 1 + 1) #[.int .i64 kd, .string nm, .int .i64 n, .int .i64 gk, .slice ga gn gc, .slice none 0 0]) := by
      have := (XO.out.put (j := 3) (u := .int .i64 gk) (by simp)).put (j := 4) (u := .slice ga gn gc) (by simp)
      exact this
    have XR1 : Hid (BoxAt ((w1.setCell ⟨w.heap.size + 1 + 1, 3, none⟩ (.int .i64 gk)).setCell ⟨w.heap.size + 1 + 1, 4, none⟩ (.slice ga gn gc)) (w.heap.size + 1) #[.int .i64 0, .string ⟨#[]⟩, .int .i64 0, .int .i64 0, .slice none 0 0, .slice none 0 0]) := (XR.out.stored (by omega)).stored (by omega)
    have XA1 : Hid (BoxAt ((w1.setCell ⟨w.heap.size + 1 + 1, 3, none⟩ (.int .i64 gk)).setCell ⟨w.heap.size + 1 + 1, 4, none⟩ (.slice ga gn gc)) w.heap.size #[.int .i64 kd, .string nm, .int .i64 n, .int .i64 tk, .slice ta tn tc, .slice sa sn sc]) := (XA.out.stored (by omega)).stored (by omega)
    have FR1 : Hid (FreeAt ((w1.setCell ⟨w.heap.size + 1 + 1, 3, none⟩ (.int .i64 gk)).setCell ⟨w.heap.size + 1 + 1, 4, none⟩ (.slice ga gn gc)) (w.heap.size + 1)) := FR.out.put.put
    have FO1 : Hid (FreeAt ((w1.setCell ⟨w.heap.size + 1 + 1, 3, none⟩ (.int .i64 gk)).setCell ⟨w.heap.size + 1 + 1, 4, none⟩ (.slice ga gn gc)) (w.heap.size + 1 + 1)) := FO.out.put.put
    have hs1 : ((w1.setCell ⟨w.heap.size + 1 + 1, 3, none⟩ (.int .i64 gk)).setCell ⟨w.heap.size + 1 + 1, 4, none⟩ (.slice ga gn gc)).heap.size = w1.heap.size := by simp
    have K1 : Hid (∀ b, w.heap.size + 3 ≤ b → ((w1.setCell ⟨w.heap.size + 1 + 1, 3, none⟩ (.int .i64 gk)).setCell ⟨w.heap.size + 1 + 1, 4, none⟩ (.slice ga gn gc)).heap[b]? = w1.heap[b]?) := fun b hb => by rw [heap_setCell_other _ _ _ _ (by simp; omega), heap_setCell_other _ _ _ _ (by simp; omega)]
    have a5 := XA.out.2 5
    have o3 := XO.out.2 3
    have o4 := XO.out.2 4
    have u3 := FO.out.2 3
    have u4 := FO.out.2 4
    have a5' := XA1.out.2 5
    go_wp2_with fail
    clear a5 o3 o4 u3 u4 a5' XA XR XO FR FO
    refine (IH.out _ ts _ hsz2 HTS.out).mono ?_
    rintro e w2 ⟨v2, f2, rfl, ht, hf2, hb⟩
    have hz2 := hb.size
    rw [hs1] at hz2 hf2
    have HE := Lib.hid ht
    obtain ⟨ea, ec, hd9, fps9, rfl, _⟩ := ht
    have F2 := Lib.hid hf2
    have BF := Lib.hid (below_thru BS.out (Nat.le_refl _) hb)
    have XO2 := Lib.hid (XO1.out.below hb)
    have XR2 := Lib.hid (XR1.out.below hb)
    have FR2 := Lib.hid (FR1.out.below hb)
    have FO2 := Lib.hid (FO1.out.below hb)
    have K2 : Hid (∀ b, b < w1.heap.size → w2.heap[b]? = ((w1.setCell ⟨w.heap.size + 1 + 1, 3, none⟩ (.int .i64 gk)).setCell ⟨w.heap.size + 1 + 1, 4, none⟩ (.slice ga gn gc)).heap[b]?) := fun b h1 => hb.block b (by rw [hs1]; exact h1)
    clear hf2 hb XO1 XR1 XA1 FR1 FO1 HTS
    have o0 := XO2.out.2 0
    have u0 := FO2.out.2 0
    have r0 := XR2.out.2 0
    have s0 := FR2.out.2 0
    have o1 := XO2.out.2 1
    have u1 := FO2.out.2 1
    have r1 := XR2.out.2 1
    have s1 := FR2.out.2 1
    have o2 := XO2.out.2 2
    have u2 := FO2.out.2 2
    have r2 := XR2.out.2 2
    have s2 := FR2.out.2 2
    have o3 := XO2.out.2 3
    have u3 := FO2.out.2 3
    have r3 := XR2.out.2 3
    have s3 := FR2.out.2 3
    have o4 := XO2.out.2 4
    have u4 := FO2.out.2 4
    have r4 := XR2.out.2 4
    have s4 := FR2.out.2 4
    have o5 := XO2.out.2 5
    have u5 := FO2.out.2 5
    have r5 := XR2.out.2 5
    have s5 := FR2.out.2 5
    go_wp2_with fail
    have XRF : BoxAt (((((((w2.setCell ⟨w.heap.size + 1 + 1, 5, none⟩ (.slice ea ts.length ec)).setCell ⟨w.heap.size + 1, 0, none⟩ (.int .i64 kd)).setCell ⟨w.heap.size + 1, 1, none⟩ (.string nm)).setCell ⟨w.heap.size + 1, 2, none⟩ (.int .i64 n)).setCell ⟨w.heap.size + 1, 3, none⟩ (.int .i64 gk)).setCell ⟨w.heap.size + 1, 4, none⟩ (.slice ga gn gc)).setCell ⟨w.heap.size + 1, 5, none⟩ (.slice ea ts.length ec)) (w.heap.size + 1) #[.int .i64 kd, .string nm, .int .i64 n, .int .i64 gk, .slice ga gn gc, .slice ea ts.length ec] := by
      have := ((((((XR2.out.stored (q := w.heap.size + 1 + 1) (j := 5) (u := .slice ea ts.length ec) (by omega)).put (j := 0) (u := .int .i64 kd) (by simp)).put (j := 1) (u := .string nm) (by simp)).put (j := 2) (u := .int .i64 n) (by simp)).put (j := 3) (u := .int .i64 gk) (by simp)).put (j := 4) (u := .slice ga gn gc) (by simp)).put (j := 5) (u := .slice ea ts.length ec) (by simp)
      exact this
    have K3 : ∀ b, w.heap.size + 3 ≤ b → (((((((w2.setCell ⟨w.heap.size + 1 + 1, 5, none⟩ (.slice ea ts.length ec)).setCell ⟨w.heap.size + 1, 0, none⟩ (.int .i64 kd)).setCell ⟨w.heap.size + 1, 1, none⟩ (.string nm)).setCell ⟨w.heap.size + 1, 2, none⟩ (.int .i64 n)).setCell ⟨w.heap.size + 1, 3, none⟩ (.int .i64 gk)).setCell ⟨w.heap.size + 1, 4, none⟩ (.slice ga gn gc)).setCell ⟨w.heap.size + 1, 5, none⟩ (.slice ea ts.length ec)).heap[b]? = w2.heap[b]? := fun b hb => by
      rw [heap_setCell_other _ _ _ _ (by simp; omega), heap_setCell_other _ _ _ _ (by simp; omega), heap_setCell_other _ _ _ _ (by simp; omega), heap_setCell_other _ _ _ _ (by simp; omega), heap_setCell_other _ _ _ _ (by simp; omega), heap_setCell_other _ _ _ _ (by simp; omega), heap_setCell_other _ _ _ _ (by simp; omega)]
    have hzf : (((((((w2.setCell ⟨w.heap.size + 1 + 1, 5, none⟩ (.slice ea ts.length ec)).setCell ⟨w.heap.size + 1, 0, none⟩ (.int .i64 kd)).setCell ⟨w.heap.size + 1, 1, none⟩ (.string nm)).setCell ⟨w.heap.size + 1, 2, none⟩ (.int .i64 n)).setCell ⟨w.heap.size + 1, 3, none⟩ (.int .i64 gk)).setCell ⟨w.heap.size + 1, 4, none⟩ (.slice ga gn gc)).setCell ⟨w.heap.size + 1, 5, none⟩ (.slice ea ts.length ec)).heap.size = w2.heap.size := by simp
    have hbF : Below w.heap.size w (((((((w2.setCell ⟨w.heap.size + 1 + 1, 5, none⟩ (.slice ea ts.length ec)).setCell ⟨w.heap.size + 1, 0, none⟩ (.int .i64 kd)).setCell ⟨w.heap.size + 1, 1, none⟩ (.string nm)).setCell ⟨w.heap.size + 1, 2, none⟩ (.int .i64 n)).setCell ⟨w.heap.size + 1, 3, none⟩ (.int .i64 gk)).setCell ⟨w.heap.size + 1, 4, none⟩ (.slice ga gn gc)).setCell ⟨w.heap.size + 1, 5, none⟩ (.slice ea ts.length ec)) := ((((((BF.out.setCell (by simp; omega) _).setCell (by simp) _).setCell (by simp) _).setCell (by simp) _).setCell (by simp) _).setCell (by simp) _).setCell (by simp) _
    have g0 := XRF.2 0
    have g1 := XRF.2 1
    have g2 := XRF.2 2
    have g3 := XRF.2 3
    have g4 := XRF.2 4
    have g5 := XRF.2 5
    clear XRF
    have HY : TyOwn (((((((w2.setCell ⟨w.heap.size + 1 + 1, 5, none⟩ (.slice ea ts.length ec)).setCell ⟨w.heap.size + 1, 0, none⟩ (.int .i64 kd)).setCell ⟨w.heap.size + 1, 1, none⟩ (.string nm)).setCell ⟨w.heap.size + 1, 2, none⟩ (.int .i64 n)).setCell ⟨w.heap.size + 1, 3, none⟩ (.int .i64 gk)).setCell ⟨w.heap.size + 1, 4, none⟩ (.slice ga gn gc)).setCell ⟨w.heap.size + 1, 5, none⟩ (.slice ea ts.length ec)) d (.agg #[.int .i64 gk, .slice ga gn gc]) ty f1 := HG.out.kept (by rw [hzf]; exact hz2) fun b hb => by
      have hq := F1.out.2 b hb
      rw [K3 b hq.1, K2.out b hq.2, K1.out b hq.1]
    have HE2 : ExsOwn (((((((w2.setCell ⟨w.heap.size + 1 + 1, 5, none⟩ (.slice ea ts.length ec)).setCell ⟨w.heap.size + 1, 0, none⟩ (.int .i64 kd)).setCell ⟨w.heap.size + 1, 1, none⟩ (.string nm)).setCell ⟨w.heap.size + 1, 2, none⟩ (.int .i64 n)).setCell ⟨w.heap.size + 1, 3, none⟩ (.int .i64 gk)).setCell ⟨w.heap.size + 1, 4, none⟩ (.slice ga gn gc)).setCell ⟨w.heap.size + 1, 5, none⟩ (.slice ea ts.length ec)) d (.slice ea ts.length ec) ts f2 := ExsOwn.kept HE.out (by rw [hzf]; exact Nat.le_refl _) fun b hb => K3 b (by have := (F2.out.2 b hb).1; omega)
    have hfp : Fp w.heap.size (((((((w2.setCell ⟨w.heap.size + 1 + 1, 5, none⟩ (.slice ea ts.length ec)).setCell ⟨w.heap.size + 1, 0, none⟩ (.int .i64 kd)).setCell ⟨w.heap.size + 1, 1, none⟩ (.string nm)).setCell ⟨w.heap.size + 1, 2, none⟩ (.int .i64 n)).setCell ⟨w.heap.size + 1, 3, none⟩ (.int .i64 gk)).setCell ⟨w.heap.size + 1, 4, none⟩ (.slice ga gn gc)).setCell ⟨w.heap.size + 1, 5, none⟩ (.slice ea ts.length ec)).heap.size (f1 ++ f2) := by rw [hzf]; exact (F1.out.join F2.out hz1 hz2).mono (by omega) (Nat.le_refl _)
    generalize (((((((w2.setCell ⟨w.heap.size + 1 + 1, 5, none⟩ (.slice ea ts.length ec)).setCell ⟨w.heap.size + 1, 0, none⟩ (.int .i64 kd)).setCell ⟨w.heap.size + 1, 1, none⟩ (.string nm)).setCell ⟨w.heap.size + 1, 2, none⟩ (.int .i64 n)).setCell ⟨w.heap.size + 1, 3, none⟩ (.int .i64 gk)).setCell ⟨w.heap.size + 1, 4, none⟩ (.slice ga gn gc)).setCell ⟨w.heap.size + 1, 5, none⟩ (.slice ea ts.length ec)) = WX at g0 g1 g2 g3 g4 g5 HY HE2 hfp hbF ⊢
    refine bodyPost_ret (v := .agg #[.int .i64 kd, .string nm, .int .i64 n, .int .i64 gk, .slice ga gn gc, .slice ea ts.length ec]) (by simp [results, Tryz.results10, go_sem, g0, g1, g2, g3, g4, g5]) rfl ?_
    exact ⟨_, f1 ++ f2, rfl, ⟨_, _, _, f1, f2, rfl, hk0, hk1, hn0, hn1, hnm, rfl, HY, HE2⟩, hfp, hbF⟩
theorem toEx_all (d : Nat) : ToExSaid d ∧ ToExsSaid d := by
  induction d with
  | zero =>
    have h0 : ToExSaid 0 := fun v t w _ h => h.elim
    exact ⟨h0, toExs_step 0 h0⟩
  | succ d ih =>
    have h1 := toEx_step d ih.2
    exact ⟨h1, toExs_step (d + 1) h1⟩
end Go.Proofs.YteffjeejbdjjpaaGreatDoor
