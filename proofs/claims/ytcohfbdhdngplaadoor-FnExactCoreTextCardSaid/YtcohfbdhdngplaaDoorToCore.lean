/-
  Proved: laws.toCore, toCoreS, toCoreBind and toCoreBindS copy a core expression into new memory; they leave the memory that was there as it was.
-/
import Derived.Test.YtcohfbdhdngplaaDoorCoTree
import Derived.Test.YtcohfbdhdngplaaDoorToType
import Derived.Test.YtcohfbdhdngplaaDoorTwo
import Derived.Test.YtcohfbdhdngplaaDoorPut
namespace Go.Proofs.YtcohfbdhdngplaaDoor
open Go.RowKit

/-- Cells written one after another into block p, from cell j on. -/
def putAll (p : Nat) : Nat → List Value → World → World
  | _, [], w => w
  | j, u :: r, w => putAll p (j + 1) r (w.setCell ⟨p, j, none⟩ u)
theorem BoxAt.puts {p : Nat} : ∀ (us old pre : List Value) (w : World), BoxAt w p (pre ++ old).toArray → us.length = old.length → BoxAt (putAll p pre.length us w) p (pre ++ us).toArray
  | [], [], pre, w, h, _ => h
  | [], _ :: _, _, _, _, h => by simp at h
  | _ :: _, [], _, _, _, h => by simp at h
  | u :: r, o :: s, pre, w, h, hl => by
    have h1 := h.put (j := pre.length) (u := u) (by simp)
    have e1 : (pre ++ o :: s).toArray.setIfInBounds pre.length u = ((pre ++ [u]) ++ s).toArray := by simp
    rw [e1] at h1
    have h2 := BoxAt.puts r s (pre ++ [u]) _ h1 (by simpa using hl)
    rw [List.append_assoc, List.length_append] at h2
    exact h2
theorem info_co : (Tryd.prog.info? 67).map (fun i => (i.zero, i.size, i.bytes)) = some (some (.agg #[.int .i64 0, .string ⟨#[]⟩, .int .i64 0, .int .i64 0, .slice none 0 0, .int .i64 0, .slice none 0 0, .slice none 0 0, .slice none 0 0]), 9, 144) := by kernel_rfl
theorem info_cb : (Tryd.prog.info? 127).map (fun i => (i.zero, i.size, i.bytes)) = some (some (.agg #[.string ⟨#[]⟩, .int .i64 0, .string ⟨#[]⟩, .int .i64 0, .int .i64 0, .slice none 0 0, .int .i64 0, .slice none 0 0, .slice none 0 0, .slice none 0 0]), 10, 160) := by kernel_rfl
def ToCoEnd (d : Nat) (t : Co) (w : World) (e : Ending) (w' : World) : Prop :=
  ∃ v' fp, e = .returned v' ∧ CoOwn w' d v' t fp ∧ Fp w.heap.size w'.heap.size fp ∧ Below w.heap.size w w'
def ToCosEnd (d : Nat) (ts : List Co) (w : World) (e : Ending) (w' : World) : Prop :=
  ∃ v' fp, e = .returned v' ∧ CosOwn w' d v' ts fp ∧ Fp w.heap.size w'.heap.size fp ∧ Below w.heap.size w w'
def ToCbEnd (d : Nat) (nm : ByteArray) (t : Co) (w : World) (e : Ending) (w' : World) : Prop :=
  ∃ v' fp, e = .returned v' ∧ CbOwn w' d v' nm t fp ∧ Fp w.heap.size w'.heap.size fp ∧ Below w.heap.size w w'
def ToCbsEnd (d : Nat) (ns : List ByteArray) (ts : List Co) (w : World) (e : Ending) (w' : World) : Prop :=
  ∃ v' fp, e = .returned v' ∧ CbsOwn w' d v' ns ts fp ∧ Fp w.heap.size w'.heap.size fp ∧ Below w.heap.size w w'
def ToCoSaid (d : Nat) : Prop := ∀ (v : Value) (t : Co) (w : World), t.bulk ≤ 1048576 → CoAt w d v t →
  Calls Tryd.prog 28 #[v] w (ToCoEnd d t w)
def ToCosSaid (d : Nat) : Prop := ∀ (v : Value) (ts : List Co) (w : World), Co.bulks ts ≤ 1048576 → CosAt w d v ts →
  Calls Tryd.prog 61 #[v] w (ToCosEnd d ts w)
def ToCbSaid (d : Nat) : Prop := ∀ (v : Value) (nm : ByteArray) (t : Co) (w : World), t.bulk ≤ 1048576 → CbAt w d v nm t →
  Calls Tryd.prog 95 #[v] w (ToCbEnd d nm t w)
def ToCbsSaid (d : Nat) : Prop := ∀ (v : Value) (ns : List ByteArray) (ts : List Co) (w : World), Co.bulks ts ≤ 1048576 → CbsAt w d v ns ts →
  Calls Tryd.prog 62 #[v] w (ToCbsEnd d ns ts w)

set_option maxRecDepth 100000 in
set_option maxHeartbeats 4000000 in
theorem toCos_step (d : Nat) (ih : ToCoSaid d) : ToCosSaid d := by
  intro v ts w hn h
  have IH := Lib.hid ih; clear ih
  obtain ⟨i0, hi, hz0, hz1, hz2⟩ := info_parts info_co
  have hlen := Co.length_le ts
  obtain ⟨a, cap, rfl, hcap, hcap2, hat⟩ := h
  have HAT := Lib.hid hat; clear hat
  go_enter Tryd.func61, Tryd.ntmps61
  go_wp2_with (at_make; refine wpList_make_full _ rfl _ _ 64 rfl w.heap.size 67 i0 (.agg #[.int .i64 0, .string ⟨#[]⟩, .int .i64 0, .int .i64 0, .slice none 0 0, .int .i64 0, .slice none 0 0, .slice none 0 0, .slice none 0 0]) 9 Tryd.underlying64 hi hz0 hz1 .i64 .i64 _ _ ts.length rfl rfl rfl rfl (by rw [hz2]; omega) (by unfold maxLen; omega) (Nat.le_refl _) ?_; intro w0 hown0 hg0; refine Hid.out ?_)
  refine Lib.hid ?_
  have HB0 := Lib.hid ((Below.refl w.heap.size w).grown hg0 (Nat.le_refl _) (fun k hk => by cases hk))
  have HO0 := Lib.hid hown0
  clear hown0 hg0 hi hz0 hz1 hz2
  go_wp2_with fail
  go_loopw [4] (fun i wr => ∃ (k : Nat) (cs : List Value) (fps : List (List Nat)), k ≤ ts.length ∧ i = .int .i64 k ∧ wr.ownsRow w.heap.size 67 9 (.slice (some ⟨w.heap.size, 0, none⟩) ts.length ts.length) ts.length cs ∧
      fps.length = k ∧ Fp (w.heap.size + 1) wr.heap.size (List.flatten fps) ∧ (∀ j (h : j < ts.length), j < k → ∃ c0 c1 c2 c3 c4 c5 c6 c7 c8 f, cs[j * 9]? = some (c0) ∧ cs[j * 9 + 1]? = some (c1) ∧ cs[j * 9 + 2]? = some (c2) ∧ cs[j * 9 + 3]? = some (c3) ∧ cs[j * 9 + 4]? = some (c4) ∧ cs[j * 9 + 5]? = some (c5) ∧ cs[j * 9 + 6]? = some (c6) ∧ cs[j * 9 + 7]? = some (c7) ∧ cs[j * 9 + 8]? = some (c8) ∧ fps[j]? = some f ∧ CoOwn wr d (.agg #[c0, c1, c2, c3, c4, c5, c6, c7, c8]) ts[j] f) ∧ Below w.heap.size w wr) (fun i _ => ts.length - (intOf i).toNat)
  case atStart => exact ⟨0, _, [], by omega, rfl, HO0.out, rfl, Fp.nil _ _, fun j h h2 => by omega, HB0.out⟩
  case round =>
    obtain ⟨k, cs, fps, hk, rfl, hown, hfl, hfp, hdone, hb⟩ := hrel
    have HF := Lib.hid hfp; clear hfp
    have HL := Lib.hid hfl; clear hfl
    have HO := Lib.hid hown
    have HD := Lib.hid hdone; clear hdone
    have HB := Lib.hid hb; clear hb
    have hgl := (hown.lt w.heap.size rfl).2
    clear hown
    by_cases hlt : k < ts.length
    · obtain ⟨b, off, x0, x1, x2, x3, x4, x5, x6, x7, x8, rfl, hbl, hc0, hc1, hc2, hc3, hc4, hc5, hc6, hc7, hc8, ht⟩ := HAT.out k hlt
      have hg := Co.bulk_get ts k hlt
      have e0 : wr.cell? ⟨b, off + k * 9, none⟩ = some x0 := by rw [HB.out.cell (p := ⟨b, off + k * 9, none⟩) hbl]; exact hc0
      have e1 : wr.cell? ⟨b, off + k * 9 + 1, none⟩ = some x1 := by rw [HB.out.cell (p := ⟨b, off + k * 9 + 1, none⟩) hbl]; exact hc1
      have e2 : wr.cell? ⟨b, off + k * 9 + 2, none⟩ = some x2 := by rw [HB.out.cell (p := ⟨b, off + k * 9 + 2, none⟩) hbl]; exact hc2
      have e3 : wr.cell? ⟨b, off + k * 9 + 3, none⟩ = some x3 := by rw [HB.out.cell (p := ⟨b, off + k * 9 + 3, none⟩) hbl]; exact hc3
      have e4 : wr.cell? ⟨b, off + k * 9 + 4, none⟩ = some x4 := by rw [HB.out.cell (p := ⟨b, off + k * 9 + 4, none⟩) hbl]; exact hc4
      have e5 : wr.cell? ⟨b, off + k * 9 + 5, none⟩ = some x5 := by rw [HB.out.cell (p := ⟨b, off + k * 9 + 5, none⟩) hbl]; exact hc5
      have e6 : wr.cell? ⟨b, off + k * 9 + 6, none⟩ = some x6 := by rw [HB.out.cell (p := ⟨b, off + k * 9 + 6, none⟩) hbl]; exact hc6
      have e7 : wr.cell? ⟨b, off + k * 9 + 7, none⟩ = some x7 := by rw [HB.out.cell (p := ⟨b, off + k * 9 + 7, none⟩) hbl]; exact hc7
      have e8 : wr.cell? ⟨b, off + k * 9 + 8, none⟩ = some x8 := by rw [HB.out.cell (p := ⟨b, off + k * 9 + 8, none⟩) hbl]; exact hc8
      have HT := Lib.hid (ht.below HB.out)
      clear ht hc0 hc1 hc2 hc3 hc4 hc5 hc6 hc7 hc8
      go_wp2_with fail
      refine (IH.out _ _ wr (by omega) HT.out).mono ?_
      rintro e w' ⟨v2, fp, rfl, ht, hfp, hb1⟩
      have HF1 := Lib.hid hfp; clear hfp
      have HO1 := Lib.hid (own_below HO.out hb1); clear HO
      have hz1 := hb1.size
      obtain ⟨zk, znm, zn, zfk, zfa, zfn, zfc, ztk, zta, ztn, ztc, zsa, zsn, zsc, zea, zen, zec, rfl⟩ := co_parts ht.at_
      have HY := Lib.hid ht
      clear ht
      have hcs : cs.length = ts.length * 9 := HO1.out.1
      obtain ⟨u0v, p0⟩ : ∃ u, w'.cell? ⟨w.heap.size, k * 9, none⟩ = some u := by
        rw [HO1.out.cellAt (k * 9) (by omega)]
        exact ⟨_, List.getElem?_eq_getElem (by rw [HO1.out.1]; omega)⟩
      have f0 := HO1.out.frozenAt (k * 9)
      obtain ⟨u1v, p1⟩ : ∃ u, w'.cell? ⟨w.heap.size, k * 9 + 1, none⟩ = some u := by
        rw [HO1.out.cellAt (k * 9 + 1) (by omega)]
        exact ⟨_, List.getElem?_eq_getElem (by rw [HO1.out.1]; omega)⟩
      have f1 := HO1.out.frozenAt (k * 9 + 1)
      obtain ⟨u2v, p2⟩ : ∃ u, w'.cell? ⟨w.heap.size, k * 9 + 2, none⟩ = some u := by
        rw [HO1.out.cellAt (k * 9 + 2) (by omega)]
        exact ⟨_, List.getElem?_eq_getElem (by rw [HO1.out.1]; omega)⟩
      have f2 := HO1.out.frozenAt (k * 9 + 2)
      obtain ⟨u3v, p3⟩ : ∃ u, w'.cell? ⟨w.heap.size, k * 9 + 3, none⟩ = some u := by
        rw [HO1.out.cellAt (k * 9 + 3) (by omega)]
        exact ⟨_, List.getElem?_eq_getElem (by rw [HO1.out.1]; omega)⟩
      have f3 := HO1.out.frozenAt (k * 9 + 3)
      obtain ⟨u4v, p4⟩ : ∃ u, w'.cell? ⟨w.heap.size, k * 9 + 4, none⟩ = some u := by
        rw [HO1.out.cellAt (k * 9 + 4) (by omega)]
        exact ⟨_, List.getElem?_eq_getElem (by rw [HO1.out.1]; omega)⟩
      have f4 := HO1.out.frozenAt (k * 9 + 4)
      obtain ⟨u5v, p5⟩ : ∃ u, w'.cell? ⟨w.heap.size, k * 9 + 5, none⟩ = some u := by
        rw [HO1.out.cellAt (k * 9 + 5) (by omega)]
        exact ⟨_, List.getElem?_eq_getElem (by rw [HO1.out.1]; omega)⟩
      have f5 := HO1.out.frozenAt (k * 9 + 5)
      obtain ⟨u6v, p6⟩ : ∃ u, w'.cell? ⟨w.heap.size, k * 9 + 6, none⟩ = some u := by
        rw [HO1.out.cellAt (k * 9 + 6) (by omega)]
        exact ⟨_, List.getElem?_eq_getElem (by rw [HO1.out.1]; omega)⟩
      have f6 := HO1.out.frozenAt (k * 9 + 6)
      obtain ⟨u7v, p7⟩ : ∃ u, w'.cell? ⟨w.heap.size, k * 9 + 7, none⟩ = some u := by
        rw [HO1.out.cellAt (k * 9 + 7) (by omega)]
        exact ⟨_, List.getElem?_eq_getElem (by rw [HO1.out.1]; omega)⟩
      have f7 := HO1.out.frozenAt (k * 9 + 7)
      obtain ⟨u8v, p8⟩ : ∃ u, w'.cell? ⟨w.heap.size, k * 9 + 8, none⟩ = some u := by
        rw [HO1.out.cellAt (k * 9 + 8) (by omega)]
        exact ⟨_, List.getElem?_eq_getElem (by rw [HO1.out.1]; omega)⟩
      have f8 := HO1.out.frozenAt (k * 9 + 8)
      have HB1 := Lib.hid hb1; clear hb1
      have HCS := Lib.hid hcs; clear hcs
      go_wp2_with fail
      have hcs := HCS.out
      have hs0 := HO1.out.stored (k * 9) (.int .i64 zk)
      have hs1 := hs0.1.stored (k * 9 + 1) (.string znm)
      have hs2 := hs1.1.stored (k * 9 + 2) (.int .i64 zn)
      have hs3 := hs2.1.stored (k * 9 + 3) (.int .i64 zfk)
      have hs4 := hs3.1.stored (k * 9 + 4) (.slice zfa zfn zfc)
      have hs5 := hs4.1.stored (k * 9 + 5) (.int .i64 ztk)
      have hs6 := hs5.1.stored (k * 9 + 6) (.slice zta ztn ztc)
      have hs7 := hs6.1.stored (k * 9 + 7) (.slice zsa zsn zsc)
      have hs8 := hs7.1.stored (k * 9 + 8) (.slice zea zen zec)
      have hkeep : ∀ b, w.heap.size + 1 ≤ b → (((((((((w'.setCell ⟨w.heap.size, k * 9, none⟩ (.int .i64 zk)).setCell ⟨w.heap.size, k * 9 + 1, none⟩ (.string znm)).setCell ⟨w.heap.size, k * 9 + 2, none⟩ (.int .i64 zn)).setCell ⟨w.heap.size, k * 9 + 3, none⟩ (.int .i64 zfk)).setCell ⟨w.heap.size, k * 9 + 4, none⟩ (.slice zfa zfn zfc)).setCell ⟨w.heap.size, k * 9 + 5, none⟩ (.int .i64 ztk)).setCell ⟨w.heap.size, k * 9 + 6, none⟩ (.slice zta ztn ztc)).setCell ⟨w.heap.size, k * 9 + 7, none⟩ (.slice zsa zsn zsc)).setCell ⟨w.heap.size, k * 9 + 8, none⟩ (.slice zea zen zec)).heap[b]? = w'.heap[b]? := fun b h1 => by
        rw [heap_setCell_other _ _ _ _ (by simp; omega), heap_setCell_other _ _ _ _ (by simp; omega), heap_setCell_other _ _ _ _ (by simp; omega), heap_setCell_other _ _ _ _ (by simp; omega), heap_setCell_other _ _ _ _ (by simp; omega), heap_setCell_other _ _ _ _ (by simp; omega), heap_setCell_other _ _ _ _ (by simp; omega), heap_setCell_other _ _ _ _ (by simp; omega), heap_setCell_other _ _ _ _ (by simp; omega)]
      have hF := HF.out
      have hF1 := HF1.out
      have hL := HL.out
      have hzz : (((((((((w'.setCell ⟨w.heap.size, k * 9, none⟩ (.int .i64 zk)).setCell ⟨w.heap.size, k * 9 + 1, none⟩ (.string znm)).setCell ⟨w.heap.size, k * 9 + 2, none⟩ (.int .i64 zn)).setCell ⟨w.heap.size, k * 9 + 3, none⟩ (.int .i64 zfk)).setCell ⟨w.heap.size, k * 9 + 4, none⟩ (.slice zfa zfn zfc)).setCell ⟨w.heap.size, k * 9 + 5, none⟩ (.int .i64 ztk)).setCell ⟨w.heap.size, k * 9 + 6, none⟩ (.slice zta ztn ztc)).setCell ⟨w.heap.size, k * 9 + 7, none⟩ (.slice zsa zsn zsc)).setCell ⟨w.heap.size, k * 9 + 8, none⟩ (.slice zea zen zec)).heap.size = w'.heap.size := by simp
      refine ⟨⟨k + 1, _, fps ++ [fp], by omega, by go_num, hs8.1, by simp [hL], ?_, ?_, ((((((((((HB.out.trans (HB1.out.mono HB.out.size)).setCell (Nat.le_refl _) _).setCell (Nat.le_refl _) _).setCell (Nat.le_refl _) _).setCell (Nat.le_refl _) _).setCell (Nat.le_refl _) _).setCell (Nat.le_refl _) _).setCell (Nat.le_refl _) _).setCell (Nat.le_refl _) _).setCell (Nat.le_refl _) _)⟩, by simp [intOf]; omega⟩
      · rw [hzz, List.flatten_append, List.flatten_cons, List.flatten_nil, List.append_nil]
        exact hF.join hF1 (by omega) hz1
      · intro j hj hjk
        by_cases hjk2 : j = k
        · subst hjk2
          refine ⟨_, _, _, _, _, _, _, _, _, fp, (by rw [List.getElem?_set_ne (by omega), List.getElem?_set_ne (by omega), List.getElem?_set_ne (by omega), List.getElem?_set_ne (by omega), List.getElem?_set_ne (by omega), List.getElem?_set_ne (by omega), List.getElem?_set_ne (by omega), List.getElem?_set_ne (by omega), List.getElem?_set_self (by first | omega | (simp only [List.length_set]; omega))]), (by rw [List.getElem?_set_ne (by omega), List.getElem?_set_ne (by omega), List.getElem?_set_ne (by omega), List.getElem?_set_ne (by omega), List.getElem?_set_ne (by omega), List.getElem?_set_ne (by omega), List.getElem?_set_ne (by omega), List.getElem?_set_self (by first | omega | (simp only [List.length_set]; omega))]), (by rw [List.getElem?_set_ne (by omega), List.getElem?_set_ne (by omega), List.getElem?_set_ne (by omega), List.getElem?_set_ne (by omega), List.getElem?_set_ne (by omega), List.getElem?_set_ne (by omega), List.getElem?_set_self (by first | omega | (simp only [List.length_set]; omega))]), (by rw [List.getElem?_set_ne (by omega), List.getElem?_set_ne (by omega), List.getElem?_set_ne (by omega), List.getElem?_set_ne (by omega), List.getElem?_set_ne (by omega), List.getElem?_set_self (by first | omega | (simp only [List.length_set]; omega))]), (by rw [List.getElem?_set_ne (by omega), List.getElem?_set_ne (by omega), List.getElem?_set_ne (by omega), List.getElem?_set_ne (by omega), List.getElem?_set_self (by first | omega | (simp only [List.length_set]; omega))]), (by rw [List.getElem?_set_ne (by omega), List.getElem?_set_ne (by omega), List.getElem?_set_ne (by omega), List.getElem?_set_self (by first | omega | (simp only [List.length_set]; omega))]), (by rw [List.getElem?_set_ne (by omega), List.getElem?_set_ne (by omega), List.getElem?_set_self (by first | omega | (simp only [List.length_set]; omega))]), (by rw [List.getElem?_set_ne (by omega), List.getElem?_set_self (by first | omega | (simp only [List.length_set]; omega))]), (by rw [List.getElem?_set_self (by first | omega | (simp only [List.length_set]; omega))]), ?_, HY.out.kept (by simp) fun b hb => hkeep b ?_⟩
          · rw [List.getElem?_append_right (by omega), hL]; simp
          · have := (hF1.2 b hb).1; omega
        · obtain ⟨c0, c1, c2, c3, c4, c5, c6, c7, c8, f, hc0, hc1, hc2, hc3, hc4, hc5, hc6, hc7, hc8, hfj, hty⟩ := HD.out j hj (by omega)
          have hsub : ∀ b, b ∈ f → b ∈ fps.flatten := fun b hb => List.mem_flatten.2 ⟨f, List.mem_of_getElem? hfj, hb⟩
          refine ⟨c0, c1, c2, c3, c4, c5, c6, c7, c8, f, (by rw [List.getElem?_set_ne (by omega), List.getElem?_set_ne (by omega), List.getElem?_set_ne (by omega), List.getElem?_set_ne (by omega), List.getElem?_set_ne (by omega), List.getElem?_set_ne (by omega), List.getElem?_set_ne (by omega), List.getElem?_set_ne (by omega), List.getElem?_set_ne (by omega)]; exact hc0), (by rw [List.getElem?_set_ne (by omega), List.getElem?_set_ne (by omega), List.getElem?_set_ne (by omega), List.getElem?_set_ne (by omega), List.getElem?_set_ne (by omega), List.getElem?_set_ne (by omega), List.getElem?_set_ne (by omega), List.getElem?_set_ne (by omega), List.getElem?_set_ne (by omega)]; exact hc1), (by rw [List.getElem?_set_ne (by omega), List.getElem?_set_ne (by omega), List.getElem?_set_ne (by omega), List.getElem?_set_ne (by omega), List.getElem?_set_ne (by omega), List.getElem?_set_ne (by omega), List.getElem?_set_ne (by omega), List.getElem?_set_ne (by omega), List.getElem?_set_ne (by omega)]; exact hc2), (by rw [List.getElem?_set_ne (by omega), List.getElem?_set_ne (by omega), List.getElem?_set_ne (by omega), List.getElem?_set_ne (by omega), List.getElem?_set_ne (by omega), List.getElem?_set_ne (by omega), List.getElem?_set_ne (by omega), List.getElem?_set_ne (by omega), List.getElem?_set_ne (by omega)]; exact hc3), (by rw [List.getElem?_set_ne (by omega), List.getElem?_set_ne (by omega), List.getElem?_set_ne (by omega), List.getElem?_set_ne (by omega), List.getElem?_set_ne (by omega), List.getElem?_set_ne (by omega), List.getElem?_set_ne (by omega), List.getElem?_set_ne (by omega), List.getElem?_set_ne (by omega)]; exact hc4), (by rw [List.getElem?_set_ne (by omega), List.getElem?_set_ne (by omega), List.getElem?_set_ne (by omega), List.getElem?_set_ne (by omega), List.getElem?_set_ne (by omega), List.getElem?_set_ne (by omega), List.getElem?_set_ne (by omega), List.getElem?_set_ne (by omega), List.getElem?_set_ne (by omega)]; exact hc5), (by rw [List.getElem?_set_ne (by omega), List.getElem?_set_ne (by omega), List.getElem?_set_ne (by omega), List.getElem?_set_ne (by omega), List.getElem?_set_ne (by omega), List.getElem?_set_ne (by omega), List.getElem?_set_ne (by omega), List.getElem?_set_ne (by omega), List.getElem?_set_ne (by omega)]; exact hc6), (by rw [List.getElem?_set_ne (by omega), List.getElem?_set_ne (by omega), List.getElem?_set_ne (by omega), List.getElem?_set_ne (by omega), List.getElem?_set_ne (by omega), List.getElem?_set_ne (by omega), List.getElem?_set_ne (by omega), List.getElem?_set_ne (by omega), List.getElem?_set_ne (by omega)]; exact hc7), (by rw [List.getElem?_set_ne (by omega), List.getElem?_set_ne (by omega), List.getElem?_set_ne (by omega), List.getElem?_set_ne (by omega), List.getElem?_set_ne (by omega), List.getElem?_set_ne (by omega), List.getElem?_set_ne (by omega), List.getElem?_set_ne (by omega), List.getElem?_set_ne (by omega)]; exact hc8), ?_, hty.kept (by simp; omega) fun b hb => ?_⟩
          · rw [List.getElem?_append_left (by omega)]; exact hfj
          · have hb2 := hF.2 b (hsub b hb)
            rw [hkeep b hb2.1]; exact HB1.out.block b hb2.2
    · have hkk : k = ts.length := by omega
      subst hkk
      go_wp2_with fail
      go_ret
      refine ⟨_, [w.heap.size] ++ fps.flatten, rfl, ⟨_, _, [w.heap.size], fps, rfl, Nat.le_refl _, by omega, HL.out, rfl, fun b hb => by cases List.mem_singleton.1 hb; exact hgl, fun j hj => ?_⟩, (Fp.one (Nat.le_refl _) (Nat.lt_succ_self _)).join HF.out (by omega) (by omega), HB.out⟩
      obtain ⟨c0, c1, c2, c3, c4, c5, c6, c7, c8, f, hc0, hc1, hc2, hc3, hc4, hc5, hc6, hc7, hc8, hfj, hty⟩ := HD.out j hj hj
      refine ⟨w.heap.size, 0, c0, c1, c2, c3, c4, c5, c6, c7, c8, f, rfl, rfl, hgl, (by rw [Nat.zero_add, HO.out.cellAt (j * 9) (by omega)]; exact hc0), (by rw [Nat.zero_add, HO.out.cellAt (j * 9 + 1) (by omega)]; exact hc1), (by rw [Nat.zero_add, HO.out.cellAt (j * 9 + 2) (by omega)]; exact hc2), (by rw [Nat.zero_add, HO.out.cellAt (j * 9 + 3) (by omega)]; exact hc3), (by rw [Nat.zero_add, HO.out.cellAt (j * 9 + 4) (by omega)]; exact hc4), (by rw [Nat.zero_add, HO.out.cellAt (j * 9 + 5) (by omega)]; exact hc5), (by rw [Nat.zero_add, HO.out.cellAt (j * 9 + 6) (by omega)]; exact hc6), (by rw [Nat.zero_add, HO.out.cellAt (j * 9 + 7) (by omega)]; exact hc7), (by rw [Nat.zero_add, HO.out.cellAt (j * 9 + 8) (by omega)]; exact hc8), fun o => HO.out.frozenAt o, hfj, hty⟩

set_option maxRecDepth 100000 in
set_option maxHeartbeats 4000000 in
theorem toCbs_step (d : Nat) (ih : ToCbSaid d) : ToCbsSaid d := by
  intro v ns ts w hn h
  have IH := Lib.hid ih; clear ih
  obtain ⟨i0, hi, hz0, hz1, hz2⟩ := info_parts info_cb
  have hlen := Co.length_le ts
  obtain ⟨hln, a, cap, rfl, hcap, hcap2, hat⟩ := h
  have HAT := Lib.hid hat; clear hat
  go_enter Tryd.func62, Tryd.ntmps62
  go_wp2_with (at_make; refine wpList_make_full _ rfl _ _ 65 rfl w.heap.size 127 i0 (.agg #[.string ⟨#[]⟩, .int .i64 0, .string ⟨#[]⟩, .int .i64 0, .int .i64 0, .slice none 0 0, .int .i64 0, .slice none 0 0, .slice none 0 0, .slice none 0 0]) 10 Tryd.underlying65 hi hz0 hz1 .i64 .i64 _ _ ts.length rfl rfl rfl rfl (by rw [hz2]; omega) (by unfold maxLen; omega) (Nat.le_refl _) ?_; intro w0 hown0 hg0; refine Hid.out ?_)
  refine Lib.hid ?_
  have HB0 := Lib.hid ((Below.refl w.heap.size w).grown hg0 (Nat.le_refl _) (fun k hk => by cases hk))
  have HO0 := Lib.hid hown0
  clear hown0 hg0 hi hz0 hz1 hz2
  go_wp2_with fail
  go_loopw [4] (fun i wr => ∃ (k : Nat) (cs : List Value) (fps : List (List Nat)), k ≤ ts.length ∧ i = .int .i64 k ∧ wr.ownsRow w.heap.size 127 10 (.slice (some ⟨w.heap.size, 0, none⟩) ts.length ts.length) ts.length cs ∧
      fps.length = k ∧ Fp (w.heap.size + 1) wr.heap.size (List.flatten fps) ∧ (∀ j (h : j < ts.length) (h2 : j < ns.length), j < k → ∃ c0 c1 c2 c3 c4 c5 c6 c7 c8 f, ns[j].size ≤ 9223372036854775807 ∧ cs[j * 10]? = some (.string ns[j]) ∧ cs[j * 10 + 1]? = some (c0) ∧ cs[j * 10 + 2]? = some (c1) ∧ cs[j * 10 + 3]? = some (c2) ∧ cs[j * 10 + 4]? = some (c3) ∧ cs[j * 10 + 5]? = some (c4) ∧ cs[j * 10 + 6]? = some (c5) ∧ cs[j * 10 + 7]? = some (c6) ∧ cs[j * 10 + 8]? = some (c7) ∧ cs[j * 10 + 9]? = some (c8) ∧ fps[j]? = some f ∧ CoOwn wr d (.agg #[c0, c1, c2, c3, c4, c5, c6, c7, c8]) ts[j] f) ∧ Below w.heap.size w wr) (fun i _ => ts.length - (intOf i).toNat)
  case atStart => exact ⟨0, _, [], by omega, rfl, HO0.out, rfl, Fp.nil _ _, fun j h h3 h2 => by omega, HB0.out⟩
  case round =>
    obtain ⟨k, cs, fps, hk, rfl, hown, hfl, hfp, hdone, hb⟩ := hrel
    have HF := Lib.hid hfp; clear hfp
    have HL := Lib.hid hfl; clear hfl
    have HO := Lib.hid hown
    have HD := Lib.hid hdone; clear hdone
    have HB := Lib.hid hb; clear hb
    have hgl := (hown.lt w.heap.size rfl).2
    clear hown
    by_cases hlt : k < ts.length
    · have hlt2 : k < ns.length := by omega
      obtain ⟨b, off, x0, x1, x2, x3, x4, x5, x6, x7, x8, rfl, hbl, hnz, hcn, hc0, hc1, hc2, hc3, hc4, hc5, hc6, hc7, hc8, ht⟩ := HAT.out k hlt hlt2
      have hg := Co.bulk_get ts k hlt
      have e0 : wr.cell? ⟨b, off + k * 10, none⟩ = some (.string ns[k]) := by rw [HB.out.cell (p := ⟨b, off + k * 10, none⟩) hbl]; exact hcn
      have e1 : wr.cell? ⟨b, off + k * 10 + 1, none⟩ = some x0 := by rw [HB.out.cell (p := ⟨b, off + k * 10 + 1, none⟩) hbl]; exact hc0
      have e2 : wr.cell? ⟨b, off + k * 10 + 2, none⟩ = some x1 := by rw [HB.out.cell (p := ⟨b, off + k * 10 + 2, none⟩) hbl]; exact hc1
      have e3 : wr.cell? ⟨b, off + k * 10 + 3, none⟩ = some x2 := by rw [HB.out.cell (p := ⟨b, off + k * 10 + 3, none⟩) hbl]; exact hc2
      have e4 : wr.cell? ⟨b, off + k * 10 + 4, none⟩ = some x3 := by rw [HB.out.cell (p := ⟨b, off + k * 10 + 4, none⟩) hbl]; exact hc3
      have e5 : wr.cell? ⟨b, off + k * 10 + 5, none⟩ = some x4 := by rw [HB.out.cell (p := ⟨b, off + k * 10 + 5, none⟩) hbl]; exact hc4
      have e6 : wr.cell? ⟨b, off + k * 10 + 6, none⟩ = some x5 := by rw [HB.out.cell (p := ⟨b, off + k * 10 + 6, none⟩) hbl]; exact hc5
      have e7 : wr.cell? ⟨b, off + k * 10 + 7, none⟩ = some x6 := by rw [HB.out.cell (p := ⟨b, off + k * 10 + 7, none⟩) hbl]; exact hc6
      have e8 : wr.cell? ⟨b, off + k * 10 + 8, none⟩ = some x7 := by rw [HB.out.cell (p := ⟨b, off + k * 10 + 8, none⟩) hbl]; exact hc7
      have e9 : wr.cell? ⟨b, off + k * 10 + 9, none⟩ = some x8 := by rw [HB.out.cell (p := ⟨b, off + k * 10 + 9, none⟩) hbl]; exact hc8
      have HT := Lib.hid (ht.below HB.out)
      clear ht hcn hc0 hc1 hc2 hc3 hc4 hc5 hc6 hc7 hc8
      go_wp2_with fail
      refine (IH.out _ ns[k] _ wr (by omega) ⟨hnz, _, _, _, _, _, _, _, _, _, rfl, HT.out⟩).mono ?_
      rintro e w' ⟨v2, fp, rfl, ht, hfp, hb1⟩
      have HF1 := Lib.hid hfp; clear hfp
      have HO1 := Lib.hid (own_below HO.out hb1); clear HO
      have hz1 := hb1.size
      obtain ⟨hny, y0, y1, y2, y3, y4, y5, y6, y7, y8, rfl, ht⟩ := ht
      obtain ⟨zk, znm, zn, zfk, zfa, zfn, zfc, ztk, zta, ztn, ztc, zsa, zsn, zsc, zea, zen, zec, rfl, rfl, rfl, rfl, rfl, rfl, rfl, rfl, rfl⟩ := co_cells ht.at_
      have HY := Lib.hid ht
      clear ht
      have hcs : cs.length = ts.length * 10 := HO1.out.1
      obtain ⟨u0v, p0⟩ : ∃ u, w'.cell? ⟨w.heap.size, k * 10, none⟩ = some u := by
        rw [HO1.out.cellAt (k * 10) (by omega)]
        exact ⟨_, List.getElem?_eq_getElem (by rw [HO1.out.1]; omega)⟩
      have f0 := HO1.out.frozenAt (k * 10)
      obtain ⟨u1v, p1⟩ : ∃ u, w'.cell? ⟨w.heap.size, k * 10 + 1, none⟩ = some u := by
        rw [HO1.out.cellAt (k * 10 + 1) (by omega)]
        exact ⟨_, List.getElem?_eq_getElem (by rw [HO1.out.1]; omega)⟩
      have f1 := HO1.out.frozenAt (k * 10 + 1)
      obtain ⟨u2v, p2⟩ : ∃ u, w'.cell? ⟨w.heap.size, k * 10 + 2, none⟩ = some u := by
        rw [HO1.out.cellAt (k * 10 + 2) (by omega)]
        exact ⟨_, List.getElem?_eq_getElem (by rw [HO1.out.1]; omega)⟩
      have f2 := HO1.out.frozenAt (k * 10 + 2)
      obtain ⟨u3v, p3⟩ : ∃ u, w'.cell? ⟨w.heap.size, k * 10 + 3, none⟩ = some u := by
        rw [HO1.out.cellAt (k * 10 + 3) (by omega)]
        exact ⟨_, List.getElem?_eq_getElem (by rw [HO1.out.1]; omega)⟩
      have f3 := HO1.out.frozenAt (k * 10 + 3)
      obtain ⟨u4v, p4⟩ : ∃ u, w'.cell? ⟨w.heap.size, k * 10 + 4, none⟩ = some u := by
        rw [HO1.out.cellAt (k * 10 + 4) (by omega)]
        exact ⟨_, List.getElem?_eq_getElem (by rw [HO1.out.1]; omega)⟩
      have f4 := HO1.out.frozenAt (k * 10 + 4)
      obtain ⟨u5v, p5⟩ : ∃ u, w'.cell? ⟨w.heap.size, k * 10 + 5, none⟩ = some u := by
        rw [HO1.out.cellAt (k * 10 + 5) (by omega)]
        exact ⟨_, List.getElem?_eq_getElem (by rw [HO1.out.1]; omega)⟩
      have f5 := HO1.out.frozenAt (k * 10 + 5)
      obtain ⟨u6v, p6⟩ : ∃ u, w'.cell? ⟨w.heap.size, k * 10 + 6, none⟩ = some u := by
        rw [HO1.out.cellAt (k * 10 + 6) (by omega)]
        exact ⟨_, List.getElem?_eq_getElem (by rw [HO1.out.1]; omega)⟩
      have f6 := HO1.out.frozenAt (k * 10 + 6)
      obtain ⟨u7v, p7⟩ : ∃ u, w'.cell? ⟨w.heap.size, k * 10 + 7, none⟩ = some u := by
        rw [HO1.out.cellAt (k * 10 + 7) (by omega)]
        exact ⟨_, List.getElem?_eq_getElem (by rw [HO1.out.1]; omega)⟩
      have f7 := HO1.out.frozenAt (k * 10 + 7)
      obtain ⟨u8v, p8⟩ : ∃ u, w'.cell? ⟨w.heap.size, k * 10 + 8, none⟩ = some u := by
        rw [HO1.out.cellAt (k * 10 + 8) (by omega)]
        exact ⟨_, List.getElem?_eq_getElem (by rw [HO1.out.1]; omega)⟩
      have f8 := HO1.out.frozenAt (k * 10 + 8)
      obtain ⟨u9v, p9⟩ : ∃ u, w'.cell? ⟨w.heap.size, k * 10 + 9, none⟩ = some u := by
        rw [HO1.out.cellAt (k * 10 + 9) (by omega)]
        exact ⟨_, List.getElem?_eq_getElem (by rw [HO1.out.1]; omega)⟩
      have f9 := HO1.out.frozenAt (k * 10 + 9)
      have HB1 := Lib.hid hb1; clear hb1
      have HCS := Lib.hid hcs; clear hcs
      go_wp2_with fail
      have hcs := HCS.out
      have hs0 := HO1.out.stored (k * 10) (.string ns[k])
      have hs1 := hs0.1.stored (k * 10 + 1) (.int .i64 zk)
      have hs2 := hs1.1.stored (k * 10 + 2) (.string znm)
      have hs3 := hs2.1.stored (k * 10 + 3) (.int .i64 zn)
      have hs4 := hs3.1.stored (k * 10 + 4) (.int .i64 zfk)
      have hs5 := hs4.1.stored (k * 10 + 5) (.slice zfa zfn zfc)
      have hs6 := hs5.1.stored (k * 10 + 6) (.int .i64 ztk)
      have hs7 := hs6.1.stored (k * 10 + 7) (.slice zta ztn ztc)
      have hs8 := hs7.1.stored (k * 10 + 8) (.slice zsa zsn zsc)
      have hs9 := hs8.1.stored (k * 10 + 9) (.slice zea zen zec)
      have hkeep : ∀ b, w.heap.size + 1 ≤ b → ((((((((((w'.setCell ⟨w.heap.size, k * 10, none⟩ (.string ns[k])).setCell ⟨w.heap.size, k * 10 + 1, none⟩ (.int .i64 zk)).setCell ⟨w.heap.size, k * 10 + 2, none⟩ (.string znm)).setCell ⟨w.heap.size, k * 10 + 3, none⟩ (.int .i64 zn)).setCell ⟨w.heap.size, k * 10 + 4, none⟩ (.int .i64 zfk)).setCell ⟨w.heap.size, k * 10 + 5, none⟩ (.slice zfa zfn zfc)).setCell ⟨w.heap.size, k * 10 + 6, none⟩ (.int .i64 ztk)).setCell ⟨w.heap.size, k * 10 + 7, none⟩ (.slice zta ztn ztc)).setCell ⟨w.heap.size, k * 10 + 8, none⟩ (.slice zsa zsn zsc)).setCell ⟨w.heap.size, k * 10 + 9, none⟩ (.slice zea zen zec)).heap[b]? = w'.heap[b]? := fun b h1 => by
        rw [heap_setCell_other _ _ _ _ (by simp; omega), heap_setCell_other _ _ _ _ (by simp; omega), heap_setCell_other _ _ _ _ (by simp; omega), heap_setCell_other _ _ _ _ (by simp; omega), heap_setCell_other _ _ _ _ (by simp; omega), heap_setCell_other _ _ _ _ (by simp; omega), heap_setCell_other _ _ _ _ (by simp; omega), heap_setCell_other _ _ _ _ (by simp; omega), heap_setCell_other _ _ _ _ (by simp; omega), heap_setCell_other _ _ _ _ (by simp; omega)]
      have hF := HF.out
      have hF1 := HF1.out
      have hL := HL.out
      have hzz : ((((((((((w'.setCell ⟨w.heap.size, k * 10, none⟩ (.string ns[k])).setCell ⟨w.heap.size, k * 10 + 1, none⟩ (.int .i64 zk)).setCell ⟨w.heap.size, k * 10 + 2, none⟩ (.string znm)).setCell ⟨w.heap.size, k * 10 + 3, none⟩ (.int .i64 zn)).setCell ⟨w.heap.size, k * 10 + 4, none⟩ (.int .i64 zfk)).setCell ⟨w.heap.size, k * 10 + 5, none⟩ (.slice zfa zfn zfc)).setCell ⟨w.heap.size, k * 10 + 6, none⟩ (.int .i64 ztk)).setCell ⟨w.heap.size, k * 10 + 7, none⟩ (.slice zta ztn ztc)).setCell ⟨w.heap.size, k * 10 + 8, none⟩ (.slice zsa zsn zsc)).setCell ⟨w.heap.size, k * 10 + 9, none⟩ (.slice zea zen zec)).heap.size = w'.heap.size := by simp
      refine ⟨⟨k + 1, _, fps ++ [fp], by omega, by go_num, hs9.1, by simp [hL], ?_, ?_, (((((((((((HB.out.trans (HB1.out.mono HB.out.size)).setCell (Nat.le_refl _) _).setCell (Nat.le_refl _) _).setCell (Nat.le_refl _) _).setCell (Nat.le_refl _) _).setCell (Nat.le_refl _) _).setCell (Nat.le_refl _) _).setCell (Nat.le_refl _) _).setCell (Nat.le_refl _) _).setCell (Nat.le_refl _) _).setCell (Nat.le_refl _) _)⟩, by simp [intOf]; omega⟩
      · rw [hzz, List.flatten_append, List.flatten_cons, List.flatten_nil, List.append_nil]
        exact hF.join hF1 (by omega) hz1
      · intro j hj hj2 hjk
        by_cases hjk2 : j = k
        · subst hjk2
          refine ⟨_, _, _, _, _, _, _, _, _, fp, hnz, (by rw [List.getElem?_set_ne (by omega), List.getElem?_set_ne (by omega), List.getElem?_set_ne (by omega), List.getElem?_set_ne (by omega), List.getElem?_set_ne (by omega), List.getElem?_set_ne (by omega), List.getElem?_set_ne (by omega), List.getElem?_set_ne (by omega), List.getElem?_set_ne (by omega), List.getElem?_set_self (by first | omega | (simp only [List.length_set]; omega))]), (by rw [List.getElem?_set_ne (by omega), List.getElem?_set_ne (by omega), List.getElem?_set_ne (by omega), List.getElem?_set_ne (by omega), List.getElem?_set_ne (by omega), List.getElem?_set_ne (by omega), List.getElem?_set_ne (by omega), List.getElem?_set_ne (by omega), List.getElem?_set_self (by first | omega | (simp only [List.length_set]; omega))]), (by rw [List.getElem?_set_ne (by omega), List.getElem?_set_ne (by omega), List.getElem?_set_ne (by omega), List.getElem?_set_ne (by omega), List.getElem?_set_ne (by omega), List.getElem?_set_ne (by omega), List.getElem?_set_ne (by omega), List.getElem?_set_self (by first | omega | (simp only [List.length_set]; omega))]), (by rw [List.getElem?_set_ne (by omega), List.getElem?_set_ne (by omega), List.getElem?_set_ne (by omega), List.getElem?_set_ne (by omega), List.getElem?_set_ne (by omega), List.getElem?_set_ne (by omega), List.getElem?_set_self (by first | omega | (simp only [List.length_set]; omega))]), (by rw [List.getElem?_set_ne (by omega), List.getElem?_set_ne (by omega), List.getElem?_set_ne (by omega), List.getElem?_set_ne (by omega), List.getElem?_set_ne (by omega), List.getElem?_set_self (by first | omega | (simp only [List.length_set]; omega))]), (by rw [List.getElem?_set_ne (by omega), List.getElem?_set_ne (by omega), List.getElem?_set_ne (by omega), List.getElem?_set_ne (by omega), List.getElem?_set_self (by first | omega | (simp only [List.length_set]; omega))]), (by rw [List.getElem?_set_ne (by omega), List.getElem?_set_ne (by omega), List.getElem?_set_ne (by omega), List.getElem?_set_self (by first | omega | (simp only [List.length_set]; omega))]), (by rw [List.getElem?_set_ne (by omega), List.getElem?_set_ne (by omega), List.getElem?_set_self (by first | omega | (simp only [List.length_set]; omega))]), (by rw [List.getElem?_set_ne (by omega), List.getElem?_set_self (by first | omega | (simp only [List.length_set]; omega))]), (by rw [List.getElem?_set_self (by first | omega | (simp only [List.length_set]; omega))]), ?_, HY.out.kept (by simp) fun b hb => hkeep b ?_⟩
          · rw [List.getElem?_append_right (by omega), hL]; simp
          · have := (hF1.2 b hb).1; omega
        · obtain ⟨c0, c1, c2, c3, c4, c5, c6, c7, c8, f, hnz, hcn, hc0, hc1, hc2, hc3, hc4, hc5, hc6, hc7, hc8, hfj, hty⟩ := HD.out j hj hj2 (by omega)
          have hsub : ∀ b, b ∈ f → b ∈ fps.flatten := fun b hb => List.mem_flatten.2 ⟨f, List.mem_of_getElem? hfj, hb⟩
          refine ⟨c0, c1, c2, c3, c4, c5, c6, c7, c8, f, hnz, (by rw [List.getElem?_set_ne (by omega), List.getElem?_set_ne (by omega), List.getElem?_set_ne (by omega), List.getElem?_set_ne (by omega), List.getElem?_set_ne (by omega), List.getElem?_set_ne (by omega), List.getElem?_set_ne (by omega), List.getElem?_set_ne (by omega), List.getElem?_set_ne (by omega), List.getElem?_set_ne (by omega)]; exact hcn), (by rw [List.getElem?_set_ne (by omega), List.getElem?_set_ne (by omega), List.getElem?_set_ne (by omega), List.getElem?_set_ne (by omega), List.getElem?_set_ne (by omega), List.getElem?_set_ne (by omega), List.getElem?_set_ne (by omega), List.getElem?_set_ne (by omega), List.getElem?_set_ne (by omega), List.getElem?_set_ne (by omega)]; exact hc0), (by rw [List.getElem?_set_ne (by omega), List.getElem?_set_ne (by omega), List.getElem?_set_ne (by omega), List.getElem?_set_ne (by omega), List.getElem?_set_ne (by omega), List.getElem?_set_ne (by omega), List.getElem?_set_ne (by omega), List.getElem?_set_ne (by omega), List.getElem?_set_ne (by omega), List.getElem?_set_ne (by omega)]; exact hc1), (by rw [List.getElem?_set_ne (by omega), List.getElem?_set_ne (by omega), List.getElem?_set_ne (by omega), List.getElem?_set_ne (by omega), List.getElem?_set_ne (by omega), List.getElem?_set_ne (by omega), List.getElem?_set_ne (by omega), List.getElem?_set_ne (by omega), List.getElem?_set_ne (by omega), List.getElem?_set_ne (by omega)]; exact hc2), (by rw [List.getElem?_set_ne (by omega), List.getElem?_set_ne (by omega), List.getElem?_set_ne (by omega), List.getElem?_set_ne (by omega), List.getElem?_set_ne (by omega), List.getElem?_set_ne (by omega), List.getElem?_set_ne (by omega), List.getElem?_set_ne (by omega), List.getElem?_set_ne (by omega), List.getElem?_set_ne (by omega)]; exact hc3), (by rw [List.getElem?_set_ne (by omega), List.getElem?_set_ne (by omega), List.getElem?_set_ne (by omega), List.getElem?_set_ne (by omega), List.getElem?_set_ne (by omega), List.getElem?_set_ne (by omega), List.getElem?_set_ne (by omega), List.getElem?_set_ne (by omega), List.getElem?_set_ne (by omega), List.getElem?_set_ne (by omega)]; exact hc4), (by rw [List.getElem?_set_ne (by omega), List.getElem?_set_ne (by omega), List.getElem?_set_ne (by omega), List.getElem?_set_ne (by omega), List.getElem?_set_ne (by omega), List.getElem?_set_ne (by omega), List.getElem?_set_ne (by omega), List.getElem?_set_ne (by omega), List.getElem?_set_ne (by omega), List.getElem?_set_ne (by omega)]; exact hc5), (by rw [List.getElem?_set_ne (by omega), List.getElem?_set_ne (by omega), List.getElem?_set_ne (by omega), List.getElem?_set_ne (by omega), List.getElem?_set_ne (by omega), List.getElem?_set_ne (by omega), List.getElem?_set_ne (by omega), List.getElem?_set_ne (by omega), List.getElem?_set_ne (by omega), List.getElem?_set_ne (by omega)]; exact hc6), (by rw [List.getElem?_set_ne (by omega), List.getElem?_set_ne (by omega), List.getElem?_set_ne (by omega), List.getElem?_set_ne (by omega), List.getElem?_set_ne (by omega), List.getElem?_set_ne (by omega), List.getElem?_set_ne (by omega), List.getElem?_set_ne (by omega), List.getElem?_set_ne (by omega), List.getElem?_set_ne (by omega)]; exact hc7), (by rw [List.getElem?_set_ne (by omega), List.getElem?_set_ne (by omega), List.getElem?_set_ne (by omega), List.getElem?_set_ne (by omega), List.getElem?_set_ne (by omega), List.getElem?_set_ne (by omega), List.getElem?_set_ne (by omega), List.getElem?_set_ne (by omega), List.getElem?_set_ne (by omega), List.getElem?_set_ne (by omega)]; exact hc8), ?_, hty.kept (by simp; omega) fun b hb => ?_⟩
          · rw [List.getElem?_append_left (by omega)]; exact hfj
          · have hb2 := hF.2 b (hsub b hb)
            rw [hkeep b hb2.1]; exact HB1.out.block b hb2.2
    · have hkk : k = ts.length := by omega
      subst hkk
      go_wp2_with fail
      go_ret
      refine ⟨_, [w.heap.size] ++ fps.flatten, rfl, ⟨hln, _, _, [w.heap.size], fps, rfl, Nat.le_refl _, by omega, HL.out, rfl, fun b hb => by cases List.mem_singleton.1 hb; exact hgl, fun j hj hj2 => ?_⟩, (Fp.one (Nat.le_refl _) (Nat.lt_succ_self _)).join HF.out (by omega) (by omega), HB.out⟩
      obtain ⟨c0, c1, c2, c3, c4, c5, c6, c7, c8, f, hnz, hcn, hc0, hc1, hc2, hc3, hc4, hc5, hc6, hc7, hc8, hfj, hty⟩ := HD.out j hj hj2 hj
      refine ⟨w.heap.size, 0, c0, c1, c2, c3, c4, c5, c6, c7, c8, f, rfl, rfl, hgl, hnz, (by rw [Nat.zero_add, HO.out.cellAt (j * 10) (by omega)]; exact hcn), (by rw [Nat.zero_add, HO.out.cellAt (j * 10 + 1) (by omega)]; exact hc0), (by rw [Nat.zero_add, HO.out.cellAt (j * 10 + 2) (by omega)]; exact hc1), (by rw [Nat.zero_add, HO.out.cellAt (j * 10 + 3) (by omega)]; exact hc2), (by rw [Nat.zero_add, HO.out.cellAt (j * 10 + 4) (by omega)]; exact hc3), (by rw [Nat.zero_add, HO.out.cellAt (j * 10 + 5) (by omega)]; exact hc4), (by rw [Nat.zero_add, HO.out.cellAt (j * 10 + 6) (by omega)]; exact hc5), (by rw [Nat.zero_add, HO.out.cellAt (j * 10 + 7) (by omega)]; exact hc6), (by rw [Nat.zero_add, HO.out.cellAt (j * 10 + 8) (by omega)]; exact hc7), (by rw [Nat.zero_add, HO.out.cellAt (j * 10 + 9) (by omega)]; exact hc8), fun o => HO.out.frozenAt o, hfj, hty⟩

set_option maxRecDepth 100000 in
set_option maxHeartbeats 4000000 in
theorem toCo_step (d : Nat) (ih : ToCosSaid d) (ih2 : ToCbsSaid d) : ToCoSaid (d + 1) := by
  intro v t w hn h
  have IH := Lib.hid ih; clear ih
  have IH2 := Lib.hid ih2; clear ih2
  have HV := co_parts h
  cases t with
  | node kd nm0 n0 fr ty ts ns vs =>
    obtain ⟨c3, c4, c5, c6, sl, el, rfl, hk0, hk1, hn0, hn1, hnm, hfr, hty, h, he⟩ := h
    obtain ⟨k, nm, n, fk, fa, fn, fc, tk, ta, tn, tc, sa, sn, sc, ea, en, ec, hv⟩ := HV
    injection hv with hv
    injection hv with hv
    simp at hv
    obtain ⟨rfl, rfl, rfl, rfl, rfl, rfl, rfl, rfl, rfl⟩ := hv
    have hbk : (Co.node kd nm0 n0 fr ty ts ns vs).bulk = nm0.size + (fr.size - 1) + (ty.size - 1) + Co.bulks ts + (txs ns + Co.bulks vs) := rfl
    have hsz1 : fr.size ≤ 1048577 := by omega
    have hsz2 : ty.size ≤ 1048577 := by omega
    have hsz3 : Co.bulks ts ≤ 1048576 := by omega
    have hsz4 : Co.bulks vs ≤ 1048576 := by omega
    clear hn hbk
    have B : Hid (Below w.heap.size w (((w.alloc (.cells #[.int .i64 kd, .string nm0, .int .i64 n0, .int .i64 fk, .slice fa fn fc, .int .i64 tk, .slice ta tn tc, .slice sa sn sc, .slice ea en ec] 61)).alloc (.cells #[.int .i64 0, .string ⟨#[]⟩, .int .i64 0, .int .i64 0, .slice none 0 0, .int .i64 0, .slice none 0 0, .slice none 0 0, .slice none 0 0] 67)).alloc (.cells #[.int .i64 kd, .string nm0, .int .i64 n0, .int .i64 0, .slice none 0 0, .int .i64 0, .slice none 0 0, .slice none 0 0, .slice none 0 0] 67))) := (((Below.refl _ _).alloc (Nat.le_refl _) _).alloc (by simp) _).alloc (by simp; omega) _
    have HFR := Lib.hid (hfr.below B.out)
    have HTW := Lib.hid hty
    have HSW : Hid (CosAt w d (.slice sa sn sc) ts) := h
    have HEW : Hid (CbsAt w d (.slice ea en ec) ns vs) := he
    have XA : Hid (BoxAt (((w.alloc (.cells #[.int .i64 kd, .string nm0, .int .i64 n0, .int .i64 fk, .slice fa fn fc, .int .i64 tk, .slice ta tn tc, .slice sa sn sc, .slice ea en ec] 61)).alloc (.cells #[.int .i64 0, .string ⟨#[]⟩, .int .i64 0, .int .i64 0, .slice none 0 0, .int .i64 0, .slice none 0 0, .slice none 0 0, .slice none 0 0] 67)).alloc (.cells #[.int .i64 kd, .string nm0, .int .i64 n0, .int .i64 0, .slice none 0 0, .int .i64 0, .slice none 0 0, .slice none 0 0, .slice none 0 0] 67)) w.heap.size #[.int .i64 kd, .string nm0, .int .i64 n0, .int .i64 fk, .slice fa fn fc, .int .i64 tk, .slice ta tn tc, .slice sa sn sc, .slice ea en ec]) := ((BoxAt.new _ _ _).below (below_alloc _ _)).below (below_alloc _ _)
    have XR : Hid (BoxAt (((w.alloc (.cells #[.int .i64 kd, .string nm0, .int .i64 n0, .int .i64 fk, .slice fa fn fc, .int .i64 tk, .slice ta tn tc, .slice sa sn sc, .slice ea en ec] 61)).alloc (.cells #[.int .i64 0, .string ⟨#[]⟩, .int .i64 0, .int .i64 0, .slice none 0 0, .int .i64 0, .slice none 0 0, .slice none 0 0, .slice none 0 0] 67)).alloc (.cells #[.int .i64 kd, .string nm0, .int .i64 n0, .int .i64 0, .slice none 0 0, .int .i64 0, .slice none 0 0, .slice none 0 0, .slice none 0 0] 67)) (w.heap.size + 1) #[.int .i64 0, .string ⟨#[]⟩, .int .i64 0, .int .i64 0, .slice none 0 0, .int .i64 0, .slice none 0 0, .slice none 0 0, .slice none 0 0]) := (box_at (BoxAt.new _ _ _) (by simp)).below (below_alloc _ _)
    have XO : Hid (BoxAt (((w.alloc (.cells #[.int .i64 kd, .string nm0, .int .i64 n0, .int .i64 fk, .slice fa fn fc, .int .i64 tk, .slice ta tn tc, .slice sa sn sc, .slice ea en ec] 61)).alloc (.cells #[.int .i64 0, .string ⟨#[]⟩, .int .i64 0, .int .i64 0, .slice none 0 0, .int .i64 0, .slice none 0 0, .slice none 0 0, .slice none 0 0] 67)).alloc (.cells #[.int .i64 kd, .string nm0, .int .i64 n0, .int .i64 0, .slice none 0 0, .int .i64 0, .slice none 0 0, .slice none 0 0, .slice none 0 0] 67)) (w.heap.size + 1 + 1) #[.int .i64 kd, .string nm0, .int .i64 n0, .int .i64 0, .slice none 0 0, .int .i64 0, .slice none 0 0, .slice none 0 0, .slice none 0 0]) := box_at (BoxAt.new _ _ _) (by simp)
    have FR : Hid (FreeAt (((w.alloc (.cells #[.int .i64 kd, .string nm0, .int .i64 n0, .int .i64 fk, .slice fa fn fc, .int .i64 tk, .slice ta tn tc, .slice sa sn sc, .slice ea en ec] 61)).alloc (.cells #[.int .i64 0, .string ⟨#[]⟩, .int .i64 0, .int .i64 0, .slice none 0 0, .int .i64 0, .slice none 0 0, .slice none 0 0, .slice none 0 0] 67)).alloc (.cells #[.int .i64 kd, .string nm0, .int .i64 n0, .int .i64 0, .slice none 0 0, .int .i64 0, .slice none 0 0, .slice none 0 0, .slice none 0 0] 67)) (w.heap.size + 1)) := (free_at (FreeAt.new _ _ _) (by simp)).below (below_alloc _ _)
    have FO : Hid (FreeAt (((w.alloc (.cells #[.int .i64 kd, .string nm0, .int .i64 n0, .int .i64 fk, .slice fa fn fc, .int .i64 tk, .slice ta tn tc, .slice sa sn sc, .slice ea en ec] 61)).alloc (.cells #[.int .i64 0, .string ⟨#[]⟩, .int .i64 0, .int .i64 0, .slice none 0 0, .int .i64 0, .slice none 0 0, .slice none 0 0, .slice none 0 0] 67)).alloc (.cells #[.int .i64 kd, .string nm0, .int .i64 n0, .int .i64 0, .slice none 0 0, .int .i64 0, .slice none 0 0, .slice none 0 0, .slice none 0 0] 67)) (w.heap.size + 1 + 1)) := free_at (FreeAt.new _ _ _) (by simp)
    have hz0 : (((w.alloc (.cells #[.int .i64 kd, .string nm0, .int .i64 n0, .int .i64 fk, .slice fa fn fc, .int .i64 tk, .slice ta tn tc, .slice sa sn sc, .slice ea en ec] 61)).alloc (.cells #[.int .i64 0, .string ⟨#[]⟩, .int .i64 0, .int .i64 0, .slice none 0 0, .int .i64 0, .slice none 0 0, .slice none 0 0, .slice none 0 0] 67)).alloc (.cells #[.int .i64 kd, .string nm0, .int .i64 n0, .int .i64 0, .slice none 0 0, .int .i64 0, .slice none 0 0, .slice none 0 0, .slice none 0 0] 67)).heap.size = w.heap.size + 3 := by simp
    clear hfr hty h he
    go_enter Tryd.func28, Tryd.ntmps28
    go_wp2_with fail
    refine ((toTy_all d).1 _ fr _ hsz1 HFR.out).mono ?_
    rintro e w1 ⟨v1, f1, rfl, ht, hf, hb⟩
    have hz1 := hb.size
    rw [hz0] at hz1 hf
    obtain ⟨gk, ga, gn, gc, rfl, HG⟩ := ty_parts ht
    have F1 := Lib.hid hf
    clear HFR
    have B0 := Lib.hid (below_thru B.out (Nat.le_refl _) hb)
    have XA0 := Lib.hid (XA.out.below hb)
    have XR0 := Lib.hid (XR.out.below hb)
    have XO0 := Lib.hid (XO.out.below hb)
    have FR0 := Lib.hid (FR.out.below hb)
    have FO0 := Lib.hid (FO.out.below hb)
    clear hb ht hf
    clear B
    have B := B0
    clear B0
    clear XA
    have XA := XA0
    clear XA0
    clear XR
    have XR := XR0
    clear XR0
    clear XO
    have XO := XO0
    clear XO0
    clear FR
    have FR := FR0
    clear FR0
    clear FO
    have FO := FO0
    clear FO0
    have BS : Hid (Below w.heap.size w ((w1.setCell ⟨w.heap.size + 1 + 1, 3, none⟩ (.int .i64 gk)).setCell ⟨w.heap.size + 1 + 1, 4, none⟩ (.slice ga gn gc))) := ((B.out.setCell (by simp; omega) _).setCell (by simp; omega) _)
    have XOS : Hid (BoxAt ((w1.setCell ⟨w.heap.size + 1 + 1, 3, none⟩ (.int .i64 gk)).setCell ⟨w.heap.size + 1 + 1, 4, none⟩ (.slice ga gn gc)) (w.heap.size + 1 + 1) #[.int .i64 kd, .string nm0, .int .i64 n0, .int .i64 gk, .slice ga gn gc, .int .i64 0, .slice none 0 0, .slice none 0 0, .slice none 0 0]) := by
      have := ((XO.out.put (j := 3) (u := .int .i64 gk) (by simp)).put (j := 4) (u := .slice ga gn gc) (by simp))
      exact this
    have XRS : Hid (BoxAt ((w1.setCell ⟨w.heap.size + 1 + 1, 3, none⟩ (.int .i64 gk)).setCell ⟨w.heap.size + 1 + 1, 4, none⟩ (.slice ga gn gc)) (w.heap.size + 1) #[.int .i64 0, .string ⟨#[]⟩, .int .i64 0, .int .i64 0, .slice none 0 0, .int .i64 0, .slice none 0 0, .slice none 0 0, .slice none 0 0]) := (XR.out.stored (by omega)).stored (by omega)
    have XAS : Hid (BoxAt ((w1.setCell ⟨w.heap.size + 1 + 1, 3, none⟩ (.int .i64 gk)).setCell ⟨w.heap.size + 1 + 1, 4, none⟩ (.slice ga gn gc)) w.heap.size #[.int .i64 kd, .string nm0, .int .i64 n0, .int .i64 fk, .slice fa fn fc, .int .i64 tk, .slice ta tn tc, .slice sa sn sc, .slice ea en ec]) := (XA.out.stored (by omega)).stored (by omega)
    have FRS : Hid (FreeAt ((w1.setCell ⟨w.heap.size + 1 + 1, 3, none⟩ (.int .i64 gk)).setCell ⟨w.heap.size + 1 + 1, 4, none⟩ (.slice ga gn gc)) (w.heap.size + 1)) := FR.out.put.put
    have FOS : Hid (FreeAt ((w1.setCell ⟨w.heap.size + 1 + 1, 3, none⟩ (.int .i64 gk)).setCell ⟨w.heap.size + 1 + 1, 4, none⟩ (.slice ga gn gc)) (w.heap.size + 1 + 1)) := FO.out.put.put
    have hsz : ((w1.setCell ⟨w.heap.size + 1 + 1, 3, none⟩ (.int .i64 gk)).setCell ⟨w.heap.size + 1 + 1, 4, none⟩ (.slice ga gn gc)).heap.size = w1.heap.size := by simp
    have K1 : Hid (∀ b, w.heap.size + 3 ≤ b → ((w1.setCell ⟨w.heap.size + 1 + 1, 3, none⟩ (.int .i64 gk)).setCell ⟨w.heap.size + 1 + 1, 4, none⟩ (.slice ga gn gc)).heap[b]? = w1.heap[b]?) := fun b hb => by rw [heap_setCell_other _ _ _ _ (by simp; omega), heap_setCell_other _ _ _ _ (by simp; omega)]
    have HTS := Lib.hid (HTW.out.below BS.out)
    have a5 := XA.out.2 5
    have a5s := XAS.out.2 5
    have a6 := XA.out.2 6
    have a6s := XAS.out.2 6
    have o3 := XO.out.2 3
    have u3 := FO.out.2 3
    have o4 := XO.out.2 4
    have u4 := FO.out.2 4
    go_wp2_with fail
    clear a5 a5s a6 a6s o3 u3 o4 u4 XA XR XO FR FO B
    refine ((toTy_all d).1 _ ty _ hsz2 HTS.out).mono ?_
    rintro e w2 ⟨v2, f2, rfl, ht, hf, hb⟩
    have hz2 := hb.size
    rw [hsz] at hz2 hf
    obtain ⟨qk, qa, qn, qc, rfl, HQ⟩ := ty_parts ht
    have F2 := Lib.hid hf
    clear HTS
    have B0 := Lib.hid (below_thru BS.out (Nat.le_refl _) hb)
    have XA0 := Lib.hid (XAS.out.below hb)
    have XR0 := Lib.hid (XRS.out.below hb)
    have XO0 := Lib.hid (XOS.out.below hb)
    have FR0 := Lib.hid (FRS.out.below hb)
    have FO0 := Lib.hid (FOS.out.below hb)
    have L1 : Hid (∀ b, b < w1.heap.size → w2.heap[b]? = ((w1.setCell ⟨w.heap.size + 1 + 1, 3, none⟩ (.int .i64 gk)).setCell ⟨w.heap.size + 1 + 1, 4, none⟩ (.slice ga gn gc)).heap[b]?) := fun b h1 => hb.block b (by rw [hsz]; exact h1)
    clear hb ht hf hsz BS
    have B := B0
    clear B0
    clear XAS
    have XA := XA0
    clear XA0
    clear XRS
    have XR := XR0
    clear XR0
    clear XOS
    have XO := XO0
    clear XO0
    clear FRS
    have FR := FR0
    clear FR0
    clear FOS
    have FO := FO0
    clear FO0
    have BS : Hid (Below w.heap.size w ((w2.setCell ⟨w.heap.size + 1 + 1, 5, none⟩ (.int .i64 qk)).setCell ⟨w.heap.size + 1 + 1, 6, none⟩ (.slice qa qn qc))) := ((B.out.setCell (by simp; omega) _).setCell (by simp; omega) _)
    have XOS : Hid (BoxAt ((w2.setCell ⟨w.heap.size + 1 + 1, 5, none⟩ (.int .i64 qk)).setCell ⟨w.heap.size + 1 + 1, 6, none⟩ (.slice qa qn qc)) (w.heap.size + 1 + 1) #[.int .i64 kd, .string nm0, .int .i64 n0, .int .i64 gk, .slice ga gn gc, .int .i64 qk, .slice qa qn qc, .slice none 0 0, .slice none 0 0]) := by
      have := ((XO.out.put (j := 5) (u := .int .i64 qk) (by simp)).put (j := 6) (u := .slice qa qn qc) (by simp))
      exact this
    have XRS : Hid (BoxAt ((w2.setCell ⟨w.heap.size + 1 + 1, 5, none⟩ (.int .i64 qk)).setCell ⟨w.heap.size + 1 + 1, 6, none⟩ (.slice qa qn qc)) (w.heap.size + 1) #[.int .i64 0, .string ⟨#[]⟩, .int .i64 0, .int .i64 0, .slice none 0 0, .int .i64 0, .slice none 0 0, .slice none 0 0, .slice none 0 0]) := (XR.out.stored (by omega)).stored (by omega)
    have XAS : Hid (BoxAt ((w2.setCell ⟨w.heap.size + 1 + 1, 5, none⟩ (.int .i64 qk)).setCell ⟨w.heap.size + 1 + 1, 6, none⟩ (.slice qa qn qc)) w.heap.size #[.int .i64 kd, .string nm0, .int .i64 n0, .int .i64 fk, .slice fa fn fc, .int .i64 tk, .slice ta tn tc, .slice sa sn sc, .slice ea en ec]) := (XA.out.stored (by omega)).stored (by omega)
    have FRS : Hid (FreeAt ((w2.setCell ⟨w.heap.size + 1 + 1, 5, none⟩ (.int .i64 qk)).setCell ⟨w.heap.size + 1 + 1, 6, none⟩ (.slice qa qn qc)) (w.heap.size + 1)) := FR.out.put.put
    have FOS : Hid (FreeAt ((w2.setCell ⟨w.heap.size + 1 + 1, 5, none⟩ (.int .i64 qk)).setCell ⟨w.heap.size + 1 + 1, 6, none⟩ (.slice qa qn qc)) (w.heap.size + 1 + 1)) := FO.out.put.put
    have hsz : ((w2.setCell ⟨w.heap.size + 1 + 1, 5, none⟩ (.int .i64 qk)).setCell ⟨w.heap.size + 1 + 1, 6, none⟩ (.slice qa qn qc)).heap.size = w2.heap.size := by simp
    have K2 : Hid (∀ b, w.heap.size + 3 ≤ b → ((w2.setCell ⟨w.heap.size + 1 + 1, 5, none⟩ (.int .i64 qk)).setCell ⟨w.heap.size + 1 + 1, 6, none⟩ (.slice qa qn qc)).heap[b]? = w2.heap[b]?) := fun b hb => by rw [heap_setCell_other _ _ _ _ (by simp; omega), heap_setCell_other _ _ _ _ (by simp; omega)]
    have HSS := Lib.hid (HSW.out.below BS.out)
    have a7 := XA.out.2 7
    have a7s := XAS.out.2 7
    have o5 := XO.out.2 5
    have u5 := FO.out.2 5
    have o6 := XO.out.2 6
    have u6 := FO.out.2 6
    go_wp2_with fail
    clear a7 a7s o5 u5 o6 u6 XA XR XO FR FO B
    refine (IH.out _ ts _ hsz3 HSS.out).mono ?_
    rintro e w3 ⟨v3, f3, rfl, ht, hf, hb⟩
    have hz3 := hb.size
    rw [hsz] at hz3 hf
    have HR := Lib.hid ht
    obtain ⟨ra, rc, hd9, fps9, rfl, _⟩ := ht
    have F3 := Lib.hid hf
    clear HSS
    have B0 := Lib.hid (below_thru BS.out (Nat.le_refl _) hb)
    have XA0 := Lib.hid (XAS.out.below hb)
    have XR0 := Lib.hid (XRS.out.below hb)
    have XO0 := Lib.hid (XOS.out.below hb)
    have FR0 := Lib.hid (FRS.out.below hb)
    have FO0 := Lib.hid (FOS.out.below hb)
    have L2 : Hid (∀ b, b < w2.heap.size → w3.heap[b]? = ((w2.setCell ⟨w.heap.size + 1 + 1, 5, none⟩ (.int .i64 qk)).setCell ⟨w.heap.size + 1 + 1, 6, none⟩ (.slice qa qn qc)).heap[b]?) := fun b h1 => hb.block b (by rw [hsz]; exact h1)
    clear hb hf hsz BS
    have B := B0
    clear B0
    clear XAS
    have XA := XA0
    clear XA0
    clear XRS
    have XR := XR0
    clear XR0
    clear XOS
    have XO := XO0
    clear XO0
    clear FRS
    have FR := FR0
    clear FR0
    clear FOS
    have FO := FO0
    clear FO0
    have BS : Hid (Below w.heap.size w (w3.setCell ⟨w.heap.size + 1 + 1, 7, none⟩ (.slice ra ts.length rc))) := (B.out.setCell (by simp; omega) _)
    have XOS : Hid (BoxAt (w3.setCell ⟨w.heap.size + 1 + 1, 7, none⟩ (.slice ra ts.length rc)) (w.heap.size + 1 + 1) #[.int .i64 kd, .string nm0, .int .i64 n0, .int .i64 gk, .slice ga gn gc, .int .i64 qk, .slice qa qn qc, .slice ra ts.length rc, .slice none 0 0]) := by
      have := (XO.out.put (j := 7) (u := .slice ra ts.length rc) (by simp))
      exact this
    have XRS : Hid (BoxAt (w3.setCell ⟨w.heap.size + 1 + 1, 7, none⟩ (.slice ra ts.length rc)) (w.heap.size + 1) #[.int .i64 0, .string ⟨#[]⟩, .int .i64 0, .int .i64 0, .slice none 0 0, .int .i64 0, .slice none 0 0, .slice none 0 0, .slice none 0 0]) := XR.out.stored (by omega)
    have XAS : Hid (BoxAt (w3.setCell ⟨w.heap.size + 1 + 1, 7, none⟩ (.slice ra ts.length rc)) w.heap.size #[.int .i64 kd, .string nm0, .int .i64 n0, .int .i64 fk, .slice fa fn fc, .int .i64 tk, .slice ta tn tc, .slice sa sn sc, .slice ea en ec]) := XA.out.stored (by omega)
    have FRS : Hid (FreeAt (w3.setCell ⟨w.heap.size + 1 + 1, 7, none⟩ (.slice ra ts.length rc)) (w.heap.size + 1)) := FR.out.put
    have FOS : Hid (FreeAt (w3.setCell ⟨w.heap.size + 1 + 1, 7, none⟩ (.slice ra ts.length rc)) (w.heap.size + 1 + 1)) := FO.out.put
    have hsz : (w3.setCell ⟨w.heap.size + 1 + 1, 7, none⟩ (.slice ra ts.length rc)).heap.size = w3.heap.size := by simp
    have K3 : Hid (∀ b, w.heap.size + 3 ≤ b → (w3.setCell ⟨w.heap.size + 1 + 1, 7, none⟩ (.slice ra ts.length rc)).heap[b]? = w3.heap[b]?) := fun b hb => by rw [heap_setCell_other _ _ _ _ (by simp; omega)]
    have HES := Lib.hid (HEW.out.below BS.out)
    have a8 := XA.out.2 8
    have a8s := XAS.out.2 8
    have o7 := XO.out.2 7
    have u7 := FO.out.2 7
    go_wp2_with fail
    clear a8 a8s o7 u7 XA XR XO FR FO B
    refine (IH2.out _ ns vs _ hsz4 HES.out).mono ?_
    rintro e w4 ⟨v4, f4, rfl, ht, hf, hb⟩
    have hz4 := hb.size
    rw [hsz] at hz4 hf
    have HX := Lib.hid ht
    obtain ⟨hln9, xa, xc, hd8, fps8, rfl, _⟩ := ht
    have F4 := Lib.hid hf
    clear HES
    have B0 := Lib.hid (below_thru BS.out (Nat.le_refl _) hb)
    have XA0 := Lib.hid (XAS.out.below hb)
    have XR0 := Lib.hid (XRS.out.below hb)
    have XO0 := Lib.hid (XOS.out.below hb)
    have FR0 := Lib.hid (FRS.out.below hb)
    have FO0 := Lib.hid (FOS.out.below hb)
    have L3 : Hid (∀ b, b < w3.heap.size → w4.heap[b]? = (w3.setCell ⟨w.heap.size + 1 + 1, 7, none⟩ (.slice ra ts.length rc)).heap[b]?) := fun b h1 => hb.block b (by rw [hsz]; exact h1)
    clear hb hf hsz BS
    have B := B0
    clear B0
    clear XAS
    have XA := XA0
    clear XA0
    clear XRS
    have XR := XR0
    clear XR0
    clear XOS
    have XO := XO0
    clear XO0
    clear FRS
    have FR := FR0
    clear FR0
    clear FOS
    have FO := FO0
    clear FO0
    have o0 := XO.out.2 0
    have u0 := FO.out.2 0
    have r0 := XR.out.2 0
    have s0 := FR.out.2 0
    have o1 := XO.out.2 1
    have u1 := FO.out.2 1
    have r1 := XR.out.2 1
    have s1 := FR.out.2 1
    have o2 := XO.out.2 2
    have u2 := FO.out.2 2
    have r2 := XR.out.2 2
    have s2 := FR.out.2 2
    have o3 := XO.out.2 3
    have u3 := FO.out.2 3
    have r3 := XR.out.2 3
    have s3 := FR.out.2 3
    have o4 := XO.out.2 4
    have u4 := FO.out.2 4
    have r4 := XR.out.2 4
    have s4 := FR.out.2 4
    have o5 := XO.out.2 5
    have u5 := FO.out.2 5
    have r5 := XR.out.2 5
    have s5 := FR.out.2 5
    have o6 := XO.out.2 6
    have u6 := FO.out.2 6
    have r6 := XR.out.2 6
    have s6 := FR.out.2 6
    have o7 := XO.out.2 7
    have u7 := FO.out.2 7
    have r7 := XR.out.2 7
    have s7 := FR.out.2 7
    have o8 := XO.out.2 8
    have u8 := FO.out.2 8
    have r8 := XR.out.2 8
    have s8 := FR.out.2 8
    go_wp2_with fail
    have XRF : BoxAt ((((((((((w4.setCell ⟨w.heap.size + 1 + 1, 8, none⟩ (.slice xa vs.length xc)).setCell ⟨w.heap.size + 1, 0, none⟩ (.int .i64 kd)).setCell ⟨w.heap.size + 1, 1, none⟩ (.string nm0)).setCell ⟨w.heap.size + 1, 2, none⟩ (.int .i64 n0)).setCell ⟨w.heap.size + 1, 3, none⟩ (.int .i64 gk)).setCell ⟨w.heap.size + 1, 4, none⟩ (.slice ga gn gc)).setCell ⟨w.heap.size + 1, 5, none⟩ (.int .i64 qk)).setCell ⟨w.heap.size + 1, 6, none⟩ (.slice qa qn qc)).setCell ⟨w.heap.size + 1, 7, none⟩ (.slice ra ts.length rc)).setCell ⟨w.heap.size + 1, 8, none⟩ (.slice xa vs.length xc)) (w.heap.size + 1) #[.int .i64 kd, .string nm0, .int .i64 n0, .int .i64 gk, .slice ga gn gc, .int .i64 qk, .slice qa qn qc, .slice ra ts.length rc, .slice xa vs.length xc] := by
      have := BoxAt.puts [.int .i64 kd, .string nm0, .int .i64 n0, .int .i64 gk, .slice ga gn gc, .int .i64 qk, .slice qa qn qc, .slice ra ts.length rc, .slice xa vs.length xc] [.int .i64 0, .string ⟨#[]⟩, .int .i64 0, .int .i64 0, .slice none 0 0, .int .i64 0, .slice none 0 0, .slice none 0 0, .slice none 0 0] [] _ (XR.out.stored (q := w.heap.size + 1 + 1) (j := 8) (u := .slice xa vs.length xc) (by omega)) rfl
      exact this
    have K4 : ∀ b, w.heap.size + 3 ≤ b → ((((((((((w4.setCell ⟨w.heap.size + 1 + 1, 8, none⟩ (.slice xa vs.length xc)).setCell ⟨w.heap.size + 1, 0, none⟩ (.int .i64 kd)).setCell ⟨w.heap.size + 1, 1, none⟩ (.string nm0)).setCell ⟨w.heap.size + 1, 2, none⟩ (.int .i64 n0)).setCell ⟨w.heap.size + 1, 3, none⟩ (.int .i64 gk)).setCell ⟨w.heap.size + 1, 4, none⟩ (.slice ga gn gc)).setCell ⟨w.heap.size + 1, 5, none⟩ (.int .i64 qk)).setCell ⟨w.heap.size + 1, 6, none⟩ (.slice qa qn qc)).setCell ⟨w.heap.size + 1, 7, none⟩ (.slice ra ts.length rc)).setCell ⟨w.heap.size + 1, 8, none⟩ (.slice xa vs.length xc)).heap[b]? = w4.heap[b]? := fun b hb => by
      rw [heap_setCell_other _ _ _ _ (by simp; omega), heap_setCell_other _ _ _ _ (by simp; omega), heap_setCell_other _ _ _ _ (by simp; omega), heap_setCell_other _ _ _ _ (by simp; omega), heap_setCell_other _ _ _ _ (by simp; omega), heap_setCell_other _ _ _ _ (by simp; omega), heap_setCell_other _ _ _ _ (by simp; omega), heap_setCell_other _ _ _ _ (by simp; omega), heap_setCell_other _ _ _ _ (by simp; omega), heap_setCell_other _ _ _ _ (by simp; omega)]
    have hzf : ((((((((((w4.setCell ⟨w.heap.size + 1 + 1, 8, none⟩ (.slice xa vs.length xc)).setCell ⟨w.heap.size + 1, 0, none⟩ (.int .i64 kd)).setCell ⟨w.heap.size + 1, 1, none⟩ (.string nm0)).setCell ⟨w.heap.size + 1, 2, none⟩ (.int .i64 n0)).setCell ⟨w.heap.size + 1, 3, none⟩ (.int .i64 gk)).setCell ⟨w.heap.size + 1, 4, none⟩ (.slice ga gn gc)).setCell ⟨w.heap.size + 1, 5, none⟩ (.int .i64 qk)).setCell ⟨w.heap.size + 1, 6, none⟩ (.slice qa qn qc)).setCell ⟨w.heap.size + 1, 7, none⟩ (.slice ra ts.length rc)).setCell ⟨w.heap.size + 1, 8, none⟩ (.slice xa vs.length xc)).heap.size = w4.heap.size := by simp
    have hbF : Below w.heap.size w ((((((((((w4.setCell ⟨w.heap.size + 1 + 1, 8, none⟩ (.slice xa vs.length xc)).setCell ⟨w.heap.size + 1, 0, none⟩ (.int .i64 kd)).setCell ⟨w.heap.size + 1, 1, none⟩ (.string nm0)).setCell ⟨w.heap.size + 1, 2, none⟩ (.int .i64 n0)).setCell ⟨w.heap.size + 1, 3, none⟩ (.int .i64 gk)).setCell ⟨w.heap.size + 1, 4, none⟩ (.slice ga gn gc)).setCell ⟨w.heap.size + 1, 5, none⟩ (.int .i64 qk)).setCell ⟨w.heap.size + 1, 6, none⟩ (.slice qa qn qc)).setCell ⟨w.heap.size + 1, 7, none⟩ (.slice ra ts.length rc)).setCell ⟨w.heap.size + 1, 8, none⟩ (.slice xa vs.length xc)) := ((((((((((B.out.setCell (by simp; omega) _).setCell (by simp) _).setCell (by simp) _).setCell (by simp) _).setCell (by simp) _).setCell (by simp) _).setCell (by simp) _).setCell (by simp) _).setCell (by simp) _).setCell (by simp) _)
    have g0 := XRF.2 0
    have g1 := XRF.2 1
    have g2 := XRF.2 2
    have g3 := XRF.2 3
    have g4 := XRF.2 4
    have g5 := XRF.2 5
    have g6 := XRF.2 6
    have g7 := XRF.2 7
    have g8 := XRF.2 8
    clear XRF
    have q1 := F1.out.2
    have q2 := F2.out.2
    have q3 := F3.out.2
    have HGF : TyOwn ((((((((((w4.setCell ⟨w.heap.size + 1 + 1, 8, none⟩ (.slice xa vs.length xc)).setCell ⟨w.heap.size + 1, 0, none⟩ (.int .i64 kd)).setCell ⟨w.heap.size + 1, 1, none⟩ (.string nm0)).setCell ⟨w.heap.size + 1, 2, none⟩ (.int .i64 n0)).setCell ⟨w.heap.size + 1, 3, none⟩ (.int .i64 gk)).setCell ⟨w.heap.size + 1, 4, none⟩ (.slice ga gn gc)).setCell ⟨w.heap.size + 1, 5, none⟩ (.int .i64 qk)).setCell ⟨w.heap.size + 1, 6, none⟩ (.slice qa qn qc)).setCell ⟨w.heap.size + 1, 7, none⟩ (.slice ra ts.length rc)).setCell ⟨w.heap.size + 1, 8, none⟩ (.slice xa vs.length xc)) d (.agg #[.int .i64 gk, .slice ga gn gc]) fr f1 := HG.out.kept (by rw [hzf]; omega) fun b hb => by
      have hq := q1 b hb
      rw [K4 b hq.1, L3.out b (by omega), K3.out b hq.1, L2.out b (by omega), K2.out b hq.1, L1.out b hq.2, K1.out b hq.1]
    have HQF : TyOwn ((((((((((w4.setCell ⟨w.heap.size + 1 + 1, 8, none⟩ (.slice xa vs.length xc)).setCell ⟨w.heap.size + 1, 0, none⟩ (.int .i64 kd)).setCell ⟨w.heap.size + 1, 1, none⟩ (.string nm0)).setCell ⟨w.heap.size + 1, 2, none⟩ (.int .i64 n0)).setCell ⟨w.heap.size + 1, 3, none⟩ (.int .i64 gk)).setCell ⟨w.heap.size + 1, 4, none⟩ (.slice ga gn gc)).setCell ⟨w.heap.size + 1, 5, none⟩ (.int .i64 qk)).setCell ⟨w.heap.size + 1, 6, none⟩ (.slice qa qn qc)).setCell ⟨w.heap.size + 1, 7, none⟩ (.slice ra ts.length rc)).setCell ⟨w.heap.size + 1, 8, none⟩ (.slice xa vs.length xc)) d (.agg #[.int .i64 qk, .slice qa qn qc]) ty f2 := HQ.out.kept (by rw [hzf]; omega) fun b hb => by
      have hq := q2 b hb
      rw [K4 b (by omega), L3.out b (by omega), K3.out b (by omega), L2.out b hq.2, K2.out b (by omega)]
    have HRF : CosOwn ((((((((((w4.setCell ⟨w.heap.size + 1 + 1, 8, none⟩ (.slice xa vs.length xc)).setCell ⟨w.heap.size + 1, 0, none⟩ (.int .i64 kd)).setCell ⟨w.heap.size + 1, 1, none⟩ (.string nm0)).setCell ⟨w.heap.size + 1, 2, none⟩ (.int .i64 n0)).setCell ⟨w.heap.size + 1, 3, none⟩ (.int .i64 gk)).setCell ⟨w.heap.size + 1, 4, none⟩ (.slice ga gn gc)).setCell ⟨w.heap.size + 1, 5, none⟩ (.int .i64 qk)).setCell ⟨w.heap.size + 1, 6, none⟩ (.slice qa qn qc)).setCell ⟨w.heap.size + 1, 7, none⟩ (.slice ra ts.length rc)).setCell ⟨w.heap.size + 1, 8, none⟩ (.slice xa vs.length xc)) d (.slice ra ts.length rc) ts f3 := CosOwn.kept HR.out (by rw [hzf]; omega) fun b hb => by
      have hq := q3 b hb
      rw [K4 b (by omega), L3.out b hq.2, K3.out b (by omega)]
    have HXF : CbsOwn ((((((((((w4.setCell ⟨w.heap.size + 1 + 1, 8, none⟩ (.slice xa vs.length xc)).setCell ⟨w.heap.size + 1, 0, none⟩ (.int .i64 kd)).setCell ⟨w.heap.size + 1, 1, none⟩ (.string nm0)).setCell ⟨w.heap.size + 1, 2, none⟩ (.int .i64 n0)).setCell ⟨w.heap.size + 1, 3, none⟩ (.int .i64 gk)).setCell ⟨w.heap.size + 1, 4, none⟩ (.slice ga gn gc)).setCell ⟨w.heap.size + 1, 5, none⟩ (.int .i64 qk)).setCell ⟨w.heap.size + 1, 6, none⟩ (.slice qa qn qc)).setCell ⟨w.heap.size + 1, 7, none⟩ (.slice ra ts.length rc)).setCell ⟨w.heap.size + 1, 8, none⟩ (.slice xa vs.length xc)) d (.slice xa vs.length xc) ns vs f4 := CbsOwn.kept HX.out (by rw [hzf]; omega) fun b hb => K4 b (by have := (F4.out.2 b hb).1; omega)
    have hfp : Fp w.heap.size ((((((((((w4.setCell ⟨w.heap.size + 1 + 1, 8, none⟩ (.slice xa vs.length xc)).setCell ⟨w.heap.size + 1, 0, none⟩ (.int .i64 kd)).setCell ⟨w.heap.size + 1, 1, none⟩ (.string nm0)).setCell ⟨w.heap.size + 1, 2, none⟩ (.int .i64 n0)).setCell ⟨w.heap.size + 1, 3, none⟩ (.int .i64 gk)).setCell ⟨w.heap.size + 1, 4, none⟩ (.slice ga gn gc)).setCell ⟨w.heap.size + 1, 5, none⟩ (.int .i64 qk)).setCell ⟨w.heap.size + 1, 6, none⟩ (.slice qa qn qc)).setCell ⟨w.heap.size + 1, 7, none⟩ (.slice ra ts.length rc)).setCell ⟨w.heap.size + 1, 8, none⟩ (.slice xa vs.length xc)).heap.size (f1 ++ (f2 ++ (f3 ++ f4))) := by
      rw [hzf]
      exact (F1.out.join (F2.out.join (F3.out.join F4.out (by omega) (by omega)) (by omega) (by omega)) (by omega) (by omega)).mono (by omega) (Nat.le_refl _)
    generalize ((((((((((w4.setCell ⟨w.heap.size + 1 + 1, 8, none⟩ (.slice xa vs.length xc)).setCell ⟨w.heap.size + 1, 0, none⟩ (.int .i64 kd)).setCell ⟨w.heap.size + 1, 1, none⟩ (.string nm0)).setCell ⟨w.heap.size + 1, 2, none⟩ (.int .i64 n0)).setCell ⟨w.heap.size + 1, 3, none⟩ (.int .i64 gk)).setCell ⟨w.heap.size + 1, 4, none⟩ (.slice ga gn gc)).setCell ⟨w.heap.size + 1, 5, none⟩ (.int .i64 qk)).setCell ⟨w.heap.size + 1, 6, none⟩ (.slice qa qn qc)).setCell ⟨w.heap.size + 1, 7, none⟩ (.slice ra ts.length rc)).setCell ⟨w.heap.size + 1, 8, none⟩ (.slice xa vs.length xc)) = WX at g0 g1 g2 g3 g4 g5 g6 g7 g8 HGF HQF HRF HXF hfp hbF ⊢
    refine bodyPost_ret (v := .agg #[.int .i64 kd, .string nm0, .int .i64 n0, .int .i64 gk, .slice ga gn gc, .int .i64 qk, .slice qa qn qc, .slice ra ts.length rc, .slice xa vs.length xc]) (by simp [results, Tryd.results28, go_sem, g0, g1, g2, g3, g4, g5, g6, g7, g8]) rfl ?_
    exact ⟨_, _, rfl, ⟨_, _, _, _, _, _, f1, f2, f3, f4, rfl, hk0, hk1, hn0, hn1, hnm, rfl, HGF, HQF, HRF, HXF⟩, hfp, hbF⟩

set_option maxRecDepth 100000 in
set_option maxHeartbeats 4000000 in
theorem toCb_step (d : Nat) (ih : ToCoSaid d) : ToCbSaid d := by
  intro v nm0 t w hn h
  have IH := Lib.hid ih; clear ih
  obtain ⟨k, nm, n, fk, fa, fn, fc, tk, ta, tn, tc, sa, sn, sc, ea, en, ec, rfl⟩ := cb_parts h
  obtain ⟨hnz, c0, c1, c2, c3, c4, c5, c6, c7, c8, hv, h⟩ := h
  have hv2 : .int .i64 k = c0 ∧ .string nm = c1 ∧ .int .i64 n = c2 ∧ .int .i64 fk = c3 ∧ .slice fa fn fc = c4 ∧ .int .i64 tk = c5 ∧ .slice ta tn tc = c6 ∧ .slice sa sn sc = c7 ∧ .slice ea en ec = c8 := by injection hv with hv; injection hv with hv; simpa using hv
  obtain ⟨rfl, rfl, rfl, rfl, rfl, rfl, rfl, rfl, rfl⟩ := hv2
  clear hv
  have B : Hid (Below w.heap.size w (((w.alloc (.cells #[.string nm0, .int .i64 k, .string nm, .int .i64 n, .int .i64 fk, .slice fa fn fc, .int .i64 tk, .slice ta tn tc, .slice sa sn sc, .slice ea en ec] 120)).alloc (.cells #[.string ⟨#[]⟩, .int .i64 0, .string ⟨#[]⟩, .int .i64 0, .int .i64 0, .slice none 0 0, .int .i64 0, .slice none 0 0, .slice none 0 0, .slice none 0 0] 127)).alloc (.cells #[.string nm0, .int .i64 0, .string ⟨#[]⟩, .int .i64 0, .int .i64 0, .slice none 0 0, .int .i64 0, .slice none 0 0, .slice none 0 0, .slice none 0 0] 127))) := (((Below.refl _ _).alloc (Nat.le_refl _) _).alloc (by simp) _).alloc (by simp; omega) _
  have HT := Lib.hid (h.below B.out)
  have XA : Hid (BoxAt (((w.alloc (.cells #[.string nm0, .int .i64 k, .string nm, .int .i64 n, .int .i64 fk, .slice fa fn fc, .int .i64 tk, .slice ta tn tc, .slice sa sn sc, .slice ea en ec] 120)).alloc (.cells #[.string ⟨#[]⟩, .int .i64 0, .string ⟨#[]⟩, .int .i64 0, .int .i64 0, .slice none 0 0, .int .i64 0, .slice none 0 0, .slice none 0 0, .slice none 0 0] 127)).alloc (.cells #[.string nm0, .int .i64 0, .string ⟨#[]⟩, .int .i64 0, .int .i64 0, .slice none 0 0, .int .i64 0, .slice none 0 0, .slice none 0 0, .slice none 0 0] 127)) w.heap.size #[.string nm0, .int .i64 k, .string nm, .int .i64 n, .int .i64 fk, .slice fa fn fc, .int .i64 tk, .slice ta tn tc, .slice sa sn sc, .slice ea en ec]) := ((BoxAt.new _ _ _).below (below_alloc _ _)).below (below_alloc _ _)
  have XR : Hid (BoxAt (((w.alloc (.cells #[.string nm0, .int .i64 k, .string nm, .int .i64 n, .int .i64 fk, .slice fa fn fc, .int .i64 tk, .slice ta tn tc, .slice sa sn sc, .slice ea en ec] 120)).alloc (.cells #[.string ⟨#[]⟩, .int .i64 0, .string ⟨#[]⟩, .int .i64 0, .int .i64 0, .slice none 0 0, .int .i64 0, .slice none 0 0, .slice none 0 0, .slice none 0 0] 127)).alloc (.cells #[.string nm0, .int .i64 0, .string ⟨#[]⟩, .int .i64 0, .int .i64 0, .slice none 0 0, .int .i64 0, .slice none 0 0, .slice none 0 0, .slice none 0 0] 127)) (w.heap.size + 1) #[.string ⟨#[]⟩, .int .i64 0, .string ⟨#[]⟩, .int .i64 0, .int .i64 0, .slice none 0 0, .int .i64 0, .slice none 0 0, .slice none 0 0, .slice none 0 0]) := (box_at (BoxAt.new _ _ _) (by simp)).below (below_alloc _ _)
  have XO : Hid (BoxAt (((w.alloc (.cells #[.string nm0, .int .i64 k, .string nm, .int .i64 n, .int .i64 fk, .slice fa fn fc, .int .i64 tk, .slice ta tn tc, .slice sa sn sc, .slice ea en ec] 120)).alloc (.cells #[.string ⟨#[]⟩, .int .i64 0, .string ⟨#[]⟩, .int .i64 0, .int .i64 0, .slice none 0 0, .int .i64 0, .slice none 0 0, .slice none 0 0, .slice none 0 0] 127)).alloc (.cells #[.string nm0, .int .i64 0, .string ⟨#[]⟩, .int .i64 0, .int .i64 0, .slice none 0 0, .int .i64 0, .slice none 0 0, .slice none 0 0, .slice none 0 0] 127)) (w.heap.size + 1 + 1) #[.string nm0, .int .i64 0, .string ⟨#[]⟩, .int .i64 0, .int .i64 0, .slice none 0 0, .int .i64 0, .slice none 0 0, .slice none 0 0, .slice none 0 0]) := box_at (BoxAt.new _ _ _) (by simp)
  have FR : Hid (FreeAt (((w.alloc (.cells #[.string nm0, .int .i64 k, .string nm, .int .i64 n, .int .i64 fk, .slice fa fn fc, .int .i64 tk, .slice ta tn tc, .slice sa sn sc, .slice ea en ec] 120)).alloc (.cells #[.string ⟨#[]⟩, .int .i64 0, .string ⟨#[]⟩, .int .i64 0, .int .i64 0, .slice none 0 0, .int .i64 0, .slice none 0 0, .slice none 0 0, .slice none 0 0] 127)).alloc (.cells #[.string nm0, .int .i64 0, .string ⟨#[]⟩, .int .i64 0, .int .i64 0, .slice none 0 0, .int .i64 0, .slice none 0 0, .slice none 0 0, .slice none 0 0] 127)) (w.heap.size + 1)) := (free_at (FreeAt.new _ _ _) (by simp)).below (below_alloc _ _)
  have FO : Hid (FreeAt (((w.alloc (.cells #[.string nm0, .int .i64 k, .string nm, .int .i64 n, .int .i64 fk, .slice fa fn fc, .int .i64 tk, .slice ta tn tc, .slice sa sn sc, .slice ea en ec] 120)).alloc (.cells #[.string ⟨#[]⟩, .int .i64 0, .string ⟨#[]⟩, .int .i64 0, .int .i64 0, .slice none 0 0, .int .i64 0, .slice none 0 0, .slice none 0 0, .slice none 0 0] 127)).alloc (.cells #[.string nm0, .int .i64 0, .string ⟨#[]⟩, .int .i64 0, .int .i64 0, .slice none 0 0, .int .i64 0, .slice none 0 0, .slice none 0 0, .slice none 0 0] 127)) (w.heap.size + 1 + 1)) := free_at (FreeAt.new _ _ _) (by simp)
  have hz0 : (((w.alloc (.cells #[.string nm0, .int .i64 k, .string nm, .int .i64 n, .int .i64 fk, .slice fa fn fc, .int .i64 tk, .slice ta tn tc, .slice sa sn sc, .slice ea en ec] 120)).alloc (.cells #[.string ⟨#[]⟩, .int .i64 0, .string ⟨#[]⟩, .int .i64 0, .int .i64 0, .slice none 0 0, .int .i64 0, .slice none 0 0, .slice none 0 0, .slice none 0 0] 127)).alloc (.cells #[.string nm0, .int .i64 0, .string ⟨#[]⟩, .int .i64 0, .int .i64 0, .slice none 0 0, .int .i64 0, .slice none 0 0, .slice none 0 0, .slice none 0 0] 127)).heap.size = w.heap.size + 3 := by simp
  clear h
  go_enter Tryd.func95, Tryd.ntmps95
  go_wp2_with fail
  refine (IH.out _ t _ hn HT.out).mono ?_
  rintro e w1 ⟨v1, f1, rfl, ht, hf, hb⟩
  have hz1 := hb.size
  rw [hz0] at hz1 hf
  obtain ⟨zk, znm, zn, zfk, zfa, zfn, zfc, ztk, zta, ztn, ztc, zsa, zsn, zsc, zea, zen, zec, rfl⟩ := co_parts ht.at_
  have HG := Lib.hid ht
  have F1 := Lib.hid hf
  replace B := Lib.hid (below_thru B.out (Nat.le_refl _) hb)
  replace XR := Lib.hid (XR.out.below hb)
  replace XO := Lib.hid (XO.out.below hb)
  replace FR := Lib.hid (FR.out.below hb)
  replace FO := Lib.hid (FO.out.below hb)
  clear hb ht hf HT XA
  have o0 := XO.out.2 0
  have u0 := FO.out.2 0
  have r0 := XR.out.2 0
  have s0 := FR.out.2 0
  have o1 := XO.out.2 1
  have u1 := FO.out.2 1
  have r1 := XR.out.2 1
  have s1 := FR.out.2 1
  have o2 := XO.out.2 2
  have u2 := FO.out.2 2
  have r2 := XR.out.2 2
  have s2 := FR.out.2 2
  have o3 := XO.out.2 3
  have u3 := FO.out.2 3
  have r3 := XR.out.2 3
  have s3 := FR.out.2 3
  have o4 := XO.out.2 4
  have u4 := FO.out.2 4
  have r4 := XR.out.2 4
  have s4 := FR.out.2 4
  have o5 := XO.out.2 5
  have u5 := FO.out.2 5
  have r5 := XR.out.2 5
  have s5 := FR.out.2 5
  have o6 := XO.out.2 6
  have u6 := FO.out.2 6
  have r6 := XR.out.2 6
  have s6 := FR.out.2 6
  have o7 := XO.out.2 7
  have u7 := FO.out.2 7
  have r7 := XR.out.2 7
  have s7 := FR.out.2 7
  have o8 := XO.out.2 8
  have u8 := FO.out.2 8
  have r8 := XR.out.2 8
  have s8 := FR.out.2 8
  have o9 := XO.out.2 9
  have u9 := FO.out.2 9
  have r9 := XR.out.2 9
  have s9 := FR.out.2 9
  go_wp2_with fail
  have XRF : BoxAt (((((((((((((((((((w1.setCell ⟨w.heap.size + 1 + 1, 1, none⟩ (.int .i64 zk)).setCell ⟨w.heap.size + 1 + 1, 2, none⟩ (.string znm)).setCell ⟨w.heap.size + 1 + 1, 3, none⟩ (.int .i64 zn)).setCell ⟨w.heap.size + 1 + 1, 4, none⟩ (.int .i64 zfk)).setCell ⟨w.heap.size + 1 + 1, 5, none⟩ (.slice zfa zfn zfc)).setCell ⟨w.heap.size + 1 + 1, 6, none⟩ (.int .i64 ztk)).setCell ⟨w.heap.size + 1 + 1, 7, none⟩ (.slice zta ztn ztc)).setCell ⟨w.heap.size + 1 + 1, 8, none⟩ (.slice zsa zsn zsc)).setCell ⟨w.heap.size + 1 + 1, 9, none⟩ (.slice zea zen zec)).setCell ⟨w.heap.size + 1, 0, none⟩ (.string nm0)).setCell ⟨w.heap.size + 1, 1, none⟩ (.int .i64 zk)).setCell ⟨w.heap.size + 1, 2, none⟩ (.string znm)).setCell ⟨w.heap.size + 1, 3, none⟩ (.int .i64 zn)).setCell ⟨w.heap.size + 1, 4, none⟩ (.int .i64 zfk)).setCell ⟨w.heap.size + 1, 5, none⟩ (.slice zfa zfn zfc)).setCell ⟨w.heap.size + 1, 6, none⟩ (.int .i64 ztk)).setCell ⟨w.heap.size + 1, 7, none⟩ (.slice zta ztn ztc)).setCell ⟨w.heap.size + 1, 8, none⟩ (.slice zsa zsn zsc)).setCell ⟨w.heap.size + 1, 9, none⟩ (.slice zea zen zec)) (w.heap.size + 1) #[.string nm0, .int .i64 zk, .string znm, .int .i64 zn, .int .i64 zfk, .slice zfa zfn zfc, .int .i64 ztk, .slice zta ztn ztc, .slice zsa zsn zsc, .slice zea zen zec] := by
    have := BoxAt.puts [.string nm0, .int .i64 zk, .string znm, .int .i64 zn, .int .i64 zfk, .slice zfa zfn zfc, .int .i64 ztk, .slice zta ztn ztc, .slice zsa zsn zsc, .slice zea zen zec] [.string ⟨#[]⟩, .int .i64 0, .string ⟨#[]⟩, .int .i64 0, .int .i64 0, .slice none 0 0, .int .i64 0, .slice none 0 0, .slice none 0 0, .slice none 0 0] [] _ (((((((((XR.out.stored (q := w.heap.size + 1 + 1) (j := 1) (u := .int .i64 zk) (by omega)).stored (q := w.heap.size + 1 + 1) (j := 2) (u := .string znm) (by omega)).stored (q := w.heap.size + 1 + 1) (j := 3) (u := .int .i64 zn) (by omega)).stored (q := w.heap.size + 1 + 1) (j := 4) (u := .int .i64 zfk) (by omega)).stored (q := w.heap.size + 1 + 1) (j := 5) (u := .slice zfa zfn zfc) (by omega)).stored (q := w.heap.size + 1 + 1) (j := 6) (u := .int .i64 ztk) (by omega)).stored (q := w.heap.size + 1 + 1) (j := 7) (u := .slice zta ztn ztc) (by omega)).stored (q := w.heap.size + 1 + 1) (j := 8) (u := .slice zsa zsn zsc) (by omega)).stored (q := w.heap.size + 1 + 1) (j := 9) (u := .slice zea zen zec) (by omega)) rfl
    exact this
  have K1 : ∀ b, w.heap.size + 3 ≤ b → (((((((((((((((((((w1.setCell ⟨w.heap.size + 1 + 1, 1, none⟩ (.int .i64 zk)).setCell ⟨w.heap.size + 1 + 1, 2, none⟩ (.string znm)).setCell ⟨w.heap.size + 1 + 1, 3, none⟩ (.int .i64 zn)).setCell ⟨w.heap.size + 1 + 1, 4, none⟩ (.int .i64 zfk)).setCell ⟨w.heap.size + 1 + 1, 5, none⟩ (.slice zfa zfn zfc)).setCell ⟨w.heap.size + 1 + 1, 6, none⟩ (.int .i64 ztk)).setCell ⟨w.heap.size + 1 + 1, 7, none⟩ (.slice zta ztn ztc)).setCell ⟨w.heap.size + 1 + 1, 8, none⟩ (.slice zsa zsn zsc)).setCell ⟨w.heap.size + 1 + 1, 9, none⟩ (.slice zea zen zec)).setCell ⟨w.heap.size + 1, 0, none⟩ (.string nm0)).setCell ⟨w.heap.size + 1, 1, none⟩ (.int .i64 zk)).setCell ⟨w.heap.size + 1, 2, none⟩ (.string znm)).setCell ⟨w.heap.size + 1, 3, none⟩ (.int .i64 zn)).setCell ⟨w.heap.size + 1, 4, none⟩ (.int .i64 zfk)).setCell ⟨w.heap.size + 1, 5, none⟩ (.slice zfa zfn zfc)).setCell ⟨w.heap.size + 1, 6, none⟩ (.int .i64 ztk)).setCell ⟨w.heap.size + 1, 7, none⟩ (.slice zta ztn ztc)).setCell ⟨w.heap.size + 1, 8, none⟩ (.slice zsa zsn zsc)).setCell ⟨w.heap.size + 1, 9, none⟩ (.slice zea zen zec)).heap[b]? = w1.heap[b]? := fun b hb => by
    rw [heap_setCell_other _ _ _ _ (by simp; omega), heap_setCell_other _ _ _ _ (by simp; omega), heap_setCell_other _ _ _ _ (by simp; omega), heap_setCell_other _ _ _ _ (by simp; omega), heap_setCell_other _ _ _ _ (by simp; omega), heap_setCell_other _ _ _ _ (by simp; omega), heap_setCell_other _ _ _ _ (by simp; omega), heap_setCell_other _ _ _ _ (by simp; omega), heap_setCell_other _ _ _ _ (by simp; omega), heap_setCell_other _ _ _ _ (by simp; omega), heap_setCell_other _ _ _ _ (by simp; omega), heap_setCell_other _ _ _ _ (by simp; omega), heap_setCell_other _ _ _ _ (by simp; omega), heap_setCell_other _ _ _ _ (by simp; omega), heap_setCell_other _ _ _ _ (by simp; omega), heap_setCell_other _ _ _ _ (by simp; omega), heap_setCell_other _ _ _ _ (by simp; omega), heap_setCell_other _ _ _ _ (by simp; omega), heap_setCell_other _ _ _ _ (by simp; omega)]
  have hzf : (((((((((((((((((((w1.setCell ⟨w.heap.size + 1 + 1, 1, none⟩ (.int .i64 zk)).setCell ⟨w.heap.size + 1 + 1, 2, none⟩ (.string znm)).setCell ⟨w.heap.size + 1 + 1, 3, none⟩ (.int .i64 zn)).setCell ⟨w.heap.size + 1 + 1, 4, none⟩ (.int .i64 zfk)).setCell ⟨w.heap.size + 1 + 1, 5, none⟩ (.slice zfa zfn zfc)).setCell ⟨w.heap.size + 1 + 1, 6, none⟩ (.int .i64 ztk)).setCell ⟨w.heap.size + 1 + 1, 7, none⟩ (.slice zta ztn ztc)).setCell ⟨w.heap.size + 1 + 1, 8, none⟩ (.slice zsa zsn zsc)).setCell ⟨w.heap.size + 1 + 1, 9, none⟩ (.slice zea zen zec)).setCell ⟨w.heap.size + 1, 0, none⟩ (.string nm0)).setCell ⟨w.heap.size + 1, 1, none⟩ (.int .i64 zk)).setCell ⟨w.heap.size + 1, 2, none⟩ (.string znm)).setCell ⟨w.heap.size + 1, 3, none⟩ (.int .i64 zn)).setCell ⟨w.heap.size + 1, 4, none⟩ (.int .i64 zfk)).setCell ⟨w.heap.size + 1, 5, none⟩ (.slice zfa zfn zfc)).setCell ⟨w.heap.size + 1, 6, none⟩ (.int .i64 ztk)).setCell ⟨w.heap.size + 1, 7, none⟩ (.slice zta ztn ztc)).setCell ⟨w.heap.size + 1, 8, none⟩ (.slice zsa zsn zsc)).setCell ⟨w.heap.size + 1, 9, none⟩ (.slice zea zen zec)).heap.size = w1.heap.size := by simp
  have hbF : Below w.heap.size w (((((((((((((((((((w1.setCell ⟨w.heap.size + 1 + 1, 1, none⟩ (.int .i64 zk)).setCell ⟨w.heap.size + 1 + 1, 2, none⟩ (.string znm)).setCell ⟨w.heap.size + 1 + 1, 3, none⟩ (.int .i64 zn)).setCell ⟨w.heap.size + 1 + 1, 4, none⟩ (.int .i64 zfk)).setCell ⟨w.heap.size + 1 + 1, 5, none⟩ (.slice zfa zfn zfc)).setCell ⟨w.heap.size + 1 + 1, 6, none⟩ (.int .i64 ztk)).setCell ⟨w.heap.size + 1 + 1, 7, none⟩ (.slice zta ztn ztc)).setCell ⟨w.heap.size + 1 + 1, 8, none⟩ (.slice zsa zsn zsc)).setCell ⟨w.heap.size + 1 + 1, 9, none⟩ (.slice zea zen zec)).setCell ⟨w.heap.size + 1, 0, none⟩ (.string nm0)).setCell ⟨w.heap.size + 1, 1, none⟩ (.int .i64 zk)).setCell ⟨w.heap.size + 1, 2, none⟩ (.string znm)).setCell ⟨w.heap.size + 1, 3, none⟩ (.int .i64 zn)).setCell ⟨w.heap.size + 1, 4, none⟩ (.int .i64 zfk)).setCell ⟨w.heap.size + 1, 5, none⟩ (.slice zfa zfn zfc)).setCell ⟨w.heap.size + 1, 6, none⟩ (.int .i64 ztk)).setCell ⟨w.heap.size + 1, 7, none⟩ (.slice zta ztn ztc)).setCell ⟨w.heap.size + 1, 8, none⟩ (.slice zsa zsn zsc)).setCell ⟨w.heap.size + 1, 9, none⟩ (.slice zea zen zec)) := (((((((((((((((((((B.out.setCell (by simp; omega) _).setCell (by simp; omega) _).setCell (by simp; omega) _).setCell (by simp; omega) _).setCell (by simp; omega) _).setCell (by simp; omega) _).setCell (by simp; omega) _).setCell (by simp; omega) _).setCell (by simp; omega) _).setCell (by simp) _).setCell (by simp) _).setCell (by simp) _).setCell (by simp) _).setCell (by simp) _).setCell (by simp) _).setCell (by simp) _).setCell (by simp) _).setCell (by simp) _).setCell (by simp) _)
  have g0 := XRF.2 0
  have g1 := XRF.2 1
  have g2 := XRF.2 2
  have g3 := XRF.2 3
  have g4 := XRF.2 4
  have g5 := XRF.2 5
  have g6 := XRF.2 6
  have g7 := XRF.2 7
  have g8 := XRF.2 8
  have g9 := XRF.2 9
  clear XRF
  have HGF : CoOwn (((((((((((((((((((w1.setCell ⟨w.heap.size + 1 + 1, 1, none⟩ (.int .i64 zk)).setCell ⟨w.heap.size + 1 + 1, 2, none⟩ (.string znm)).setCell ⟨w.heap.size + 1 + 1, 3, none⟩ (.int .i64 zn)).setCell ⟨w.heap.size + 1 + 1, 4, none⟩ (.int .i64 zfk)).setCell ⟨w.heap.size + 1 + 1, 5, none⟩ (.slice zfa zfn zfc)).setCell ⟨w.heap.size + 1 + 1, 6, none⟩ (.int .i64 ztk)).setCell ⟨w.heap.size + 1 + 1, 7, none⟩ (.slice zta ztn ztc)).setCell ⟨w.heap.size + 1 + 1, 8, none⟩ (.slice zsa zsn zsc)).setCell ⟨w.heap.size + 1 + 1, 9, none⟩ (.slice zea zen zec)).setCell ⟨w.heap.size + 1, 0, none⟩ (.string nm0)).setCell ⟨w.heap.size + 1, 1, none⟩ (.int .i64 zk)).setCell ⟨w.heap.size + 1, 2, none⟩ (.string znm)).setCell ⟨w.heap.size + 1, 3, none⟩ (.int .i64 zn)).setCell ⟨w.heap.size + 1, 4, none⟩ (.int .i64 zfk)).setCell ⟨w.heap.size + 1, 5, none⟩ (.slice zfa zfn zfc)).setCell ⟨w.heap.size + 1, 6, none⟩ (.int .i64 ztk)).setCell ⟨w.heap.size + 1, 7, none⟩ (.slice zta ztn ztc)).setCell ⟨w.heap.size + 1, 8, none⟩ (.slice zsa zsn zsc)).setCell ⟨w.heap.size + 1, 9, none⟩ (.slice zea zen zec)) d (.agg #[.int .i64 zk, .string znm, .int .i64 zn, .int .i64 zfk, .slice zfa zfn zfc, .int .i64 ztk, .slice zta ztn ztc, .slice zsa zsn zsc, .slice zea zen zec]) t f1 := HG.out.kept (by rw [hzf]; omega) fun b hb => K1 b (F1.out.2 b hb).1
  have hfp : Fp w.heap.size (((((((((((((((((((w1.setCell ⟨w.heap.size + 1 + 1, 1, none⟩ (.int .i64 zk)).setCell ⟨w.heap.size + 1 + 1, 2, none⟩ (.string znm)).setCell ⟨w.heap.size + 1 + 1, 3, none⟩ (.int .i64 zn)).setCell ⟨w.heap.size + 1 + 1, 4, none⟩ (.int .i64 zfk)).setCell ⟨w.heap.size + 1 + 1, 5, none⟩ (.slice zfa zfn zfc)).setCell ⟨w.heap.size + 1 + 1, 6, none⟩ (.int .i64 ztk)).setCell ⟨w.heap.size + 1 + 1, 7, none⟩ (.slice zta ztn ztc)).setCell ⟨w.heap.size + 1 + 1, 8, none⟩ (.slice zsa zsn zsc)).setCell ⟨w.heap.size + 1 + 1, 9, none⟩ (.slice zea zen zec)).setCell ⟨w.heap.size + 1, 0, none⟩ (.string nm0)).setCell ⟨w.heap.size + 1, 1, none⟩ (.int .i64 zk)).setCell ⟨w.heap.size + 1, 2, none⟩ (.string znm)).setCell ⟨w.heap.size + 1, 3, none⟩ (.int .i64 zn)).setCell ⟨w.heap.size + 1, 4, none⟩ (.int .i64 zfk)).setCell ⟨w.heap.size + 1, 5, none⟩ (.slice zfa zfn zfc)).setCell ⟨w.heap.size + 1, 6, none⟩ (.int .i64 ztk)).setCell ⟨w.heap.size + 1, 7, none⟩ (.slice zta ztn ztc)).setCell ⟨w.heap.size + 1, 8, none⟩ (.slice zsa zsn zsc)).setCell ⟨w.heap.size + 1, 9, none⟩ (.slice zea zen zec)).heap.size f1 := by
    rw [hzf]
    exact F1.out.mono (by omega) (Nat.le_refl _)
  generalize (((((((((((((((((((w1.setCell ⟨w.heap.size + 1 + 1, 1, none⟩ (.int .i64 zk)).setCell ⟨w.heap.size + 1 + 1, 2, none⟩ (.string znm)).setCell ⟨w.heap.size + 1 + 1, 3, none⟩ (.int .i64 zn)).setCell ⟨w.heap.size + 1 + 1, 4, none⟩ (.int .i64 zfk)).setCell ⟨w.heap.size + 1 + 1, 5, none⟩ (.slice zfa zfn zfc)).setCell ⟨w.heap.size + 1 + 1, 6, none⟩ (.int .i64 ztk)).setCell ⟨w.heap.size + 1 + 1, 7, none⟩ (.slice zta ztn ztc)).setCell ⟨w.heap.size + 1 + 1, 8, none⟩ (.slice zsa zsn zsc)).setCell ⟨w.heap.size + 1 + 1, 9, none⟩ (.slice zea zen zec)).setCell ⟨w.heap.size + 1, 0, none⟩ (.string nm0)).setCell ⟨w.heap.size + 1, 1, none⟩ (.int .i64 zk)).setCell ⟨w.heap.size + 1, 2, none⟩ (.string znm)).setCell ⟨w.heap.size + 1, 3, none⟩ (.int .i64 zn)).setCell ⟨w.heap.size + 1, 4, none⟩ (.int .i64 zfk)).setCell ⟨w.heap.size + 1, 5, none⟩ (.slice zfa zfn zfc)).setCell ⟨w.heap.size + 1, 6, none⟩ (.int .i64 ztk)).setCell ⟨w.heap.size + 1, 7, none⟩ (.slice zta ztn ztc)).setCell ⟨w.heap.size + 1, 8, none⟩ (.slice zsa zsn zsc)).setCell ⟨w.heap.size + 1, 9, none⟩ (.slice zea zen zec)) = WX at g0 g1 g2 g3 g4 g5 g6 g7 g8 g9 HGF hfp hbF ⊢
  refine bodyPost_ret (v := .agg #[.string nm0, .int .i64 zk, .string znm, .int .i64 zn, .int .i64 zfk, .slice zfa zfn zfc, .int .i64 ztk, .slice zta ztn ztc, .slice zsa zsn zsc, .slice zea zen zec]) (by simp [results, Tryd.results95, go_sem, g0, g1, g2, g3, g4, g5, g6, g7, g8, g9]) rfl ?_
  exact ⟨_, _, rfl, ⟨hnz, _, _, _, _, _, _, _, _, _, rfl, HGF⟩, hfp, hbF⟩

theorem toCo_all (d : Nat) : ToCoSaid d ∧ ToCosSaid d ∧ ToCbsSaid d := by
  induction d with
  | zero =>
    have h0 : ToCoSaid 0 := fun v t w _ h => h.elim
    exact ⟨h0, toCos_step 0 h0, toCbs_step 0 (toCb_step 0 h0)⟩
  | succ d ih =>
    have h1 := toCo_step d ih.2.1 ih.2.2
    exact ⟨h1, toCos_step (d + 1) h1, toCbs_step (d + 1) (toCb_step (d + 1) h1)⟩
end Go.Proofs.YtcohfbdhdngplaaDoor
