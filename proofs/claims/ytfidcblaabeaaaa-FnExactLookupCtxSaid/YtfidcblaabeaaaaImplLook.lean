/-
  Proved: impl.LookupCtx gives a copy of the last type of a name, or says that there is none; the memory that was there stays as it was.
-/
import Derived.Test.YtfidcblaabeaaaaLook
import Derived.Test.YtfidcblaabeaaaaImplCopy
import Derived.Test.YtfidcblaabeaaaaExEq
import Derived.Test.YtfidcblaabeaaaaPut
namespace Go.Proofs.Ytfidcblaabeaaaa
open Go.RowKit

set_option maxRecDepth 100000 in
set_option maxHeartbeats 4000000 in
theorem implLook (d : Nat) (v : Value) (nm : ByteArray) (bs : List Bi) (w : World) (h : BisAt w d v bs) (hn : Bi.bulks bs ≤ 1048576) :
    Calls Try.prog 24 #[v, .string nm] w (LookEnd d (Bi.look bs nm) w) := by
  obtain ⟨a, cap, rfl, hcap, hcap2, hat⟩ := h
  have HAT := Lib.hid hat; clear hat
  have hlen := Bi.length_le bs
  obtain ⟨W, hW⟩ : ∃ W, W = (w.alloc (.cells #[.int .i64 0, .slice none 0 0] 32)) := ⟨_, rfl⟩
  have B : Hid (Below w.heap.size w W) := by show Below _ _ _; rw [hW]; exact below_alloc _ _
  have XR : Hid (BoxAt W w.heap.size #[.int .i64 0, .slice none 0 0]) := by show BoxAt _ _ _; rw [hW]; exact BoxAt.new _ _ _
  have FR : Hid (FreeAt W w.heap.size) := by show FreeAt _ _; rw [hW]; exact FreeAt.new _ _ _
  have hz0 : W.heap.size = w.heap.size + 1 := by rw [hW]; simp
  go_enter Try.func24, Try.ntmps24
  go_wp2_with fail
  rw [← hW]
  clear hW
  go_loopw [6] (fun i wr => ∃ k : Nat, k ≤ bs.length ∧ i = .int .i64 (downIdx k) ∧ (∀ j (h : j < bs.length), k ≤ j → bs[j].name ≠ nm) ∧ wr = W) (fun i _ => (intOf i + 1).toNat)
  case atStart => exact ⟨bs.length, Nat.le_refl _, by rw [downIdx_eq], fun j h1 h2 => by omega, rfl⟩
  case round =>
    obtain ⟨k, hk, rfl, hf, hw⟩ := hrel
    subst hw
    have HF0 := Lib.hid hf; clear hf
    cases k with
    | zero =>
      have HL : Hid (Bi.look bs nm = none) := look_none bs nm fun j hj => HF0.out j hj (Nat.zero_le _)
      rw [show downIdx 0 = -1 from rfl]
      have r0 := XR.out.2 0
      have s0 := FR.out.2 0
      have r1 := XR.out.2 1
      have s1 := FR.out.2 1
      go_wp2_with fail
      have XRF : BoxAt ((wr.setCell ⟨w.heap.size, 0, none⟩ (.int .i64 0)).setCell ⟨w.heap.size, 1, none⟩ (.slice none 0 0)) w.heap.size #[.int .i64 0, .slice none 0 0] := by
        have := ((XR.out.put (j := 0) (u := .int .i64 0) (by simp)).put (j := 1) (u := .slice none 0 0) (by simp))
        exact this
      have hBF : Below w.heap.size w ((wr.setCell ⟨w.heap.size, 0, none⟩ (.int .i64 0)).setCell ⟨w.heap.size, 1, none⟩ (.slice none 0 0)) := ((B.out.setCell (Nat.le_refl _) _).setCell (Nat.le_refl _) _)
      have h0 := XRF.2 0
      have h1 := XRF.2 1
      clear XRF
      generalize ((wr.setCell ⟨w.heap.size, 0, none⟩ (.int .i64 0)).setCell ⟨w.heap.size, 1, none⟩ (.slice none 0 0)) = WX at h0 h1 hBF ⊢
      refine bodyPost_ret (v := .tuple #[.agg #[.int .i64 0, .slice none 0 0], .bool false]) (by simp [results, Try.results24, go_sem, h0, h1]) rfl ?_
      rw [HL.out]
      exact ⟨_, rfl, ⟨[], look_zero _ d 0 (by omega) (by omega), Fp.nil _ _, Nat.le_refl _⟩, hBF⟩
    | succ j =>
      rw [show downIdx (j + 1) = (j : Int) from rfl]
      have hlt : j < bs.length := hk
      obtain ⟨b, off, x0, x1, x2, rfl, hbl, hc0, hc1, hc2, ht⟩ := HAT.out j hlt
      obtain ⟨tk, ta, tn, tc, rfl, rfl, rfl, hnz, hty⟩ := look_cells ht
      have hg := Bi.bulk_get bs j hlt
      have hgb : bs[j].bulk = bs[j].name.size + (bs[j].ty.size - 1) := rfl
      have hsz : bs[j].ty.size ≤ 1048577 := by omega
      have e0 : wr.cell? ⟨b, off + j * 3, none⟩ = some (.string bs[j].name) := by rw [B.out.cell (p := ⟨b, off + j * 3, none⟩) hbl]; exact hc0
      have e1 : wr.cell? ⟨b, off + j * 3 + 1, none⟩ = some (.int .i64 tk) := by rw [B.out.cell (p := ⟨b, off + j * 3 + 1, none⟩) hbl]; exact hc1
      have e2 : wr.cell? ⟨b, off + j * 3 + 2, none⟩ = some (.slice ta tn tc) := by rw [B.out.cell (p := ⟨b, off + j * 3 + 2, none⟩) hbl]; exact hc2
      have HT := Lib.hid (hty.below B.out).succ
      clear hc0 hc1 hc2 ht hty hgb hg
      by_cases q : bs[j].name = nm
      · have HL : Hid (Bi.look bs nm = some bs[j].ty) := look_at bs nm j hlt (fun i hi hj => HF0.out i hi (by omega)) q
        rw [q] at e0
        clear q
        go_wp2_with fail
        clear e0 e1 e2
        refine (implCopy (d + 1) _ bs[j].ty _ hsz HT.out).mono ?_
        rintro e w1 ⟨v1, fp, rfl, ho, hfp, hb⟩
        obtain ⟨zk, za, zn, zc, rfl, _⟩ := ty_parts ho
        have hz1 := hb.size
        rw [hz0] at hz1 hfp
        have HO := Lib.hid ho
        have HF := Lib.hid hfp
        replace B := Lib.hid (below_thru B.out (Nat.le_refl _) hb)
        replace XR := Lib.hid (XR.out.below hb)
        replace FR := Lib.hid (FR.out.below hb)
        clear ho hfp hb HT
        have r0 := XR.out.2 0
        have s0 := FR.out.2 0
        have r1 := XR.out.2 1
        have s1 := FR.out.2 1
        go_wp2_with fail
        have XRF : BoxAt ((w1.setCell ⟨w.heap.size, 0, none⟩ (.int .i64 zk)).setCell ⟨w.heap.size, 1, none⟩ (.slice za zn zc)) w.heap.size #[.int .i64 zk, .slice za zn zc] := by
          have := ((XR.out.put (j := 0) (u := .int .i64 zk) (by simp)).put (j := 1) (u := .slice za zn zc) (by simp))
          exact this
        have hBF : Below w.heap.size w ((w1.setCell ⟨w.heap.size, 0, none⟩ (.int .i64 zk)).setCell ⟨w.heap.size, 1, none⟩ (.slice za zn zc)) := ((B.out.setCell (Nat.le_refl _) _).setCell (Nat.le_refl _) _)
        have HOF : TyOwn ((w1.setCell ⟨w.heap.size, 0, none⟩ (.int .i64 zk)).setCell ⟨w.heap.size, 1, none⟩ (.slice za zn zc)) (d + 1) (.agg #[.int .i64 zk, .slice za zn zc]) bs[j].ty fp := HO.out.kept (by simp) fun b hb => by rw [heap_setCell_other _ _ _ _ (by have := (HF.out.2 b hb).1; simp; omega), heap_setCell_other _ _ _ _ (by have := (HF.out.2 b hb).1; simp; omega)]
        have hfF : Fp w.heap.size ((w1.setCell ⟨w.heap.size, 0, none⟩ (.int .i64 zk)).setCell ⟨w.heap.size, 1, none⟩ (.slice za zn zc)).heap.size fp := by rw [show ((w1.setCell ⟨w.heap.size, 0, none⟩ (.int .i64 zk)).setCell ⟨w.heap.size, 1, none⟩ (.slice za zn zc)).heap.size = w1.heap.size from by simp]; exact HF.out.mono (by omega) (Nat.le_refl _)
        have h0 := XRF.2 0
        have h1 := XRF.2 1
        clear XRF
        generalize ((w1.setCell ⟨w.heap.size, 0, none⟩ (.int .i64 zk)).setCell ⟨w.heap.size, 1, none⟩ (.slice za zn zc)) = WX at h0 h1 hBF HOF hfF ⊢
        refine bodyPost_ret (v := .tuple #[.agg #[.int .i64 zk, .slice za zn zc], .bool true]) (by simp [results, Try.results24, go_sem, h0, h1]) rfl ?_
        rw [HL.out]
        exact ⟨_, rfl, ⟨fp, HOF, hfF, Nat.le_refl _⟩, hBF⟩
      · have qs := text_ne q
        have HQ := Lib.hid q
        clear q
        go_wp2_with fail
        exact ⟨⟨j, by omega, by rw [downIdx_eq], fun i h1 h2 => by
          by_cases e : i = j
          · subst e; exact HQ.out
          · exact HF0.out i h1 (by omega), by first | trivial | rfl⟩, by first | (simp [intOf]; done) | (simp [intOf]; omega)⟩
end Go.Proofs.Ytfidcblaabeaaaa
