/-
  Proved: impl.detach gives a node memory of its own, in place: its type, its parts and theirs; all other memory stays as it was.
-/
import Derived.Test.YtcohfbdhdngplaaCloneEx
import Derived.Test.YtcohfbdhdngplaaImplCopy
namespace Go.Proofs.Ytcohfbdhdngplaa
open Go.RowKit

/-- All old memory but three cells of block b (a node's type and parts, from off on) is as it was. -/
def KeptAt (b off : Nat) (w w' : World) : Prop :=
  Below b w w' ∧ (∀ x, x < w.heap.size → x ≠ b → w'.heap[x]? = w.heap[x]?) ∧ (∀ o, (o < off + 3 ∨ off + 5 < o) → w'.cell? ⟨b, o, none⟩ = w.cell? ⟨b, o, none⟩) ∧ (∀ o, w'.frozen? ⟨b, o, none⟩ = w.frozen? ⟨b, o, none⟩)
def DetSaid (d : Nat) : Prop := ∀ (b off : Nat) (c0 c1 c2 c3 c4 c5 : Value) (t : Ex) (w0 w : World), t.bulk ≤ 1048576 → ExAt w0 d (.agg #[c0, c1, c2, c3, c4, c5]) t → Below w0.heap.size w0 w → w0.heap.size ≤ b → b < w.heap.size →
  w.cell? ⟨b, off, none⟩ = some c0 → w.cell? ⟨b, off + 1, none⟩ = some c1 → w.cell? ⟨b, off + 2, none⟩ = some c2 → w.cell? ⟨b, off + 3, none⟩ = some c3 → w.cell? ⟨b, off + 4, none⟩ = some c4 → w.cell? ⟨b, off + 5, none⟩ = some c5 → (∀ o, w.frozen? ⟨b, o, none⟩ = false) →
  Calls Try.prog 113 #[.pointer (some ⟨b, off, none⟩)] w fun e w' => ∃ d3 d4 d5 fp, e = .returned (.tuple #[]) ∧
    w'.cell? ⟨b, off, none⟩ = some c0 ∧ w'.cell? ⟨b, off + 1, none⟩ = some c1 ∧ w'.cell? ⟨b, off + 2, none⟩ = some c2 ∧ w'.cell? ⟨b, off + 3, none⟩ = some d3 ∧ w'.cell? ⟨b, off + 4, none⟩ = some d4 ∧ w'.cell? ⟨b, off + 5, none⟩ = some d5 ∧ ExOwn w' d (.agg #[c0, c1, c2, d3, d4, d5]) t fp ∧ Fp w.heap.size w'.heap.size fp ∧ KeptAt b off w w'

theorem set_far {w : World} {b o p : Nat} {u : Value} (h : o ≠ p) : (w.setCell ⟨b, p, none⟩ u).cell? ⟨b, o, none⟩ = w.cell? ⟨b, o, none⟩ := World.cell?_setCell_other _ _ _ _ (by first | (simp; omega) | simp)
/-- The loop over the parts is done: the node owns its memory. -/
theorem det_done {wr : World} {d g cap : Nat} {es : List Ex} {fps : List (List Nat)} (hc : es.length ≤ cap) (hm : cap ≤ 9223372036854775807) (hg : g < wr.heap.size) (hf : ∀ o, wr.frozen? ⟨g, o, none⟩ = false) (hl : fps.length = es.length)
    (h : ∀ j (h : j < es.length), ∃ x0 x1 x2 x3 x4 x5 f, wr.cell? ⟨g, j * 6, none⟩ = some x0 ∧ wr.cell? ⟨g, j * 6 + 1, none⟩ = some x1 ∧ wr.cell? ⟨g, j * 6 + 2, none⟩ = some x2 ∧ wr.cell? ⟨g, j * 6 + 3, none⟩ = some x3 ∧ wr.cell? ⟨g, j * 6 + 4, none⟩ = some x4 ∧ wr.cell? ⟨g, j * 6 + 5, none⟩ = some x5 ∧ fps[j]? = some f ∧ ExOwn wr d (.agg #[x0, x1, x2, x3, x4, x5]) es[j] f) :
    ExsOwn wr d (.slice (some ⟨g, 0, none⟩) es.length cap) es ([g] ++ fps.flatten) := by
  refine ⟨_, _, [g], fps, rfl, hc, hm, hl, rfl, fun b hb => by cases List.mem_singleton.1 hb; exact hg, fun j hj => ?_⟩
  obtain ⟨x0, x1, x2, x3, x4, x5, f, h0, h1, h2, h3, h4, h5, h6, h7⟩ := h j hj
  exact ⟨g, 0, x0, x1, x2, x3, x4, x5, f, rfl, rfl, hg, by rw [Nat.zero_add]; exact h0, by rw [Nat.zero_add]; exact h1, by rw [Nat.zero_add]; exact h2, by rw [Nat.zero_add]; exact h3, by rw [Nat.zero_add]; exact h4, by rw [Nat.zero_add]; exact h5, hf, h6, h7⟩
theorem det_none (wr : World) (d : Nat) (a : Option Addr) (cap : Nat) (hm : cap ≤ 9223372036854775807) : ExsOwn wr d (.slice a 0 cap) [] [] :=
  ⟨_, _, [], [], rfl, Nat.zero_le _, hm, rfl, rfl, (fun b hb => by cases hb), fun j hj => by simp at hj⟩

set_option maxRecDepth 100000 in
set_option maxHeartbeats 4000000 in
theorem detach_step (d : Nat) (ih : DetSaid d) : DetSaid (d + 1) := by
  intro b off c0 c1 c2 c3 c4 c5 t w0 w hsz hat hb0 hwb hbw h0 h1 h2 h3 h4 h5 hfr
  have IH := Lib.hid ih; clear ih
  obtain ⟨k', nm', n', tk, ta, tn, tc, sa, sn, sc, rfl, rfl, rfl, rfl, rfl, rfl⟩ := ex_cells hat
  cases t with
  | node kd nm n ty es =>
    obtain ⟨c3, c4, sl, hv, hk0, hk1, hn0, hn1, hnm, hty, hes⟩ := hat
    injection hv with hv
    injection hv with hv
    simp at hv
    obtain ⟨rfl, rfl, rfl, rfl, rfl, rfl⟩ := hv
    have hbk : (Ex.node k' nm' n' ty es).bulk = nm'.size + (ty.size - 1) + Ex.bulks es := rfl
    have hsz1 : ty.size ≤ 1048577 := by omega
    have HSZ : Hid (Ex.bulks es ≤ 1048576) := by show _ ≤ _; omega
    have hlen : es.length ≤ 1048576 := by have := Ex.length_le es; have := HSZ.out; omega
    clear hsz hbk
    have HB0 := Lib.hid hb0; clear hb0
    have HTY := Lib.hid (hty.below HB0.out); clear hty
    have HES : Hid (ExsAt w0 d (.slice sa sn sc) es) := hes
    have HFR := Lib.hid hfr
    have E0 := Lib.hid h0
    have E1 := Lib.hid h1
    have E2 := Lib.hid h2
    have E3 := Lib.hid h3
    have E4 := Lib.hid h4
    have E5 := Lib.hid h5
    clear h0 h1 h2 h3 h4 h5
    have u3 := hfr (off + 3)
    have u4 := hfr (off + 4)
    clear hfr hes
    go_enter Try.func113, Try.ntmps113
    have e3 := E3.out
    have e4 := E4.out
    go_wp2_with fail
    clear e3 e4 u3 u4
    refine (implCopy d _ ty _ hsz1 HTY.out).mono ?_
    rintro e w1 ⟨v1, f1, rfl, ht, hf1, hb1⟩
    obtain ⟨gk, ga, gn, gc, rfl, HG⟩ := ty_parts ht
    have F1 := Lib.hid hf1
    have B1 := Lib.hid hb1
    have hz1 := hb1.size
    clear ht hf1 hb1 HTY
    have kc1 : ∀ o, w1.cell? ⟨b, o, none⟩ = w.cell? ⟨b, o, none⟩ := fun o => B1.out.cell (p := ⟨b, o, none⟩) hbw
    have kf1 : ∀ o, w1.frozen? ⟨b, o, none⟩ = false := fun o => (B1.out.frozen (p := ⟨b, o, none⟩) hbw).trans (HFR.out o)
    have KC1 := Lib.hid kc1
    have KF1 := Lib.hid kf1
    have e3 := (kc1 (off + 3)).trans E3.out
    have e4 := (kc1 (off + 4)).trans E4.out
    have e5 := (kc1 (off + 5)).trans E5.out
    have u3 := kf1 (off + 3)
    have u4 := kf1 (off + 4)
    have e5s : ((w1.setCell ⟨b, off + 3, none⟩ (.int .i64 gk)).setCell ⟨b, off + 4, none⟩ (.slice ga gn gc)).cell? ⟨b, off + 5, none⟩ = some (.slice sa sn sc) := by rw [set_far (by omega), set_far (by omega)]; exact e5
    have E5S := Lib.hid e5s
    have BB1 : Hid (Below w0.heap.size w0 ((w1.setCell ⟨b, off + 3, none⟩ (.int .i64 gk)).setCell ⟨b, off + 4, none⟩ (.slice ga gn gc))) := ((HB0.out.trans (B1.out.mono HB0.out.size)).setCell hwb _).setCell hwb _
    have hs1 : ((w1.setCell ⟨b, off + 3, none⟩ (.int .i64 gk)).setCell ⟨b, off + 4, none⟩ (.slice ga gn gc)).heap.size = w1.heap.size := by simp
    clear kc1 kf1
    go_wp2_with fail
    clear e3 e4 e5 u3 u4 e5s
    refine (cloneEx d _ es w0 _ HES.out BB1.out hlen).mono ?_
    rintro e w2 ⟨a2, cap2, rfl, hc2, hm2, hb2, hrow⟩
    have B2 := Lib.hid hb2; clear hb2
    have HROW := Lib.hid hrow; clear hrow
    have hz2 := B2.out.size
    rw [hs1] at hz2
    have hbS : b < ((w1.setCell ⟨b, off + 3, none⟩ (.int .i64 gk)).setCell ⟨b, off + 4, none⟩ (.slice ga gn gc)).heap.size := by rw [hs1]; omega
    have hb2' : b < w2.heap.size := by omega
    have kc2 : ∀ o, o ≠ off + 3 → o ≠ off + 4 → w2.cell? ⟨b, o, none⟩ = w.cell? ⟨b, o, none⟩ := fun o h1 h2 => by
      rw [B2.out.cell (p := ⟨b, o, none⟩) hbS, set_far h2, set_far h1]; exact KC1.out o
    have kf2 : ∀ o, w2.frozen? ⟨b, o, none⟩ = false := fun o => by
      rw [B2.out.frozen (p := ⟨b, o, none⟩) hbS, World.frozen?_setCell, World.frozen?_setCell]; exact KF1.out o
    have k23 : w2.cell? ⟨b, off + 3, none⟩ = some (.int .i64 gk) := by
      rw [B2.out.cell (p := ⟨b, off + 3, none⟩) hbS, set_far (by omega)]
      exact World.cell?_setCell_same _ _ _ ((KC1.out _).trans E3.out)
    have k24 : w2.cell? ⟨b, off + 4, none⟩ = some (.slice ga gn gc) := by
      rw [B2.out.cell (p := ⟨b, off + 4, none⟩) hbS]
      exact World.cell?_setCell_same _ _ _ (by rw [set_far (by omega)]; exact (KC1.out _).trans E4.out)
    have KC2 := Lib.hid kc2
    have KF2 := Lib.hid kf2
    have K23 := Lib.hid k23
    have K24 := Lib.hid k24
    have e5 := (kc2 (off + 5) (by omega) (by omega)).trans E5.out
    have u5 := kf2 (off + 5)
    have e5s : (w2.setCell ⟨b, off + 5, none⟩ (.slice a2 es.length cap2)).cell? ⟨b, off + 5, none⟩ = some (.slice a2 es.length cap2) := World.cell?_setCell_same _ _ _ e5
    have E5T := Lib.hid e5s
    clear kc2 kf2 k23 k24
    go_wp2_with fail
    clear e5 u5 e5s
    -- what the rest is shown from: the node's cells, the type's copy, and what was kept, at the world behind the stores
    obtain ⟨W, hW⟩ : ∃ W, W = (w2.setCell ⟨b, off + 5, none⟩ (.slice a2 es.length cap2)) := ⟨_, rfl⟩
    have hzW : W.heap.size = w2.heap.size := by rw [hW]; simp
    have CB : Hid (∀ o, o ≠ off + 3 → o ≠ off + 4 → o ≠ off + 5 → W.cell? ⟨b, o, none⟩ = w.cell? ⟨b, o, none⟩) := fun o h1 h2 h3 => by
      rw [hW, set_far h3]; exact KC2.out o h1 h2
    have C3 : Hid (W.cell? ⟨b, off + 3, none⟩ = some (.int .i64 gk)) := by show _ = _; rw [hW, set_far (by omega)]; exact K23.out
    have C4 : Hid (W.cell? ⟨b, off + 4, none⟩ = some (.slice ga gn gc)) := by show _ = _; rw [hW, set_far (by omega)]; exact K24.out
    have C5 : Hid (W.cell? ⟨b, off + 5, none⟩ = some (.slice a2 es.length cap2)) := by show _ = _; rw [hW]; exact E5T.out
    have CF : Hid (∀ o, W.frozen? ⟨b, o, none⟩ = false) := fun o => by rw [hW, World.frozen?_setCell]; exact KF2.out o
    have KX : Hid (∀ x, x < w1.heap.size → x ≠ b → W.heap[x]? = w1.heap[x]?) := fun x h1 h2 => by
      rw [hW, heap_setCell_other _ _ _ _ h2, B2.out.block x (by rw [hs1]; exact h1), heap_setCell_other _ _ _ _ h2, heap_setCell_other _ _ _ _ h2]
    have BB : Hid (Below b w W) := by
      show Below _ _ _
      rw [hW]
      have q1 : Below b w w1 := B1.out.mono (by omega)
      have q2 : Below b w ((w1.setCell ⟨b, off + 3, none⟩ (.int .i64 gk)).setCell ⟨b, off + 4, none⟩ (.slice ga gn gc)) := (q1.setCell (Nat.le_refl _) _).setCell (Nat.le_refl _) _
      have q3 : Below b w w2 := q2.trans (B2.out.mono (by rw [hs1]; omega))
      exact q3.setCell (Nat.le_refl _) _
    have BW0 : Hid (Below w0.heap.size w0 W) := HB0.out.trans (BB.out.mono hwb)
    have HGW : Hid (TyOwn W d (.agg #[.int .i64 gk, .slice ga gn gc]) ty f1) := HG.kept (by rw [hzW]; omega) fun x hx => KX.out x (F1.out.2 x hx).2 (by have := (F1.out.2 x hx).1; omega)
    have HROWW : Hid (0 < es.length → ∃ g, a2 = some ⟨g, 0, none⟩ ∧ w1.heap.size ≤ g ∧ g < W.heap.size ∧ (∀ o, W.frozen? ⟨g, o, none⟩ = false) ∧
        ∀ j (h : j < es.length), ∃ x0 x1 x2 x3 x4 x5, W.cell? ⟨g, j * 6, none⟩ = some x0 ∧ W.cell? ⟨g, j * 6 + 1, none⟩ = some x1 ∧ W.cell? ⟨g, j * 6 + 2, none⟩ = some x2 ∧ W.cell? ⟨g, j * 6 + 3, none⟩ = some x3 ∧ W.cell? ⟨g, j * 6 + 4, none⟩ = some x4 ∧ W.cell? ⟨g, j * 6 + 5, none⟩ = some x5 ∧ ExAt w0 d (.agg #[x0, x1, x2, x3, x4, x5]) es[j]) := by
      show _ → _
      intro hp
      obtain ⟨g, hg, hg1, hg2, hgf, hgc⟩ := HROW.out hp
      rw [hs1] at hg1
      have hgb : g ≠ b := by omega
      have hgc2 : ∀ o, W.cell? ⟨g, o, none⟩ = w2.cell? ⟨g, o, none⟩ := fun o => by rw [hW]; exact World.cell?_of_block (a := ⟨g, o, none⟩) (heap_setCell_other _ _ _ _ hgb)
      refine ⟨g, hg, hg1, by rw [hzW]; exact hg2, fun o => by rw [hW, World.frozen?_setCell]; exact hgf o, fun j hj => ?_⟩
      obtain ⟨x0, x1, x2, x3, x4, x5, h0, h1, h2, h3, h4, h5, ht⟩ := hgc j hj
      exact ⟨x0, x1, x2, x3, x4, x5, (hgc2 _).trans h0, (hgc2 _).trans h1, (hgc2 _).trans h2, (hgc2 _).trans h3, (hgc2 _).trans h4, (hgc2 _).trans h5, ht⟩
    clear KC2 KF2 K23 K24 E5T B2 HROW KC1 KF1
    rw [← hW]
    clear hW
    have c5 := C5.out
    by_cases hp : 0 < es.length
    · obtain ⟨g, rfl, hg1, hg2, hgf, hgc⟩ := HROWW.out hp
      have HGC := Lib.hid hgc
      have HGF := Lib.hid hgf
      clear hgc hgf HROWW
      have hgb : b < g := by omega
      go_wp2_with fail
      clear c5
      go_loopw [24] (fun i wr => ∃ (k : Nat) (fps : List (List Nat)), k ≤ es.length ∧ i = .int .i64 k ∧ fps.length = k ∧ Fp W.heap.size wr.heap.size (List.flatten fps) ∧ Below g W wr ∧ (∀ o, wr.frozen? ⟨g, o, none⟩ = false) ∧
        (∀ j (h : j < es.length), ∃ x0 x1 x2 x3 x4 x5, wr.cell? ⟨g, j * 6, none⟩ = some x0 ∧ wr.cell? ⟨g, j * 6 + 1, none⟩ = some x1 ∧ wr.cell? ⟨g, j * 6 + 2, none⟩ = some x2 ∧ wr.cell? ⟨g, j * 6 + 3, none⟩ = some x3 ∧ wr.cell? ⟨g, j * 6 + 4, none⟩ = some x4 ∧ wr.cell? ⟨g, j * 6 + 5, none⟩ = some x5 ∧ (j < k → ∃ f, fps[j]? = some f ∧ ExOwn wr d (.agg #[x0, x1, x2, x3, x4, x5]) es[j] f) ∧ (k ≤ j → ExAt w0 d (.agg #[x0, x1, x2, x3, x4, x5]) es[j]))) (fun i _ => es.length - (intOf i).toNat)
      case atStart =>
        refine ⟨0, [], by omega, rfl, rfl, Fp.nil _ _, Below.refl _ _, HGF.out, fun j hj => ?_⟩
        obtain ⟨x0, x1, x2, x3, x4, x5, h0, h1, h2, h3, h4, h5, ht⟩ := HGC.out j hj
        exact ⟨x0, x1, x2, x3, x4, x5, h0, h1, h2, h3, h4, h5, fun h => by omega, fun _ => ht⟩
      case round =>
        obtain ⟨k, fps, hk, rfl, hfl, hfp, hb, hgfr, hrow⟩ := hrel
        have FP := Lib.hid hfp; clear hfp
        have FL := Lib.hid hfl; clear hfl
        have HB := Lib.hid hb; clear hb
        have GF := Lib.hid hgfr; clear hgfr
        have RW := Lib.hid hrow; clear hrow
        have hzr := HB.out.size
        have z5 : wr.cell? ⟨b, off + 5, none⟩ = some (.slice (some ⟨g, 0, none⟩) es.length cap2) := (HB.out.cell (p := ⟨b, off + 5, none⟩) hgb).trans C5.out
        by_cases hlt : k < es.length
        · have hgz : es[k].bulk ≤ 1048576 := by have := Ex.bulk_get es k hlt; have := HSZ.out; omega
          obtain ⟨x0, x1, x2, x3, x4, x5, h0, h1, h2, h3, h4, h5, _, ht⟩ := RW.out k hlt
          have BR : Hid (Below w0.heap.size w0 wr) := BW0.out.trans (HB.out.mono (by omega))
          have HT := Lib.hid (ht (Nat.le_refl _))
          have H0 := Lib.hid h0
          have H1 := Lib.hid h1
          have H2 := Lib.hid h2
          have H3 := Lib.hid h3
          have H4 := Lib.hid h4
          have H5 := Lib.hid h5
          clear ht h0 h1 h2 h3 h4 h5
          go_wp2_with fail
          refine (IH.out g (k * 6) x0 x1 x2 x3 x4 x5 es[k] w0 wr hgz HT.out BR.out (by omega) (by omega) H0.out H1.out H2.out H3.out H4.out H5.out GF.out).mono ?_
          rintro e w' ⟨d3, d4, d5, fp, rfl, q0, q1, q2, q3, q4, q5, hown, hfp, hkb, hkx, hkc, hkf⟩
          have OWN := Lib.hid hown
          have FQ := Lib.hid hfp
          have KB := Lib.hid hkb
          have KHX := Lib.hid hkx
          have KCC := Lib.hid hkc
          have KFF := Lib.hid hkf
          have Q0 := Lib.hid q0
          have Q1 := Lib.hid q1
          have Q2 := Lib.hid q2
          have Q3 := Lib.hid q3
          have Q4 := Lib.hid q4
          have Q5 := Lib.hid q5
          clear hown hfp hkb hkx hkc hkf q0 q1 q2 q3 q4 q5 z5
          have z5' : w'.cell? ⟨b, off + 5, none⟩ = some (.slice (some ⟨g, 0, none⟩) es.length cap2) := (KB.out.cell (p := ⟨b, off + 5, none⟩) hgb).trans ((HB.out.cell (p := ⟨b, off + 5, none⟩) hgb).trans C5.out)
          go_wp2_with fail
          clear z5'
          have hzw := KB.out.size
          have hF := FP.out
          have hQ := FQ.out
          have hL := FL.out
          refine ⟨⟨k + 1, fps ++ [fp], by omega, by go_num, by simp [hL], ?_, HB.out.trans KB.out, fun o => (KFF.out o).trans (GF.out o), fun j hj => ?_⟩, by simp [intOf]; omega⟩
          · rw [List.flatten_append, List.flatten_cons, List.flatten_nil, List.append_nil]
            exact hF.join hQ (by omega) (by omega)
          · by_cases hjk : j = k
            · subst hjk
              exact ⟨x0, x1, x2, d3, d4, d5, Q0.out, Q1.out, Q2.out, Q3.out, Q4.out, Q5.out, fun _ => ⟨fp, by rw [List.getElem?_append_right (by omega), hL]; simp, OWN.out⟩, fun h => by omega⟩
            · obtain ⟨x0, x1, x2, x3, x4, x5, h0, h1, h2, h3, h4, h5, hdone, hto⟩ := RW.out j hj
              refine ⟨x0, x1, x2, x3, x4, x5, (by rw [KCC.out (j * 6) (by omega)]; exact h0), (by rw [KCC.out (j * 6 + 1) (by omega)]; exact h1), (by rw [KCC.out (j * 6 + 2) (by omega)]; exact h2), (by rw [KCC.out (j * 6 + 3) (by omega)]; exact h3), (by rw [KCC.out (j * 6 + 4) (by omega)]; exact h4), (by rw [KCC.out (j * 6 + 5) (by omega)]; exact h5), fun h => ?_, fun h => hto (by omega)⟩
              obtain ⟨f, hf, ho⟩ := hdone (by omega)
              refine ⟨f, by rw [List.getElem?_append_left (by omega)]; exact hf, ho.kept (by omega) fun x hx => ?_⟩
              have hx2 := hF.2 x (List.mem_flatten.2 ⟨f, List.mem_of_getElem? hf, hx⟩)
              exact KHX.out x hx2.2 (by omega)
        · obtain rfl : k = es.length := by omega
          go_wp2_with fail
          refine bodyPost_end (results_none (by kernel_rfl) _ _ _) rfl ?_
          have hall : ∀ j (h : j < es.length), ∃ x0 x1 x2 x3 x4 x5 f, wr.cell? ⟨g, j * 6, none⟩ = some x0 ∧ wr.cell? ⟨g, j * 6 + 1, none⟩ = some x1 ∧ wr.cell? ⟨g, j * 6 + 2, none⟩ = some x2 ∧ wr.cell? ⟨g, j * 6 + 3, none⟩ = some x3 ∧ wr.cell? ⟨g, j * 6 + 4, none⟩ = some x4 ∧ wr.cell? ⟨g, j * 6 + 5, none⟩ = some x5 ∧ fps[j]? = some f ∧ ExOwn wr d (.agg #[x0, x1, x2, x3, x4, x5]) es[j] f := fun j hj => by
            obtain ⟨x0, x1, x2, x3, x4, x5, h0, h1, h2, h3, h4, h5, hdone, _⟩ := RW.out j hj
            obtain ⟨f, hf, ho⟩ := hdone hj
            exact ⟨x0, x1, x2, x3, x4, x5, f, h0, h1, h2, h3, h4, h5, hf, ho⟩
          have hso := det_done hc2 hm2 (by omega) GF.out FL.out hall
          have kb : ∀ o, wr.cell? ⟨b, o, none⟩ = W.cell? ⟨b, o, none⟩ := fun o => HB.out.cell (p := ⟨b, o, none⟩) hgb
          have hty : TyOwn wr d (.agg #[.int .i64 gk, .slice ga gn gc]) ty f1 := HGW.out.kept hzr fun x hx => HB.out.block x (by have := (F1.out.2 x hx).2; omega)
          refine ⟨.int .i64 gk, .slice ga gn gc, .slice (some ⟨g, 0, none⟩) es.length cap2, f1 ++ ([g] ++ fps.flatten), rfl, (kb _).trans ((CB.out _ (by omega) (by omega) (by omega)).trans E0.out), (kb _).trans ((CB.out _ (by omega) (by omega) (by omega)).trans E1.out), (kb _).trans ((CB.out _ (by omega) (by omega) (by omega)).trans E2.out), (kb _).trans C3.out, (kb _).trans C4.out, (kb _).trans C5.out,
            ⟨_, _, _, f1, _, rfl, hk0, hk1, hn0, hn1, hnm, rfl, hty, hso⟩, ?_, BB.out.trans (HB.out.mono (by omega)), fun x h1 h2 => ?_, fun o ho => ?_, fun o => ?_⟩
          · have hj1 := (Fp.one (g := g) (lo := w1.heap.size) (hi := W.heap.size) hg1 hg2).join FP.out (by omega) hzr
            exact (F1.out.join hj1 hz1 (by omega)).mono (Nat.le_refl _) (Nat.le_refl _)
          · rw [HB.out.block x (by omega), KX.out x (by omega) h2]
            exact B1.out.block x h1
          · rw [kb, CB.out o (by omega) (by omega) (by omega)]
          · rw [HB.out.frozen (p := ⟨b, o, none⟩) hgb, CF.out o, HFR.out o]
    · have hl0 : es.length = 0 := by omega
      obtain rfl : es = [] := List.eq_nil_of_length_eq_zero hl0
      go_wp2_with fail
      go_loopw [24] (fun i wr => i = .int .i64 0 ∧ wr = W) (fun _ _ => 0)
      case atStart => exact ⟨rfl, rfl⟩
      case round =>
        obtain ⟨rfl, rfl⟩ := hrel
        go_wp2_with fail
        refine bodyPost_end (results_none (by kernel_rfl) _ _ _) rfl ?_
        refine ⟨.int .i64 gk, .slice ga gn gc, .slice a2 0 cap2, f1 ++ [], rfl, (CB.out _ (by omega) (by omega) (by omega)).trans E0.out, (CB.out _ (by omega) (by omega) (by omega)).trans E1.out, (CB.out _ (by omega) (by omega) (by omega)).trans E2.out, C3.out, C4.out, C5.out,
          ⟨_, _, _, f1, _, rfl, hk0, hk1, hn0, hn1, hnm, rfl, HGW.out, det_none _ _ _ _ hm2⟩, ?_, BB.out, fun x h1 h2 => ?_, fun o ho => ?_, fun o => ?_⟩
        · rw [List.append_nil]
          exact F1.out.mono (Nat.le_refl _) (by omega)
        · rw [KX.out x (by omega) h2]
          exact B1.out.block x h1
        · exact CB.out o (by omega) (by omega) (by omega)
        · rw [CF.out o, HFR.out o]
theorem detach_all : ∀ d, DetSaid d
  | 0 => fun _ _ _ _ _ _ _ _ _ _ _ _ h => h.elim
  | d + 1 => detach_step d (detach_all d)
end Go.Proofs.Ytcohfbdhdngplaa
