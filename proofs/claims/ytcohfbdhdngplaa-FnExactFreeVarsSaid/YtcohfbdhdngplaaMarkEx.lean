/-
  Proved: laws.markExprS numbers the nodes below an expression's root in its own memory and touches nothing else.
-/
import Derived.Test.YtcohfbdhdngplaaExTree
import Derived.Test.YtcohfbdhdngplaaHeldType
import Derived.Test.YtcohfbdhdngplaaMarkText
namespace Go.Proofs.Ytcohfbdhdngplaa
open Go.RowKit

mutual
/-- How many numbers marking takes below the root. -/
def Ex.wt : Ex → Nat
  | .node _ _ _ ty es => (ty.size - 1) + Ex.wts es
def Ex.wts : List Ex → Nat
  | [] => 0
  | e :: r => 4 + e.wt + Ex.wts r
end
mutual
/-- The expression with its fields numbered from k on, the root first. -/
def Ex.mark : Ex → Int → Ex
  | .node _ _ _ ty es, k => .node k (mt (k + 1).natAbs) (k + 2) (ty.mark (k + 3)) (Ex.marks es (k + 4 + ((ty.size - 1 : Nat) : Int)))
def Ex.marks : List Ex → Int → List Ex
  | [], _ => []
  | e :: r, k => e.mark k :: Ex.marks r (k + 4 + (e.wt : Int))
end
theorem Ex.wts_take (es : List Ex) : ∀ k (h : k < es.length), Ex.wts (es.take (k + 1)) = Ex.wts (es.take k) + (4 + es[k].wt) := by
  induction es with
  | nil => intro k h; simp at h
  | cons s r ih =>
    intro k h
    cases k with
    | zero => simp [Ex.wts]
    | succ k =>
      simp only [List.take_succ_cons, Ex.wts, List.getElem_cons_succ]
      rw [ih k (by simpa using h)]; omega
theorem Ex.wts_le (es : List Ex) (k : Nat) : Ex.wts (es.take k) ≤ Ex.wts es := by
  induction es generalizing k with
  | nil => simp
  | cons s r ih =>
    cases k with
    | zero => simp [Ex.wts]
    | succ k => simp only [List.take_succ_cons, Ex.wts]; have := ih k; omega
mutual
theorem Ex.wt_le : ∀ e : Ex, e.wt ≤ 4 * e.bulk
  | .node k nm n ty es => by have := Ex.wts_le4 es; simp only [Ex.wt, Ex.bulk]; omega
theorem Ex.wts_le4 : ∀ es : List Ex, Ex.wts es ≤ 4 * Ex.bulks es
  | [] => Nat.le_refl _
  | e :: r => by have := Ex.wt_le e; have := Ex.wts_le4 r; simp only [Ex.wts, Ex.bulks]; omega
end
theorem Ex.marks_length : ∀ (es : List Ex) (k : Int), (Ex.marks es k).length = es.length
  | [], _ => rfl
  | t :: r, k => by simp [Ex.marks, Ex.marks_length r]
theorem Ex.marks_get : ∀ (es : List Ex) (k : Int) (j : Nat) (h : j < es.length) (h' : j < (Ex.marks es k).length), (Ex.marks es k)[j] = es[j].mark (k + Ex.wts (es.take j))
  | t :: r, k, 0, _, _ => by simp [Ex.marks, Ex.wts]
  | t :: r, k, j + 1, h, h' => by
    simp only [Ex.marks, List.getElem_cons_succ, List.take_succ_cons, Ex.wts]
    rw [Ex.marks_get r (k + 4 + t.wt) j (by simpa using h)]
    congr 1; omega
theorem mt_size (n : Nat) (h : n ≤ 1099511627777) : (mt n).size ≤ 9223372036854775807 := by
  have := Num.dd_len_le 13 n (by omega)
  show (109 :: Num.dd n).toArray.size ≤ _
  simp; omega
/-- What four stores into a row leave, with memory made in between. -/
theorem four_cells {wr w2 : World} {g p : Nat} {x0 x1 x2 x3 c0 c1 c2 c3 : Value} (hg : g < wr.heap.size) (hb : Below (wr.setCell ⟨g, p, none⟩ x0).heap.size (wr.setCell ⟨g, p, none⟩ x0) w2)
    (e0 : wr.cell? ⟨g, p, none⟩ = some c0) (e1 : wr.cell? ⟨g, p + 1, none⟩ = some c1) (e2 : wr.cell? ⟨g, p + 2, none⟩ = some c2) (e3 : wr.cell? ⟨g, p + 3, none⟩ = some c3) (W : World)
    (hW : W = ((w2.setCell ⟨g, p + 1, none⟩ x1).setCell ⟨g, p + 2, none⟩ x2).setCell ⟨g, p + 3, none⟩ x3) :
    (W.cell? ⟨g, p, none⟩ = some x0 ∧ W.cell? ⟨g, p + 1, none⟩ = some x1 ∧ W.cell? ⟨g, p + 2, none⟩ = some x2 ∧ W.cell? ⟨g, p + 3, none⟩ = some x3) ∧ (∀ o, o < p ∨ p + 3 < o → W.cell? ⟨g, o, none⟩ = wr.cell? ⟨g, o, none⟩) ∧
      (∀ o, W.frozen? ⟨g, o, none⟩ = wr.frozen? ⟨g, o, none⟩) ∧ (∀ b, b ≠ g → b < wr.heap.size → W.heap[b]? = wr.heap[b]?) ∧ wr.heap.size ≤ W.heap.size ∧ (∀ B, B ≤ g → Below B wr W) := by
  have hg1 : g < (wr.setCell ⟨g, p, none⟩ x0).heap.size := by rw [World.size_setCell]; exact hg
  have q : ∀ o, w2.cell? ⟨g, o, none⟩ = (wr.setCell ⟨g, p, none⟩ x0).cell? ⟨g, o, none⟩ := fun o => hb.cell (p := ⟨g, o, none⟩) hg1
  have qf : ∀ o, w2.frozen? ⟨g, o, none⟩ = (wr.setCell ⟨g, p, none⟩ x0).frozen? ⟨g, o, none⟩ := fun o => hb.frozen (p := ⟨g, o, none⟩) hg1
  have q0 : w2.cell? ⟨g, p, none⟩ = some x0 := (q p).trans (World.cell?_setCell_same _ _ _ e0)
  have qo : ∀ o, o ≠ p → w2.cell? ⟨g, o, none⟩ = wr.cell? ⟨g, o, none⟩ := fun o ho => (q o).trans (World.cell?_setCell_other _ _ _ _ (by first | (simp; omega) | simp))
  have hz := hb.size
  rw [World.size_setCell] at hz
  subst hW
  have r1 : (w2.setCell ⟨g, p + 1, none⟩ x1).cell? ⟨g, p + 1, none⟩ = some x1 := World.cell?_setCell_same _ _ _ ((qo _ (by omega)).trans e1)
  have r2 : ((w2.setCell ⟨g, p + 1, none⟩ x1).setCell ⟨g, p + 2, none⟩ x2).cell? ⟨g, p + 2, none⟩ = some x2 :=
    World.cell?_setCell_same _ _ _ ((World.cell?_setCell_other _ _ _ _ (by simp)).trans ((qo _ (by omega)).trans e2))
  have r3 : (((w2.setCell ⟨g, p + 1, none⟩ x1).setCell ⟨g, p + 2, none⟩ x2).setCell ⟨g, p + 3, none⟩ x3).cell? ⟨g, p + 3, none⟩ = some x3 :=
    World.cell?_setCell_same _ _ _ ((World.cell?_setCell_other _ _ _ _ (by simp)).trans ((World.cell?_setCell_other _ _ _ _ (by simp)).trans ((qo _ (by omega)).trans e3)))
  refine ⟨⟨?_, ?_, ?_, r3⟩, fun o ho => ?_, fun o => ?_, fun b hb1 hb2 => ?_, by simpa using hz, fun B hB => ?_⟩
  · rw [World.cell?_setCell_other _ _ _ _ (by simp), World.cell?_setCell_other _ _ _ _ (by simp), World.cell?_setCell_other _ _ _ _ (by simp)]; exact q0
  · rw [World.cell?_setCell_other _ _ _ _ (by simp), World.cell?_setCell_other _ _ _ _ (by simp)]; exact r1
  · rw [World.cell?_setCell_other _ _ _ _ (by simp)]; exact r2
  · rw [World.cell?_setCell_other _ _ _ _ (by first | (simp; omega) | simp), World.cell?_setCell_other _ _ _ _ (by first | (simp; omega) | simp), World.cell?_setCell_other _ _ _ _ (by first | (simp; omega) | simp)]; exact qo o (by omega)
  · rw [World.frozen?_setCell, World.frozen?_setCell, World.frozen?_setCell, qf o, World.frozen?_setCell]
  · rw [heap_setCell_other _ _ _ _ hb1, heap_setCell_other _ _ _ _ hb1, heap_setCell_other _ _ _ _ hb1, hb.block b (by rw [World.size_setCell]; exact hb2), heap_setCell_other _ _ _ _ hb1]
  · have h1 : Below B wr (wr.setCell ⟨g, p, none⟩ x0) := (Below.refl _ _).setCell hB _
    exact (((h1.trans (hb.mono (by rw [World.size_setCell]; omega))).setCell hB _).setCell hB _).setCell hB _

def MarkExsEnd (B d : Nat) (v : Value) (es : List Ex) (fp : List Nat) (k : Int) (w : World) (e : Ending) (w' : World) : Prop :=
  e = .returned (.int .i64 (k + Ex.wts es)) ∧ ExsOwn w' d v (Ex.marks es k) fp ∧ Below B w w' ∧ (∀ b, b < w.heap.size → b ∉ fp → w'.heap[b]? = w.heap[b]?)
def MarkExsSaid (d : Nat) : Prop := ∀ (B : Nat) (v : Value) (es : List Ex) (fp : List Nat) (k : Int) (w : World), B ≤ w.heap.size → (∀ b, b ∈ fp → B ≤ b) → fp.Nodup → 0 ≤ k → k + Ex.wts es ≤ 1099511627776 → ExsOwn w d v es fp →
  Calls Try.prog 59 #[v, .int .i64 k] w (MarkExsEnd B d v es fp k w)
theorem ExOwn.lt {w : World} : ∀ {d : Nat} {v : Value} {t : Ex} {fp : List Nat}, ExOwn w d v t fp → ∀ b, b ∈ fp → b < w.heap.size
  | 0, _, _, _, h => h.elim
  | d + 1, v, .node k nm n ty es, fp, h => by
    obtain ⟨c3, c4, sl, f1, f2, hv, h0, h1, h2, h3, h4, hfp, hty, a, cap, hd, fps, hs, hc, hm, hl, hf, hlt, h⟩ := h
    intro b hb
    rw [hfp] at hb
    rcases List.mem_append.1 hb with hb | hb
    · exact hty.lt b hb
    · rw [hf] at hb
      rcases List.mem_append.1 hb with hb | hb
      · exact hlt b hb
      · obtain ⟨f, hf1, hf2⟩ := List.mem_flatten.1 hb
        obtain ⟨j, hj, rfl⟩ := List.getElem_of_mem hf1
        obtain ⟨g, off, c0, c1, c2, c3, c4, c5, f, _, _, _, _, _, _, _, _, _, _, hfj, hr⟩ := h j (by omega)
        rw [List.getElem?_eq_getElem hj] at hfj
        cases hfj
        exact hr.lt b hf2

theorem TysOwn.lt {w : World} {d : Nat} {v : Value} {ts : List Ty} {fp : List Nat} (h : TysOwn w d v ts fp) : ∀ b, b ∈ fp → b < w.heap.size :=
  TyOwn.lt (d := d + 1) (v := .agg #[.int .i64 0, v]) (t := .node 0 ts) ⟨v, rfl, by omega, by omega, h⟩
theorem ExsOwn.lt {w : World} {d : Nat} {v : Value} {es : List Ex} {fp : List Nat} (h : ExsOwn w d v es fp) : ∀ b, b ∈ fp → b < w.heap.size := by
  obtain ⟨a, cap, hd, fps, hs, hc, hm, hl, hf, hlt, h⟩ := h
  intro b hb
  rw [hf] at hb
  rcases List.mem_append.1 hb with hb | hb
  · exact hlt b hb
  · obtain ⟨f, hf1, hf2⟩ := List.mem_flatten.1 hb
    obtain ⟨j, hj, rfl⟩ := List.getElem_of_mem hf1
    obtain ⟨g, off, c0, c1, c2, c3, c4, c5, f, _, _, _, _, _, _, _, _, _, _, hfj, hr⟩ := h j (by omega)
    rw [List.getElem?_eq_getElem hj] at hfj
    cases hfj
    exact ExOwn.lt hr b hf2
set_option maxRecDepth 100000 in
set_option maxHeartbeats 4000000 in
theorem markExs_step (d : Nat) (ih : MarkExsSaid d) : MarkExsSaid (d + 1) := by
  intro B v es fp k w hB hfB hnd hk0 hk1 h
  have IH := Lib.hid ih; clear ih
  have HFB := Lib.hid hfB; clear hfB
  have HND := Lib.hid hnd; clear hnd
  obtain ⟨a, cap, hd, fps, rfl, hcap, hcap2, hl, hf, hhd, hat⟩ := h
  have HHD := Lib.hid hhd; clear hhd
  have HAT := Lib.hid hat; clear hat
  go_enter Try.func59, Try.ntmps59
  go_wp2_with fail
  go_loopw [1, 5] (fun m i wr => ∃ (j : Nat), j ≤ es.length ∧ i = .int .i64 j ∧ m = .int .i64 (k + Ex.wts (es.take j)) ∧
      (∀ t (h : t < es.length), ∃ g off c0 c1 c2 c3 c4 c5 f, a = some ⟨g, off, none⟩ ∧ hd = [g] ∧ g < wr.heap.size ∧ wr.cell? ⟨g, off + t * 6, none⟩ = some c0 ∧ wr.cell? ⟨g, off + t * 6 + 1, none⟩ = some c1 ∧ wr.cell? ⟨g, off + t * 6 + 2, none⟩ = some c2 ∧ wr.cell? ⟨g, off + t * 6 + 3, none⟩ = some c3 ∧ wr.cell? ⟨g, off + t * 6 + 4, none⟩ = some c4 ∧ wr.cell? ⟨g, off + t * 6 + 5, none⟩ = some c5 ∧ (∀ o, wr.frozen? ⟨g, o, none⟩ = false) ∧ fps[t]? = some f ∧ ExOwn wr (d + 1) (.agg #[c0, c1, c2, c3, c4, c5]) (if t < j then es[t].mark (k + Ex.wts (es.take t)) else es[t]) f) ∧
      Below B w wr ∧ (∀ b, b < w.heap.size → b ∉ fp → wr.heap[b]? = w.heap[b]?)) (fun _ i _ => es.length - (intOf i).toNat)
  case atStart => exact ⟨0, by omega, rfl, by simp [Ex.wts], HAT.out, Below.refl _ _, fun _ _ _ => rfl⟩
  case round =>
    obtain ⟨j, hj, rfl, rfl, hrow, hb, hout⟩ := hrel
    have HR := Lib.hid hrow; clear hrow
    have HB := Lib.hid hb; clear hb
    have HO := Lib.hid hout; clear hout
    by_cases hlt : j < es.length
    · obtain ⟨g, off, c0, c1, c2, c3, c4, c5, f, rfl, rfl, hg, e0, e1, e2, e3, e4, e5, hfr, hfj, hex⟩ := HR.out j hlt
      rw [if_neg (Nat.lt_irrefl j)] at hex
      have HS := Lib.hid (Ex.wts_take es j hlt)
      have hle := Ex.wts_le es (j + 1)
      cases hej : es[j] with
      | node kd nm n ty us =>
        rw [hej] at hex
        obtain ⟨z3, z4, sl, f1, f2, hv, h0, h1, h2, h3, h4, hff, hty, hus⟩ := hex
        have hc : c0 = .int .i64 kd ∧ c1 = .string nm ∧ c2 = .int .i64 n ∧ c3 = z3 ∧ c4 = z4 ∧ c5 = sl := by injection hv with hv; injection hv with hv; simpa using hv
        obtain ⟨rfl, rfl, rfl, rfl, rfl, rfl⟩ := hc
        have hwt : es[j].wt = (ty.size - 1) + Ex.wts us := by rw [hej]; rfl
        cases d with
        | zero => exact hty.elim
        | succ d =>
        cases hte : ty with
        | node tk ts =>
          rw [hte] at hty hwt
          have hts : (Ty.node tk ts).size - 1 = Ty.sizes ts := by show 1 + Ty.sizes ts - 1 = _; omega
          obtain ⟨sl2, hv2, t0, t1, hts2⟩ := hty
          have hc2 : c3 = .int .i64 tk ∧ c4 = sl2 := by injection hv2 with hv2; injection hv2 with hv2; simpa using hv2
          obtain ⟨rfl, rfl⟩ := hc2
          have HTS : Hid (TysOwn wr d c4 ts f1) := hts2
          obtain ⟨a1, cap1, hd1, fps1, rfl, _⟩ := hts2
          have HUS : Hid (ExsOwn wr (d + 1) c5 us f2) := hus
          obtain ⟨a2, cap2, hd2, fps2, rfl, _⟩ := hus
          have HEJ := Lib.hid hej; clear hej
          have HTE := Lib.hid hte; clear hte
          subst hf
          have hnd := List.nodup_append.1 HND.out
          have HN2 := Lib.hid hnd.2.1
          have HG : Hid (∀ (t : Nat) (f' : List Nat) (b : Nat), fps[t]? = some f' → b ∈ f' → b ≠ g) := fun t f' b hf' hb e => hnd.2.2 g (by simp) b (flat_sub hf' hb) e.symm
          clear hnd hv hv2
          subst hff
          have hg1 : ∀ b, b ∈ f1 → b ≠ g := fun b hb => HG.out j (f1 ++ f2) b hfj (List.mem_append_left _ hb)
          have hg2 : ∀ b, b ∈ f2 → b ≠ g := fun b hb => HG.out j (f1 ++ f2) b hfj (List.mem_append_right _ hb)
          have HG1 := Lib.hid hg1; clear hg1
          have HG2 := Lib.hid hg2; clear hg2
          have HFJ := Lib.hid hfj; clear hfj
          have hn12 := List.nodup_append.1 (flat_nodup HN2.out HFJ.out)
          have HN12 := Lib.hid hn12; clear hn12
          have HFB1 := Lib.hid (show ∀ b, b ∈ f1 → B ≤ b from fun b hb => HFB.out b (List.mem_append_right _ (flat_sub HFJ.out (List.mem_append_left _ hb))))
          have HFB2 := Lib.hid (show ∀ b, b ∈ f2 → B ≤ b from fun b hb => HFB.out b (List.mem_append_right _ (flat_sub HFJ.out (List.mem_append_right _ hb))))
          have hBg : B ≤ g := HFB.out g (by simp)
          have HFR := Lib.hid hfr
          have p0 := hfr (off + j * 6)
          have p1 := hfr (off + j * 6 + 1)
          have p2 := hfr (off + j * 6 + 2)
          have p3 := hfr (off + j * 6 + 3)
          clear hfr
          have E0 := Lib.hid e0
          have E1 := Lib.hid e1
          have E2 := Lib.hid e2
          have E3 := Lib.hid e3
          have E4 := Lib.hid e4
          have E5 := Lib.hid e5
          have HWT := Lib.hid hwt
          obtain ⟨m, hm⟩ : ∃ m : Int, m = k + Ex.wts (es.take j) := ⟨_, rfl⟩
          have hmw : m + (4 + Ty.sizes ts + Ex.wts us) ≤ 1099511627776 := by have := HS.out; rw [hts] at hwt; omega
          have hm0 : 0 ≤ m := by omega
          rw [← hm]
          have HM := Lib.hid hm; clear hm hwt
          clear e1 e2 e3 e4 e5 p1 p2 p3
          go_wp2_with fail
          refine (markText (m + 1) (by omega) (by omega) _).mono ?_
          rintro e w2 ⟨rfl, hb2⟩
          obtain ⟨W, hW⟩ : ∃ W, W = ((w2.setCell ⟨g, off + j * 6 + 1, none⟩ (.string (mt (m + 1).natAbs))).setCell ⟨g, off + j * 6 + 2, none⟩ (.int .i64 (m + 1 + 1))).setCell ⟨g, off + j * 6 + 3, none⟩ (.int .i64 (m + 1 + 1 + 1)) := ⟨_, rfl⟩
          have HF := Lib.hid (four_cells hg hb2 E0.out E1.out E2.out E3.out W hW)
          have hg3 : g < (wr.setCell ⟨g, off + j * 6, none⟩ (.int .i64 m)).heap.size := by rw [World.size_setCell]; exact hg
          have qc : ∀ o, o ≠ off + j * 6 → w2.cell? ⟨g, o, none⟩ = wr.cell? ⟨g, o, none⟩ := fun o ho => (hb2.cell (p := ⟨g, o, none⟩) hg3).trans (World.cell?_setCell_other _ _ _ _ (by first | (simp; omega) | simp))
          have qf : ∀ o, w2.frozen? ⟨g, o, none⟩ = false := fun o => (hb2.frozen (p := ⟨g, o, none⟩) hg3).trans ((World.frozen?_setCell _ _ _ _).trans (HFR.out o))
          have e1 := (qc (off + j * 6 + 1) (by omega)).trans E1.out
          have e2 := (qc (off + j * 6 + 2) (by omega)).trans E2.out
          have e3 := (qc (off + j * 6 + 3) (by omega)).trans E3.out
          have e4 := (qc (off + j * 6 + 4) (by omega)).trans E4.out
          have p1 := qf (off + j * 6 + 1)
          have p2 := qf (off + j * 6 + 2)
          have p3 := qf (off + j * 6 + 3)
          clear qc qf hb2 e0 p0
          have HTSW : Hid (TysOwn W d (.slice a1 ts.length cap1) ts f1) := TysOwn.kept HTS.out HF.out.2.2.2.2.1 fun b hb => HF.out.2.2.2.1 b (HG1.out b hb) (TysOwn.lt HTS.out b hb)
          have HBW : Hid (Below B w W) := HB.out.trans (HF.out.2.2.2.2.2 B hBg)
          have hBW : B ≤ W.heap.size := Nat.le_trans hB HBW.out.size
          go_wp2_with fail
          rw [← hW]
          refine (markTys_all d B _ ts f1 (m + 1 + 1 + 1 + 1) W hBW HFB1.out HN12.out.1 (by omega) (by omega) HTSW.out).mono ?_
          rintro e w4 ⟨rfl, ht4, hb4, hout4⟩
          have HT4 := Lib.hid ht4; clear ht4
          have HB4 := Lib.hid (HBW.out.trans hb4)
          have hgW : g < W.heap.size := Nat.lt_of_lt_of_le hg HF.out.2.2.2.2.1
          have hgb4 : w4.heap[g]? = W.heap[g]? := hout4 g hgW (fun h => HG1.out g h rfl)
          have e5 : w4.cell? ⟨g, off + j * 6 + 5, none⟩ = some (.slice a2 us.length cap2) := by rw [World.cell?_of_block hgb4, HF.out.2.1 _ (by omega)]; exact E5.out
          have HK4 : Hid (∀ b, b ≠ g → b ∉ f1 → b < wr.heap.size → w4.heap[b]? = wr.heap[b]?) := fun b b1 b2 b3 => by
            rw [hout4 b (Nat.lt_of_lt_of_le b3 HF.out.2.2.2.2.1) b2]; exact HF.out.2.2.2.1 b b1 b3
          have hz4 : wr.heap.size ≤ w4.heap.size := Nat.le_trans HF.out.2.2.2.2.1 hb4.size
          have HGB4 := Lib.hid hgb4
          clear hb4 hout4 e1 e2 e3 e4 p1 p2 p3 hgb4
          have HUS4 : Hid (ExsOwn w4 (d + 1) (.slice a2 us.length cap2) us f2) := ExsOwn.kept HUS.out hz4 fun b hb => HK4.out b (HG2.out b hb) (fun h => HN12.out.2.2 b h b hb rfl) (ExsOwn.lt HUS.out b hb)
          have hB4 : B ≤ w4.heap.size := Nat.le_trans hB HB4.out.size
          go_wp2_with fail
          refine (IH.out B _ us f2 (m + 1 + 1 + 1 + 1 + Ty.sizes ts) w4 hB4 HFB2.out HN12.out.2.1 (by omega) (by omega) HUS4.out).mono ?_
          rintro e w5 ⟨rfl, ht5, hb5, hout5⟩
          have HT5 := Lib.hid ht5; clear ht5
          have HB5 := Lib.hid (HB4.out.trans hb5)
          have hg4 : g < w4.heap.size := Nat.lt_of_lt_of_le hg hz4
          have hgb5 : w5.heap[g]? = w4.heap[g]? := hout5 g hg4 (fun h => HG2.out g h rfl)
          have HGB : Hid (w5.heap[g]? = W.heap[g]?) := hgb5.trans HGB4.out
          have hz5 : wr.heap.size ≤ w5.heap.size := Nat.le_trans hz4 hb5.size
          have HK5 : Hid (∀ b, b ≠ g → b ∉ f1 ++ f2 → b < wr.heap.size → w5.heap[b]? = wr.heap[b]?) := fun b b1 b2 b3 => by
            rw [hout5 b (by omega) (fun h => b2 (List.mem_append_right _ h))]; exact HK4.out b b1 (fun h => b2 (List.mem_append_left _ h)) b3
          have HT54 : Hid (TysOwn w5 d (.slice a1 ts.length cap1) (Ty.marks ts (m + 1 + 1 + 1 + 1)) f1) := TysOwn.kept HT4.out hb5.size fun b hb => hout5 b (TysOwn.lt HT4.out b hb) (fun h => HN12.out.2.2 b hb b h rfl)
          clear hb5 hout5 hgb5 e5
          go_wp2_with fail
          refine ⟨⟨j + 1, by omega, by go_num, ?_, fun t ht => ?_, HB5.out, fun b b1 b2 => ?_⟩, by simp [intOf]; omega⟩
          · have h1 := HS.out
            have h2 := HWT.out
            rw [hts] at h2
            have h3 := HM.out
            rw [h1, h2, h3]; go_num
          · obtain ⟨g', off', d0, d1, d2, d3, d4, d5, ft, q1, q2, q3, r0, r1, r2, r3, r4, r5, qfr, q7, q8⟩ := HR.out t ht
            cases q1
            by_cases htj : t = j
            · subst htj
              rw [HFJ.out] at q7
              cases q7
              refine ⟨g, off, .int .i64 m, .string (mt (m + 1).natAbs), .int .i64 (m + 1 + 1), .int .i64 (m + 1 + 1 + 1), .slice a1 ts.length cap1, .slice a2 us.length cap2, f1 ++ f2, rfl, rfl, by omega, ?_, ?_, ?_, ?_, ?_, ?_, fun o => ?_, HFJ.out, ?_⟩
              · rw [World.cell?_of_block HGB.out]; exact HF.out.1.1
              · rw [World.cell?_of_block HGB.out]; exact HF.out.1.2.1
              · rw [World.cell?_of_block HGB.out]; exact HF.out.1.2.2.1
              · rw [World.cell?_of_block HGB.out]; exact HF.out.1.2.2.2
              · rw [World.cell?_of_block HGB.out, HF.out.2.1 _ (by omega)]; exact E4.out
              · rw [World.cell?_of_block HGB.out, HF.out.2.1 _ (by omega)]; exact E5.out
              · rw [World.frozen?_of_block HGB.out, HF.out.2.2.1]; exact HFR.out o
              · rw [if_pos (by omega), HEJ.out, HTE.out]
                have ek : k + (Ex.wts (es.take t) : Int) = m := HM.out.symm
                rw [ek]
                have e2 : m + 1 + 1 = m + 2 := by omega
                have e3 : m + 1 + 1 + 1 = m + 3 := by omega
                have e4 : m + 1 + 1 + 1 + 1 = m + 3 + 1 := by omega
                have e5 : m + 1 + 1 + 1 + 1 + (Ty.sizes ts : Int) = m + 4 + (((Ty.node tk ts).size - 1 : Nat) : Int) := by rw [hts]; omega
                have h5 := HT5.out
                have h54 := HT54.out
                rw [e5] at h5
                rw [e4] at h54
                rw [e3, e2]
                exact ⟨_, _, _, f1, f2, rfl, by omega, by omega, by omega, by omega, mt_size _ (by omega), rfl, ⟨_, rfl, by omega, by omega, h54⟩, h5⟩
            · have hgt : ∀ o, o < off + j * 6 ∨ off + j * 6 + 3 < o → w5.cell? ⟨g, o, none⟩ = wr.cell? ⟨g, o, none⟩ := fun o ho => by rw [World.cell?_of_block HGB.out]; exact HF.out.2.1 o ho
              refine ⟨g, off, d0, d1, d2, d3, d4, d5, ft, rfl, rfl, by omega, ?_, ?_, ?_, ?_, ?_, ?_, fun o => ?_, q7, ?_⟩
              · rw [hgt _ (by omega)]; exact r0
              · rw [hgt _ (by omega)]; exact r1
              · rw [hgt _ (by omega)]; exact r2
              · rw [hgt _ (by omega)]; exact r3
              · rw [hgt _ (by omega)]; exact r4
              · rw [hgt _ (by omega)]; exact r5
              · rw [World.frozen?_of_block HGB.out, HF.out.2.2.1]; exact HFR.out o
              · have e3 : (if t < j + 1 then es[t].mark (k + Ex.wts (es.take t)) else es[t]) = (if t < j then es[t].mark (k + Ex.wts (es.take t)) else es[t]) := by
                  by_cases hlt2 : t < j
                  · rw [if_pos hlt2, if_pos (by omega)]
                  · rw [if_neg hlt2, if_neg (by omega)]
                rw [e3]
                exact q8.kept (by omega) fun b hb => HK5.out b (HG.out t ft b q7 hb) (flat_apart HN2.out q7 HFJ.out htj hb) (ExOwn.lt q8 b hb)
          · have hnb : b ≠ g := fun e => b2 (by rw [e]; simp)
            have hnf : b ∉ f1 ++ f2 := fun e => b2 (List.mem_append_right _ (flat_sub HFJ.out e))
            rw [HK5.out b hnb hnf (Nat.lt_of_lt_of_le b1 HB.out.size)]
            exact HO.out b b1 b2
    · have hjn : j = es.length := by omega
      subst hjn
      go_wp2_with fail
      go_ret
      refine ⟨by rw [List.take_length]; rfl, ⟨a, cap, hd, fps, by rw [Ex.marks_length], by rw [Ex.marks_length]; exact hcap, hcap2, by rw [Ex.marks_length]; exact hl, hf, fun b hb => Nat.lt_of_lt_of_le (HHD.out b hb) HB.out.size, fun t ht => ?_⟩, HB.out, HO.out⟩
      rw [Ex.marks_length] at ht
      obtain ⟨g, off, c0, c1, c2, c3, c4, c5, f, q1, q2, q3, r0, r1, r2, r3, r4, r5, qfr, q7, q8⟩ := HR.out t ht
      rw [if_pos ht] at q8
      exact ⟨g, off, c0, c1, c2, c3, c4, c5, f, q1, q2, q3, r0, r1, r2, r3, r4, r5, qfr, q7, by rw [Ex.marks_get es k t ht]; exact q8⟩
theorem markExs_zero : MarkExsSaid 0 := by
  intro B v es fp k w hB hfB hnd hk0 hk1 h
  obtain ⟨a, cap, hd, fps, rfl, hcap, hcap2, hl, rfl, hhd, hat⟩ := h
  cases es with
  | cons t r =>
    obtain ⟨_, _, _, _, _, _, _, _, _, _, _, _, _, _, _, _, _, _, _, _, hr⟩ := hat 0 (by simp)
    exact hr.elim
  | nil =>
    go_enter Try.func59, Try.ntmps59
    go_wp2_with fail
    go_loop [1, 5] (fun m i => m = .int .i64 k ∧ i = .int .i64 0) (fun _ _ => 0)
    case atStart => exact ⟨rfl, rfl⟩
    case round =>
      obtain ⟨rfl, rfl⟩ := hrel
      go_wp2_with fail
      go_ret
      exact ⟨by simp [Ex.wts], ⟨a, cap, hd, fps, rfl, hcap, hcap2, hl, rfl, hhd, fun j hj => by simp [Ex.marks] at hj⟩, Below.refl _ _, fun _ _ _ => rfl⟩
theorem markExs_all : ∀ d, MarkExsSaid d
  | 0 => markExs_zero
  | d + 1 => markExs_step d (markExs_all d)
end Go.Proofs.Ytcohfbdhdngplaa
