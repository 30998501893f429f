/-
  Proved: plain facts on the numbering of core expressions, and what stores into a row of a call's own leave.
-/
import Derived.Test.YtefoenkmppeidaaCoTree
import Derived.Test.YtefoenkmppeidaaHeldType
import Derived.Test.YtefoenkmppeidaaMarkText
namespace Go.Proofs.Ytefoenkmppeidaa
open Go.RowKit

mutual
/-- How many numbers marking takes below the root. -/
def Co.wt : Co → Nat
  | .node _ _ _ fr ty es _ vs => (fr.size - 1) + (ty.size - 1) + Co.wts es + Co.wtb vs
def Co.wts : List Co → Nat
  | [] => 0
  | e :: r => 5 + e.wt + Co.wts r
def Co.wtb : List Co → Nat
  | [] => 0
  | e :: r => 6 + e.wt + Co.wtb r
end
/-- The names that marking an environment leaves. -/
def bnames : List Co → Int → List ByteArray
  | [], _ => []
  | e :: r, k => mt k.natAbs :: bnames r (k + 6 + (e.wt : Int))
mutual
/-- The core expression with its fields numbered from k on, the root first. -/
def Co.mark : Co → Int → Co
  | .node _ _ _ fr ty es _ vs, k => .node k (mt (k + 1).natAbs) (k + 2) (fr.mark (k + 3)) (ty.mark (k + 4 + ((fr.size - 1 : Nat) : Int))) (Co.marks es (k + 5 + ((fr.size - 1 : Nat) : Int) + ((ty.size - 1 : Nat) : Int)))
      (bnames vs (k + 5 + ((fr.size - 1 : Nat) : Int) + ((ty.size - 1 : Nat) : Int) + (Co.wts es : Int))) (Co.bmarks vs (k + 5 + ((fr.size - 1 : Nat) : Int) + ((ty.size - 1 : Nat) : Int) + (Co.wts es : Int)))
def Co.marks : List Co → Int → List Co
  | [], _ => []
  | e :: r, k => e.mark k :: Co.marks r (k + 5 + (e.wt : Int))
def Co.bmarks : List Co → Int → List Co
  | [], _ => []
  | e :: r, k => e.mark (k + 1) :: Co.bmarks r (k + 6 + (e.wt : Int))
end
theorem Co.wts_take (es : List Co) : ∀ k (h : k < es.length), Co.wts (es.take (k + 1)) = Co.wts (es.take k) + (5 + es[k].wt) := by
  induction es with
  | nil => intro k h; simp at h
  | cons s r ih =>
    intro k h
    cases k with
    | zero => simp [Co.wts]
    | succ k =>
      simp only [List.take_succ_cons, Co.wts, List.getElem_cons_succ]
      rw [ih k (by simpa using h)]; omega
theorem Co.wts_le (es : List Co) (k : Nat) : Co.wts (es.take k) ≤ Co.wts es := by
  induction es generalizing k with
  | nil => simp
  | cons s r ih =>
    cases k with
    | zero => simp [Co.wts]
    | succ k => simp only [List.take_succ_cons, Co.wts]; have := ih k; omega
theorem Co.wtb_take (es : List Co) : ∀ k (h : k < es.length), Co.wtb (es.take (k + 1)) = Co.wtb (es.take k) + (6 + es[k].wt) := by
  induction es with
  | nil => intro k h; simp at h
  | cons s r ih =>
    intro k h
    cases k with
    | zero => simp [Co.wtb]
    | succ k =>
      simp only [List.take_succ_cons, Co.wtb, List.getElem_cons_succ]
      rw [ih k (by simpa using h)]; omega
theorem Co.wtb_le (es : List Co) (k : Nat) : Co.wtb (es.take k) ≤ Co.wtb es := by
  induction es generalizing k with
  | nil => simp
  | cons s r ih =>
    cases k with
    | zero => simp [Co.wtb]
    | succ k => simp only [List.take_succ_cons, Co.wtb]; have := ih k; omega
mutual
theorem Co.wt_le : ∀ e : Co, e.wt ≤ 6 * e.bulk
  | .node k nm n fr ty es ns vs => by have := Co.wts_le6 es; have := Co.wtb_le6 vs; simp only [Co.wt, Co.bulk]; omega
theorem Co.wts_le6 : ∀ es : List Co, Co.wts es ≤ 6 * Co.bulks es
  | [] => Nat.le_refl _
  | e :: r => by have := Co.wt_le e; have := Co.wts_le6 r; simp only [Co.wts, Co.bulks]; omega
theorem Co.wtb_le6 : ∀ es : List Co, Co.wtb es ≤ 6 * Co.bulks es
  | [] => Nat.le_refl _
  | e :: r => by have := Co.wt_le e; have := Co.wtb_le6 r; simp only [Co.wtb, Co.bulks]; omega
end
theorem Co.marks_length : ∀ (es : List Co) (k : Int), (Co.marks es k).length = es.length
  | [], _ => rfl
  | t :: r, k => by simp [Co.marks, Co.marks_length r]
theorem Co.bmarks_length : ∀ (es : List Co) (k : Int), (Co.bmarks es k).length = es.length
  | [], _ => rfl
  | t :: r, k => by simp [Co.bmarks, Co.bmarks_length r]
theorem bnames_length : ∀ (es : List Co) (k : Int), (bnames es k).length = es.length
  | [], _ => rfl
  | t :: r, k => by simp [bnames, bnames_length r]
theorem Co.marks_get : ∀ (es : List Co) (k : Int) (j : Nat) (h : j < es.length) (h' : j < (Co.marks es k).length), (Co.marks es k)[j] = es[j].mark (k + Co.wts (es.take j))
  | t :: r, k, 0, _, _ => by simp [Co.marks, Co.wts]
  | t :: r, k, j + 1, h, h' => by
    simp only [Co.marks, List.getElem_cons_succ, List.take_succ_cons, Co.wts]
    rw [Co.marks_get r (k + 5 + t.wt) j (by simpa using h)]
    congr 1; omega
theorem Co.bmarks_get : ∀ (es : List Co) (k : Int) (j : Nat) (h : j < es.length) (h' : j < (Co.bmarks es k).length), (Co.bmarks es k)[j] = es[j].mark (k + Co.wtb (es.take j) + 1)
  | t :: r, k, 0, _, _ => by simp [Co.bmarks, Co.wtb]
  | t :: r, k, j + 1, h, h' => by
    simp only [Co.bmarks, List.getElem_cons_succ, List.take_succ_cons, Co.wtb]
    rw [Co.bmarks_get r (k + 6 + t.wt) j (by simpa using h)]
    congr 1; omega
theorem bnames_get : ∀ (es : List Co) (k : Int) (j : Nat) (_h : j < es.length) (h' : j < (bnames es k).length), (bnames es k)[j] = mt (k + Co.wtb (es.take j)).natAbs
  | t :: r, k, 0, _, _ => by simp [bnames, Co.wtb]
  | t :: r, k, j + 1, h, h' => by
    simp only [bnames, List.getElem_cons_succ, List.take_succ_cons, Co.wtb]
    rw [bnames_get r (k + 6 + t.wt) j (by simpa using h)]
    congr 2; omega
theorem coMt_size (n : Nat) (h : n ≤ 1099511627777) : (mt n).size ≤ 9223372036854775807 := by
  have := Num.dd_len_le 13 n (by omega)
  show (109 :: Num.dd n).toArray.size ≤ _
  simp; omega
/-- What is known while the cells p, .., p + n - 1 of block g are written: all else that was there stays, but for the blocks done. -/
structure Trk (w0 w : World) (B g p n : Nat) (done : List Nat) (c : Nat → Value) : Prop where
  cell : ∀ i, i < n → w.cell? ⟨g, p + i, none⟩ = some (c i)
  rest : ∀ o, o < p ∨ p + n ≤ o → w.cell? ⟨g, o, none⟩ = w0.cell? ⟨g, o, none⟩
  froz : ∀ o, w.frozen? ⟨g, o, none⟩ = w0.frozen? ⟨g, o, none⟩
  away : ∀ b, b ≠ g → b ∉ done → b < w0.heap.size → w.heap[b]? = w0.heap[b]?
  low : Below B w0 w
  home : g < w0.heap.size
  high : B ≤ g
theorem Trk.size {w0 w : World} {B g p n : Nat} {done : List Nat} {c : Nat → Value} (h : Trk w0 w B g p n done c) : w0.heap.size ≤ w.heap.size := h.low.size
theorem Trk.store {w0 w : World} {B g p n : Nat} {done : List Nat} {c : Nat → Value} (h : Trk w0 w B g p n done c) (i : Nat) (hi : i < n) (v : Value) : Trk w0 (w.setCell ⟨g, p + i, none⟩ v) B g p n done (fun x => if x = i then v else c x) := by
  refine ⟨fun x hx => ?_, fun o ho => ?_, fun o => ?_, fun b b1 b2 b3 => ?_, h.low.setCell h.high _, h.home, h.high⟩
  · by_cases e : x = i
    · subst e
      rw [if_pos rfl]
      exact World.cell?_setCell_same _ _ _ (h.cell x hx)
    · rw [if_neg e, World.cell?_setCell_other _ _ _ _ (by first | (simp; omega) | simp)]
      exact h.cell x hx
  · rw [World.cell?_setCell_other _ _ _ _ (by first | (simp; omega) | simp)]
    exact h.rest o ho
  · rw [World.frozen?_setCell]; exact h.froz o
  · rw [heap_setCell_other _ _ _ _ b1]; exact h.away b b1 b2 b3
theorem Trk.call {w0 w w' : World} {B g p n : Nat} {done : List Nat} {c : Nat → Value} (h : Trk w0 w B g p n done c) (f : List Nat) (hb : Below B w w') (hout : ∀ b, b < w.heap.size → b ∉ f → w'.heap[b]? = w.heap[b]?) (hg : g ∉ f) : Trk w0 w' B g p n (done ++ f) c := by
  have hgw : g < w.heap.size := Nat.lt_of_lt_of_le h.home h.size
  have hgb := hout g hgw hg
  refine ⟨fun x hx => (World.cell?_of_block (a := ⟨g, p + x, none⟩) hgb).trans (h.cell x hx), fun o ho => (World.cell?_of_block (a := ⟨g, o, none⟩) hgb).trans (h.rest o ho), fun o => (World.frozen?_of_block (a := ⟨g, o, none⟩) hgb).trans (h.froz o), fun b b1 b2 b3 => ?_, h.low.trans hb, h.home, h.high⟩
  rw [hout b (Nat.lt_of_lt_of_le b3 h.size) (fun e => b2 (List.mem_append_right _ e))]
  exact h.away b b1 (fun e => b2 (List.mem_append_left _ e)) b3
theorem Trk.quiet {w0 w w' : World} {B g p n : Nat} {done : List Nat} {c : Nat → Value} (h : Trk w0 w B g p n done c) (hb : Below w.heap.size w w') : Trk w0 w' B g p n done c := by
  have h1 := h.call [] (hb.mono (Nat.le_trans h.high (Nat.le_of_lt (Nat.lt_of_lt_of_le h.home h.size)))) (fun b b1 _ => hb.block b b1) (by simp)
  rwa [List.append_nil] at h1
theorem Trk.start {w : World} {B g p n : Nat} {c : Nat → Value} (hc : ∀ i, i < n → w.cell? ⟨g, p + i, none⟩ = some (c i)) (hg : g < w.heap.size) (hB : B ≤ g) : Trk w w B g p n [] c :=
  ⟨hc, fun _ _ => rfl, fun _ => rfl, fun _ _ _ _ => rfl, Below.refl _ _, hg, hB⟩
theorem CoOwn.lt {w : World} : ∀ {d : Nat} {v : Value} {t : Co} {fp : List Nat}, CoOwn w d v t fp → ∀ b, b ∈ fp → b < w.heap.size
  | 0, _, _, _, h => h.elim
  | d + 1, v, .node k nm n fr ty es ns vs, fp, h => by
    obtain ⟨c3, c4, c5, c6, sl, el, f1, f2, f3, f4, hv, h0, h1, h2, h3, h4, hfp, hfr, hty, ⟨a, cap, hd, fps, hs, hc, hm, hl, hf, hlt, h⟩, hle, a', cap', hd', fps', hs', hc', hm', hl', hf', hlt', h'⟩ := h
    intro b hb
    rw [hfp] at hb
    rcases List.mem_append.1 hb with hb | hb
    · exact hfr.lt b hb
    rcases List.mem_append.1 hb with hb | hb
    · exact hty.lt b hb
    rcases List.mem_append.1 hb with hb | hb
    · rw [hf] at hb
      rcases List.mem_append.1 hb with hb | hb
      · exact hlt b hb
      · obtain ⟨f, hf1, hf2⟩ := List.mem_flatten.1 hb
        obtain ⟨j, hj, rfl⟩ := List.getElem_of_mem hf1
        obtain ⟨g, off, c0, c1, c2, c3, c4, c5, c6, c7, c8, f, _, _, _, _, _, _, _, _, _, _, _, _, _, hfj, hr⟩ := h j (by omega)
        rw [List.getElem?_eq_getElem hj] at hfj
        cases hfj
        exact hr.lt b hf2
    · rw [hf'] at hb
      rcases List.mem_append.1 hb with hb | hb
      · exact hlt' b hb
      · obtain ⟨f, hf1, hf2⟩ := List.mem_flatten.1 hb
        obtain ⟨j, hj, rfl⟩ := List.getElem_of_mem hf1
        obtain ⟨g, off, c0, c1, c2, c3, c4, c5, c6, c7, c8, f, _, _, _, _, _, _, _, _, _, _, _, _, _, _, _, hfj, hr⟩ := h' j (by omega) (by omega)
        rw [List.getElem?_eq_getElem hj] at hfj
        cases hfj
        exact hr.lt b hf2
theorem coTys_lt {w : World} {d : Nat} {v : Value} {ts : List Ty} {fp : List Nat} (h : TysOwn w d v ts fp) : ∀ b, b ∈ fp → b < w.heap.size :=
  TyOwn.lt (d := d + 1) (v := .agg #[.int .i64 0, v]) (t := .node 0 ts) ⟨v, rfl, by omega, by omega, h⟩
theorem CosOwn.lt {w : World} {d : Nat} {v : Value} {es : List Co} {fp : List Nat} (h : CosOwn w d v es fp) : ∀ b, b ∈ fp → b < w.heap.size := by
  obtain ⟨a, cap, hd, fps, hs, hc, hm, hl, hf, hlt, h⟩ := h
  intro b hb
  rw [hf] at hb
  rcases List.mem_append.1 hb with hb | hb
  · exact hlt b hb
  · obtain ⟨f, hf1, hf2⟩ := List.mem_flatten.1 hb
    obtain ⟨j, hj, rfl⟩ := List.getElem_of_mem hf1
    obtain ⟨g, off, c0, c1, c2, c3, c4, c5, c6, c7, c8, f, _, _, _, _, _, _, _, _, _, _, _, _, _, hfj, hr⟩ := h j (by omega)
    rw [List.getElem?_eq_getElem hj] at hfj
    cases hfj
    exact CoOwn.lt hr b hf2
theorem CbsOwn.lt {w : World} {d : Nat} {v : Value} {ns : List ByteArray} {es : List Co} {fp : List Nat} (h : CbsOwn w d v ns es fp) : ∀ b, b ∈ fp → b < w.heap.size := by
  obtain ⟨hle, a, cap, hd, fps, hs, hc, hm, hl, hf, hlt, h⟩ := h
  intro b hb
  rw [hf] at hb
  rcases List.mem_append.1 hb with hb | hb
  · exact hlt b hb
  · obtain ⟨f, hf1, hf2⟩ := List.mem_flatten.1 hb
    obtain ⟨j, hj, rfl⟩ := List.getElem_of_mem hf1
    obtain ⟨g, off, c0, c1, c2, c3, c4, c5, c6, c7, c8, f, _, _, _, _, _, _, _, _, _, _, _, _, _, _, _, hfj, hr⟩ := h j (by omega) (by omega)
    rw [List.getElem?_eq_getElem hj] at hfj
    cases hfj
    exact CoOwn.lt hr b hf2
end Go.Proofs.Ytefoenkmppeidaa
