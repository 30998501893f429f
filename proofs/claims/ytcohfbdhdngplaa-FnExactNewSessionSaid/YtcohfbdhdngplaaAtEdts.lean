/-
  Proved: how a list of values of the kind Edit lies in memory; plain facts.
-/
import Derived.Test.YtcohfbdhdngplaaAtEdt
namespace Go.Proofs.Ytcohfbdhdngplaa
open Go.RowKit

def Edt.bulks : List Edt → Nat
  | [] => 0
  | e :: r => 1 + e.bulk + Edt.bulks r
theorem Edt.bulks_take (es : List Edt) : ∀ k (h : k < es.length), Edt.bulks (es.take (k + 1)) = Edt.bulks (es.take k) + (1 + es[k].bulk) := by
  induction es with
  | nil => intro k h; simp at h
  | cons s r ih =>
    intro k h
    cases k with
    | zero => simp [Edt.bulks]
    | succ k =>
      simp only [List.take_succ_cons, Edt.bulks, List.getElem_cons_succ]
      rw [ih k (by simpa using h)]; omega
theorem Edt.bulks_le (es : List Edt) (k : Nat) : Edt.bulks (es.take k) ≤ Edt.bulks es := by
  induction es generalizing k with
  | nil => simp
  | cons s r ih =>
    cases k with
    | zero => simp [Edt.bulks]
    | succ k => simp only [List.take_succ_cons, Edt.bulks]; have := ih k; omega
theorem Edt.bulk_get (es : List Edt) (k : Nat) (h : k < es.length) : 1 + es[k].bulk ≤ Edt.bulks es := by
  have h1 := Edt.bulks_take es k h
  have h2 := Edt.bulks_le es (k + 1)
  omega
theorem Edt.length_le (es : List Edt) : es.length ≤ Edt.bulks es := by
  induction es with
  | nil => simp
  | cons s r ih => simp only [List.length_cons, Edt.bulks]; omega
def EdtsAt (w : World) (d : Nat) (v : Value) (es : List Edt) : Prop :=
  ∃ a cap, v = .slice a es.length cap ∧ es.length ≤ cap ∧ cap ≤ 9223372036854775807 ∧
    ∀ j (h : j < es.length), ∃ b off c0 c1 c2 c3 c4 c5 c6, a = some ⟨b, off, none⟩ ∧ b < w.heap.size ∧ w.cell? ⟨b, off + j * 7, none⟩ = some c0 ∧ w.cell? ⟨b, off + j * 7 + 1, none⟩ = some c1 ∧ w.cell? ⟨b, off + j * 7 + 2, none⟩ = some c2 ∧ w.cell? ⟨b, off + j * 7 + 3, none⟩ = some c3 ∧ w.cell? ⟨b, off + j * 7 + 4, none⟩ = some c4 ∧ w.cell? ⟨b, off + j * 7 + 5, none⟩ = some c5 ∧ w.cell? ⟨b, off + j * 7 + 6, none⟩ = some c6 ∧ EdtAt w d (.agg #[c0, c1, c2, c3, c4, c5, c6]) es[j]
def EdtsIn (w : World) (d : Nat) (v : Value) (es : List Edt) (lo hi : Nat) : Prop :=
  ∃ a cap, v = .slice a es.length cap ∧ es.length ≤ cap ∧ cap ≤ 9223372036854775807 ∧
    ∀ j (h : j < es.length), ∃ b off c0 c1 c2 c3 c4 c5 c6, a = some ⟨b, off, none⟩ ∧ b < w.heap.size ∧ lo ≤ b ∧ b < hi ∧ w.cell? ⟨b, off + j * 7, none⟩ = some c0 ∧ w.cell? ⟨b, off + j * 7 + 1, none⟩ = some c1 ∧ w.cell? ⟨b, off + j * 7 + 2, none⟩ = some c2 ∧ w.cell? ⟨b, off + j * 7 + 3, none⟩ = some c3 ∧ w.cell? ⟨b, off + j * 7 + 4, none⟩ = some c4 ∧ w.cell? ⟨b, off + j * 7 + 5, none⟩ = some c5 ∧ w.cell? ⟨b, off + j * 7 + 6, none⟩ = some c6 ∧ Wi lo hi (EdtIn w d (.agg #[c0, c1, c2, c3, c4, c5, c6]) es[j])
theorem EdtsAt.below {w w' : World} {d : Nat} {v : Value} {es : List Edt} (h : EdtsAt w d v es) (hb : Below w.heap.size w w') : EdtsAt w' d v es := by
  obtain ⟨a, cap, hv, hc, hm, h⟩ := h
  refine ⟨a, cap, hv, hc, hm, fun j hj => ?_⟩
  obtain ⟨b, off, c0, c1, c2, c3, c4, c5, c6, ha, hlt, h0, h1, h2, h3, h4, h5, h6, hr⟩ := h j hj
  have hk : ∀ o, w'.cell? ⟨b, o, none⟩ = w.cell? ⟨b, o, none⟩ := fun o => hb.cell (p := ⟨b, o, none⟩) hlt
  exact ⟨b, off, c0, c1, c2, c3, c4, c5, c6, ha, Nat.lt_of_lt_of_le hlt hb.size, (hk _).trans h0, (hk _).trans h1, (hk _).trans h2, (hk _).trans h3, (hk _).trans h4, (hk _).trans h5, (hk _).trans h6, hr.below hb⟩
theorem EdtsAt.mono {w : World} {d d' : Nat} {v : Value} {es : List Edt} (h : EdtsAt w d v es) (hd : d ≤ d') : EdtsAt w d' v es := by
  obtain ⟨a, cap, hv, hc, hm, h⟩ := h
  refine ⟨a, cap, hv, hc, hm, fun j hj => ?_⟩
  obtain ⟨b, off, c0, c1, c2, c3, c4, c5, c6, ha, hlt, h0, h1, h2, h3, h4, h5, h6, hr⟩ := h j hj
  exact ⟨b, off, c0, c1, c2, c3, c4, c5, c6, ha, hlt, h0, h1, h2, h3, h4, h5, h6, hr.mono hd⟩
theorem edts_parts {w : World} {d : Nat} {v : Value} {es : List Edt} (h : EdtsAt w d v es) : ∃ a n c, v = .slice a n c := by
  obtain ⟨a, cap, hv, _⟩ := h
  exact ⟨_, _, _, hv⟩
theorem EdtsIn.at_ {w : World} {d : Nat} {v : Value} {es : List Edt} {lo hi : Nat} (h : EdtsIn w d v es lo hi) : EdtsAt w d v es := by
  obtain ⟨a, cap, hv, hc, hm, h⟩ := h
  refine ⟨a, cap, hv, hc, hm, fun j hj => ?_⟩
  obtain ⟨b, off, c0, c1, c2, c3, c4, c5, c6, ha, hlt, hlo, hhi, h0, h1, h2, h3, h4, h5, h6, hr⟩ := h j hj
  exact ⟨b, off, c0, c1, c2, c3, c4, c5, c6, ha, hlt, h0, h1, h2, h3, h4, h5, h6, hr.at_ fun _ _ h => h.at_⟩
theorem EdtsIn.below {w w' : World} {d : Nat} {v : Value} {es : List Edt} {lo hi : Nat} (h : EdtsIn w d v es lo hi) (hb : Below w.heap.size w w') : EdtsIn w' d v es lo hi := by
  obtain ⟨a, cap, hv, hc, hm, h⟩ := h
  refine ⟨a, cap, hv, hc, hm, fun j hj => ?_⟩
  obtain ⟨b, off, c0, c1, c2, c3, c4, c5, c6, ha, hlt, hlo, hhi, h0, h1, h2, h3, h4, h5, h6, hr⟩ := h j hj
  have hk : ∀ o, w'.cell? ⟨b, o, none⟩ = w.cell? ⟨b, o, none⟩ := fun o => hb.cell (p := ⟨b, o, none⟩) hlt
  exact ⟨b, off, c0, c1, c2, c3, c4, c5, c6, ha, Nat.lt_of_lt_of_le hlt hb.size, hlo, hhi, (hk _).trans h0, (hk _).trans h1, (hk _).trans h2, (hk _).trans h3, (hk _).trans h4, (hk _).trans h5, (hk _).trans h6, hr.map fun _ _ _ _ h => h.below hb⟩
theorem EdtsIn.rest {w w' : World} {d : Nat} {v : Value} {es : List Edt} {lo hi lo2 hi2 : Nat} (h : EdtsIn w d v es lo hi) (kp : Rest lo2 hi2 w w') (hd : hi ≤ lo2 ∨ hi2 ≤ lo) : EdtsIn w' d v es lo hi := by
  obtain ⟨a, cap, hv, hc, hm, h⟩ := h
  refine ⟨a, cap, hv, hc, hm, fun j hj => ?_⟩
  obtain ⟨b, off, c0, c1, c2, c3, c4, c5, c6, ha, hlt, hlo, hhi, h0, h1, h2, h3, h4, h5, h6, hr⟩ := h j hj
  have hk : ∀ o, w'.cell? ⟨b, o, none⟩ = w.cell? ⟨b, o, none⟩ := fun o => World.cell?_of_block (a := ⟨b, o, none⟩) (kp.2 b hlt (by omega))
  exact ⟨b, off, c0, c1, c2, c3, c4, c5, c6, ha, Nat.lt_of_lt_of_le hlt kp.1, hlo, hhi, (hk _).trans h0, (hk _).trans h1, (hk _).trans h2, (hk _).trans h3, (hk _).trans h4, (hk _).trans h5, (hk _).trans h6, hr.map fun _ _ _ _ h => h.rest kp (by omega)⟩
end Go.Proofs.Ytcohfbdhdngplaa
