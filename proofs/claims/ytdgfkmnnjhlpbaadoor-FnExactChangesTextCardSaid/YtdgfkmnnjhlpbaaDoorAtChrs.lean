/-
  Proved: how a list of values of the kind Change lies in memory; plain facts.
-/
import Derived.Test.YtdgfkmnnjhlpbaaDoorAtChr
namespace Go.Proofs.YtdgfkmnnjhlpbaaDoor
open Go.RowKit

def Chr.bulks : List Chr → Nat
  | [] => 0
  | e :: r => 1 + e.bulk + Chr.bulks r
theorem Chr.bulks_take (es : List Chr) : ∀ k (h : k < es.length), Chr.bulks (es.take (k + 1)) = Chr.bulks (es.take k) + (1 + es[k].bulk) := by
  induction es with
  | nil => intro k h; simp at h
  | cons s r ih =>
    intro k h
    cases k with
    | zero => simp [Chr.bulks]
    | succ k =>
      simp only [List.take_succ_cons, Chr.bulks, List.getElem_cons_succ]
      rw [ih k (by simpa using h)]; omega
theorem Chr.bulks_le (es : List Chr) (k : Nat) : Chr.bulks (es.take k) ≤ Chr.bulks es := by
  induction es generalizing k with
  | nil => simp
  | cons s r ih =>
    cases k with
    | zero => simp [Chr.bulks]
    | succ k => simp only [List.take_succ_cons, Chr.bulks]; have := ih k; omega
theorem Chr.bulk_get (es : List Chr) (k : Nat) (h : k < es.length) : 1 + es[k].bulk ≤ Chr.bulks es := by
  have h1 := Chr.bulks_take es k h
  have h2 := Chr.bulks_le es (k + 1)
  omega
theorem Chr.length_le (es : List Chr) : es.length ≤ Chr.bulks es := by
  induction es with
  | nil => simp
  | cons s r ih => simp only [List.length_cons, Chr.bulks]; omega
def ChrsAt (w : World) (d : Nat) (v : Value) (es : List Chr) : Prop :=
  ∃ a cap, v = .slice a es.length cap ∧ es.length ≤ cap ∧ cap ≤ 9223372036854775807 ∧
    ∀ j (h : j < es.length), ∃ b off c0 c1 c2 c3 c4 c5 c6, a = some ⟨b, off, none⟩ ∧ b < w.heap.size ∧ w.cell? ⟨b, off + j * 7, none⟩ = some c0 ∧ w.cell? ⟨b, off + j * 7 + 1, none⟩ = some c1 ∧ w.cell? ⟨b, off + j * 7 + 2, none⟩ = some c2 ∧ w.cell? ⟨b, off + j * 7 + 3, none⟩ = some c3 ∧ w.cell? ⟨b, off + j * 7 + 4, none⟩ = some c4 ∧ w.cell? ⟨b, off + j * 7 + 5, none⟩ = some c5 ∧ w.cell? ⟨b, off + j * 7 + 6, none⟩ = some c6 ∧ ChrAt w d (.agg #[c0, c1, c2, c3, c4, c5, c6]) es[j]
def ChrsIn (w : World) (d : Nat) (v : Value) (es : List Chr) (lo hi : Nat) : Prop :=
  ∃ a cap, v = .slice a es.length cap ∧ es.length ≤ cap ∧ cap ≤ 9223372036854775807 ∧
    ∀ j (h : j < es.length), ∃ b off c0 c1 c2 c3 c4 c5 c6, a = some ⟨b, off, none⟩ ∧ b < w.heap.size ∧ lo ≤ b ∧ b < hi ∧ w.cell? ⟨b, off + j * 7, none⟩ = some c0 ∧ w.cell? ⟨b, off + j * 7 + 1, none⟩ = some c1 ∧ w.cell? ⟨b, off + j * 7 + 2, none⟩ = some c2 ∧ w.cell? ⟨b, off + j * 7 + 3, none⟩ = some c3 ∧ w.cell? ⟨b, off + j * 7 + 4, none⟩ = some c4 ∧ w.cell? ⟨b, off + j * 7 + 5, none⟩ = some c5 ∧ w.cell? ⟨b, off + j * 7 + 6, none⟩ = some c6 ∧ Wi lo hi (ChrIn w d (.agg #[c0, c1, c2, c3, c4, c5, c6]) es[j])
theorem ChrsAt.below {w w' : World} {d : Nat} {v : Value} {es : List Chr} (h : ChrsAt w d v es) (hb : Below w.heap.size w w') : ChrsAt w' d v es := by
  obtain ⟨a, cap, hv, hc, hm, h⟩ := h
  refine ⟨a, cap, hv, hc, hm, fun j hj => ?_⟩
  obtain ⟨b, off, c0, c1, c2, c3, c4, c5, c6, ha, hlt, h0, h1, h2, h3, h4, h5, h6, hr⟩ := h j hj
  have hk : ∀ o, w'.cell? ⟨b, o, none⟩ = w.cell? ⟨b, o, none⟩ := fun o => hb.cell (p := ⟨b, o, none⟩) hlt
  exact ⟨b, off, c0, c1, c2, c3, c4, c5, c6, ha, Nat.lt_of_lt_of_le hlt hb.size, (hk _).trans h0, (hk _).trans h1, (hk _).trans h2, (hk _).trans h3, (hk _).trans h4, (hk _).trans h5, (hk _).trans h6, hr.below hb⟩
theorem ChrsAt.mono {w : World} {d d' : Nat} {v : Value} {es : List Chr} (h : ChrsAt w d v es) (hd : d ≤ d') : ChrsAt w d' v es := by
  obtain ⟨a, cap, hv, hc, hm, h⟩ := h
  refine ⟨a, cap, hv, hc, hm, fun j hj => ?_⟩
  obtain ⟨b, off, c0, c1, c2, c3, c4, c5, c6, ha, hlt, h0, h1, h2, h3, h4, h5, h6, hr⟩ := h j hj
  exact ⟨b, off, c0, c1, c2, c3, c4, c5, c6, ha, hlt, h0, h1, h2, h3, h4, h5, h6, hr.mono hd⟩
theorem chrs_parts {w : World} {d : Nat} {v : Value} {es : List Chr} (h : ChrsAt w d v es) : ∃ a n c, v = .slice a n c := by
  obtain ⟨a, cap, hv, _⟩ := h
  exact ⟨_, _, _, hv⟩
theorem ChrsIn.at_ {w : World} {d : Nat} {v : Value} {es : List Chr} {lo hi : Nat} (h : ChrsIn w d v es lo hi) : ChrsAt w d v es := by
  obtain ⟨a, cap, hv, hc, hm, h⟩ := h
  refine ⟨a, cap, hv, hc, hm, fun j hj => ?_⟩
  obtain ⟨b, off, c0, c1, c2, c3, c4, c5, c6, ha, hlt, hlo, hhi, h0, h1, h2, h3, h4, h5, h6, hr⟩ := h j hj
  exact ⟨b, off, c0, c1, c2, c3, c4, c5, c6, ha, hlt, h0, h1, h2, h3, h4, h5, h6, hr.at_ fun _ _ h => h.at_⟩
theorem ChrsIn.below {w w' : World} {d : Nat} {v : Value} {es : List Chr} {lo hi : Nat} (h : ChrsIn w d v es lo hi) (hb : Below w.heap.size w w') : ChrsIn w' d v es lo hi := by
  obtain ⟨a, cap, hv, hc, hm, h⟩ := h
  refine ⟨a, cap, hv, hc, hm, fun j hj => ?_⟩
  obtain ⟨b, off, c0, c1, c2, c3, c4, c5, c6, ha, hlt, hlo, hhi, h0, h1, h2, h3, h4, h5, h6, hr⟩ := h j hj
  have hk : ∀ o, w'.cell? ⟨b, o, none⟩ = w.cell? ⟨b, o, none⟩ := fun o => hb.cell (p := ⟨b, o, none⟩) hlt
  exact ⟨b, off, c0, c1, c2, c3, c4, c5, c6, ha, Nat.lt_of_lt_of_le hlt hb.size, hlo, hhi, (hk _).trans h0, (hk _).trans h1, (hk _).trans h2, (hk _).trans h3, (hk _).trans h4, (hk _).trans h5, (hk _).trans h6, hr.map fun _ _ _ _ h => h.below hb⟩
theorem ChrsIn.rest {w w' : World} {d : Nat} {v : Value} {es : List Chr} {lo hi lo2 hi2 : Nat} (h : ChrsIn w d v es lo hi) (kp : Rest lo2 hi2 w w') (hd : hi ≤ lo2 ∨ hi2 ≤ lo) : ChrsIn w' d v es lo hi := by
  obtain ⟨a, cap, hv, hc, hm, h⟩ := h
  refine ⟨a, cap, hv, hc, hm, fun j hj => ?_⟩
  obtain ⟨b, off, c0, c1, c2, c3, c4, c5, c6, ha, hlt, hlo, hhi, h0, h1, h2, h3, h4, h5, h6, hr⟩ := h j hj
  have hk : ∀ o, w'.cell? ⟨b, o, none⟩ = w.cell? ⟨b, o, none⟩ := fun o => World.cell?_of_block (a := ⟨b, o, none⟩) (kp.2 b hlt (by omega))
  exact ⟨b, off, c0, c1, c2, c3, c4, c5, c6, ha, Nat.lt_of_lt_of_le hlt kp.1, hlo, hhi, (hk _).trans h0, (hk _).trans h1, (hk _).trans h2, (hk _).trans h3, (hk _).trans h4, (hk _).trans h5, (hk _).trans h6, hr.map fun _ _ _ _ h => h.rest kp (by omega)⟩
end Go.Proofs.YtdgfkmnnjhlpbaaDoor
