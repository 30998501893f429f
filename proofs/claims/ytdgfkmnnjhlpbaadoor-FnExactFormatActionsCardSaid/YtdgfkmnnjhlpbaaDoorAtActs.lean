/-
  Proved: how a list of values of the kind Action lies in memory; plain facts.
-/
import Derived.Test.YtdgfkmnnjhlpbaaDoorActIn
namespace Go.Proofs.YtdgfkmnnjhlpbaaDoor
open Go.RowKit

def Act.bulks : List Act → Nat
  | [] => 0
  | e :: r => 1 + e.bulk + Act.bulks r
theorem Act.bulks_take (es : List Act) : ∀ k (h : k < es.length), Act.bulks (es.take (k + 1)) = Act.bulks (es.take k) + (1 + es[k].bulk) := by
  induction es with
  | nil => intro k h; simp at h
  | cons s r ih =>
    intro k h
    cases k with
    | zero => simp [Act.bulks]
    | succ k =>
      simp only [List.take_succ_cons, Act.bulks, List.getElem_cons_succ]
      rw [ih k (by simpa using h)]; omega
theorem Act.bulks_le (es : List Act) (k : Nat) : Act.bulks (es.take k) ≤ Act.bulks es := by
  induction es generalizing k with
  | nil => simp
  | cons s r ih =>
    cases k with
    | zero => simp [Act.bulks]
    | succ k => simp only [List.take_succ_cons, Act.bulks]; have := ih k; omega
theorem Act.bulk_get (es : List Act) (k : Nat) (h : k < es.length) : 1 + es[k].bulk ≤ Act.bulks es := by
  have h1 := Act.bulks_take es k h
  have h2 := Act.bulks_le es (k + 1)
  omega
theorem Act.length_le (es : List Act) : es.length ≤ Act.bulks es := by
  induction es with
  | nil => simp
  | cons s r ih => simp only [List.length_cons, Act.bulks]; omega
def ActsAt (w : World) (d : Nat) (v : Value) (es : List Act) : Prop :=
  ∃ a cap, v = .slice a es.length cap ∧ es.length ≤ cap ∧ cap ≤ 9223372036854775807 ∧
    ∀ j (h : j < es.length), ∃ b off c0 c1 c2 c3 c4, a = some ⟨b, off, none⟩ ∧ b < w.heap.size ∧ w.cell? ⟨b, off + j * 5, none⟩ = some c0 ∧ w.cell? ⟨b, off + j * 5 + 1, none⟩ = some c1 ∧ w.cell? ⟨b, off + j * 5 + 2, none⟩ = some c2 ∧ w.cell? ⟨b, off + j * 5 + 3, none⟩ = some c3 ∧ w.cell? ⟨b, off + j * 5 + 4, none⟩ = some c4 ∧ ActAt w d (.agg #[c0, c1, c2, c3, c4]) es[j]
def ActsIn (w : World) (d : Nat) (v : Value) (es : List Act) (lo hi : Nat) : Prop :=
  ∃ a cap, v = .slice a es.length cap ∧ es.length ≤ cap ∧ cap ≤ 9223372036854775807 ∧
    ∀ j (h : j < es.length), ∃ b off c0 c1 c2 c3 c4, a = some ⟨b, off, none⟩ ∧ b < w.heap.size ∧ lo ≤ b ∧ b < hi ∧ w.cell? ⟨b, off + j * 5, none⟩ = some c0 ∧ w.cell? ⟨b, off + j * 5 + 1, none⟩ = some c1 ∧ w.cell? ⟨b, off + j * 5 + 2, none⟩ = some c2 ∧ w.cell? ⟨b, off + j * 5 + 3, none⟩ = some c3 ∧ w.cell? ⟨b, off + j * 5 + 4, none⟩ = some c4 ∧ Wi lo hi (ActIn w d (.agg #[c0, c1, c2, c3, c4]) es[j])
theorem ActsAt.below {w w' : World} {d : Nat} {v : Value} {es : List Act} (h : ActsAt w d v es) (hb : Below w.heap.size w w') : ActsAt w' d v es := by
  obtain ⟨a, cap, hv, hc, hm, h⟩ := h
  refine ⟨a, cap, hv, hc, hm, fun j hj => ?_⟩
  obtain ⟨b, off, c0, c1, c2, c3, c4, ha, hlt, h0, h1, h2, h3, h4, hr⟩ := h j hj
  have hk : ∀ o, w'.cell? ⟨b, o, none⟩ = w.cell? ⟨b, o, none⟩ := fun o => hb.cell (p := ⟨b, o, none⟩) hlt
  exact ⟨b, off, c0, c1, c2, c3, c4, ha, Nat.lt_of_lt_of_le hlt hb.size, (hk _).trans h0, (hk _).trans h1, (hk _).trans h2, (hk _).trans h3, (hk _).trans h4, hr.below hb⟩
theorem ActsAt.mono {w : World} {d d' : Nat} {v : Value} {es : List Act} (h : ActsAt w d v es) (hd : d ≤ d') : ActsAt w d' v es := by
  obtain ⟨a, cap, hv, hc, hm, h⟩ := h
  refine ⟨a, cap, hv, hc, hm, fun j hj => ?_⟩
  obtain ⟨b, off, c0, c1, c2, c3, c4, ha, hlt, h0, h1, h2, h3, h4, hr⟩ := h j hj
  exact ⟨b, off, c0, c1, c2, c3, c4, ha, hlt, h0, h1, h2, h3, h4, hr.mono hd⟩
theorem acts_parts {w : World} {d : Nat} {v : Value} {es : List Act} (h : ActsAt w d v es) : ∃ a n c, v = .slice a n c := by
  obtain ⟨a, cap, hv, _⟩ := h
  exact ⟨_, _, _, hv⟩
theorem ActsIn.at_ {w : World} {d : Nat} {v : Value} {es : List Act} {lo hi : Nat} (h : ActsIn w d v es lo hi) : ActsAt w d v es := by
  obtain ⟨a, cap, hv, hc, hm, h⟩ := h
  refine ⟨a, cap, hv, hc, hm, fun j hj => ?_⟩
  obtain ⟨b, off, c0, c1, c2, c3, c4, ha, hlt, hlo, hhi, h0, h1, h2, h3, h4, hr⟩ := h j hj
  exact ⟨b, off, c0, c1, c2, c3, c4, ha, hlt, h0, h1, h2, h3, h4, hr.at_ fun _ _ h => h.at_⟩
theorem ActsIn.below {w w' : World} {d : Nat} {v : Value} {es : List Act} {lo hi : Nat} (h : ActsIn w d v es lo hi) (hb : Below w.heap.size w w') : ActsIn w' d v es lo hi := by
  obtain ⟨a, cap, hv, hc, hm, h⟩ := h
  refine ⟨a, cap, hv, hc, hm, fun j hj => ?_⟩
  obtain ⟨b, off, c0, c1, c2, c3, c4, ha, hlt, hlo, hhi, h0, h1, h2, h3, h4, hr⟩ := h j hj
  have hk : ∀ o, w'.cell? ⟨b, o, none⟩ = w.cell? ⟨b, o, none⟩ := fun o => hb.cell (p := ⟨b, o, none⟩) hlt
  exact ⟨b, off, c0, c1, c2, c3, c4, ha, Nat.lt_of_lt_of_le hlt hb.size, hlo, hhi, (hk _).trans h0, (hk _).trans h1, (hk _).trans h2, (hk _).trans h3, (hk _).trans h4, hr.map fun _ _ _ _ h => h.below hb⟩
theorem ActsIn.rest {w w' : World} {d : Nat} {v : Value} {es : List Act} {lo hi lo2 hi2 : Nat} (h : ActsIn w d v es lo hi) (kp : Rest lo2 hi2 w w') (hd : hi ≤ lo2 ∨ hi2 ≤ lo) : ActsIn w' d v es lo hi := by
  obtain ⟨a, cap, hv, hc, hm, h⟩ := h
  refine ⟨a, cap, hv, hc, hm, fun j hj => ?_⟩
  obtain ⟨b, off, c0, c1, c2, c3, c4, ha, hlt, hlo, hhi, h0, h1, h2, h3, h4, hr⟩ := h j hj
  have hk : ∀ o, w'.cell? ⟨b, o, none⟩ = w.cell? ⟨b, o, none⟩ := fun o => World.cell?_of_block (a := ⟨b, o, none⟩) (kp.2 b hlt (by omega))
  exact ⟨b, off, c0, c1, c2, c3, c4, ha, Nat.lt_of_lt_of_le hlt kp.1, hlo, hhi, (hk _).trans h0, (hk _).trans h1, (hk _).trans h2, (hk _).trans h3, (hk _).trans h4, hr.map fun _ _ _ _ h => h.rest kp (by omega)⟩
end Go.Proofs.YtdgfkmnnjhlpbaaDoor
