/-
  Proved: how a list of values of the kind Test lies in memory; plain facts.
-/
import Derived.Test.YtmmnjdhmankieaaAtTst
namespace Go.Proofs.Ytmmnjdhmankieaa
open Go.RowKit

def Tst.bulks : List Tst → Nat
  | [] => 0
  | e :: r => 1 + e.bulk + Tst.bulks r
theorem Tst.bulks_take (es : List Tst) : ∀ k (h : k < es.length), Tst.bulks (es.take (k + 1)) = Tst.bulks (es.take k) + (1 + es[k].bulk) := by
  induction es with
  | nil => intro k h; simp at h
  | cons s r ih =>
    intro k h
    cases k with
    | zero => simp [Tst.bulks]
    | succ k =>
      simp only [List.take_succ_cons, Tst.bulks, List.getElem_cons_succ]
      rw [ih k (by simpa using h)]; omega
theorem Tst.bulks_le (es : List Tst) (k : Nat) : Tst.bulks (es.take k) ≤ Tst.bulks es := by
  induction es generalizing k with
  | nil => simp
  | cons s r ih =>
    cases k with
    | zero => simp [Tst.bulks]
    | succ k => simp only [List.take_succ_cons, Tst.bulks]; have := ih k; omega
theorem Tst.bulk_get (es : List Tst) (k : Nat) (h : k < es.length) : 1 + es[k].bulk ≤ Tst.bulks es := by
  have h1 := Tst.bulks_take es k h
  have h2 := Tst.bulks_le es (k + 1)
  omega
theorem Tst.length_le (es : List Tst) : es.length ≤ Tst.bulks es := by
  induction es with
  | nil => simp
  | cons s r ih => simp only [List.length_cons, Tst.bulks]; omega
def TstsAt (w : World) (d : Nat) (v : Value) (es : List Tst) : Prop :=
  ∃ a cap, v = .slice a es.length cap ∧ es.length ≤ cap ∧ cap ≤ 9223372036854775807 ∧
    ∀ j (h : j < es.length), ∃ b off c0 c1 c2 c3 c4 c5 c6 c7 c8 c9 c10 c11, a = some ⟨b, off, none⟩ ∧ b < w.heap.size ∧ w.cell? ⟨b, off + j * 12, none⟩ = some c0 ∧ w.cell? ⟨b, off + j * 12 + 1, none⟩ = some c1 ∧ w.cell? ⟨b, off + j * 12 + 2, none⟩ = some c2 ∧ w.cell? ⟨b, off + j * 12 + 3, none⟩ = some c3 ∧ w.cell? ⟨b, off + j * 12 + 4, none⟩ = some c4 ∧ w.cell? ⟨b, off + j * 12 + 5, none⟩ = some c5 ∧ w.cell? ⟨b, off + j * 12 + 6, none⟩ = some c6 ∧ w.cell? ⟨b, off + j * 12 + 7, none⟩ = some c7 ∧ w.cell? ⟨b, off + j * 12 + 8, none⟩ = some c8 ∧ w.cell? ⟨b, off + j * 12 + 9, none⟩ = some c9 ∧ w.cell? ⟨b, off + j * 12 + 10, none⟩ = some c10 ∧ w.cell? ⟨b, off + j * 12 + 11, none⟩ = some c11 ∧ TstAt w d (.agg #[c0, c1, c2, c3, c4, c5, c6, c7, c8, c9, c10, c11]) es[j]
def TstsIn (w : World) (d : Nat) (v : Value) (es : List Tst) (lo hi : Nat) : Prop :=
  ∃ a cap, v = .slice a es.length cap ∧ es.length ≤ cap ∧ cap ≤ 9223372036854775807 ∧
    ∀ j (h : j < es.length), ∃ b off c0 c1 c2 c3 c4 c5 c6 c7 c8 c9 c10 c11, a = some ⟨b, off, none⟩ ∧ b < w.heap.size ∧ lo ≤ b ∧ b < hi ∧ w.cell? ⟨b, off + j * 12, none⟩ = some c0 ∧ w.cell? ⟨b, off + j * 12 + 1, none⟩ = some c1 ∧ w.cell? ⟨b, off + j * 12 + 2, none⟩ = some c2 ∧ w.cell? ⟨b, off + j * 12 + 3, none⟩ = some c3 ∧ w.cell? ⟨b, off + j * 12 + 4, none⟩ = some c4 ∧ w.cell? ⟨b, off + j * 12 + 5, none⟩ = some c5 ∧ w.cell? ⟨b, off + j * 12 + 6, none⟩ = some c6 ∧ w.cell? ⟨b, off + j * 12 + 7, none⟩ = some c7 ∧ w.cell? ⟨b, off + j * 12 + 8, none⟩ = some c8 ∧ w.cell? ⟨b, off + j * 12 + 9, none⟩ = some c9 ∧ w.cell? ⟨b, off + j * 12 + 10, none⟩ = some c10 ∧ w.cell? ⟨b, off + j * 12 + 11, none⟩ = some c11 ∧ Wi lo hi (TstIn w d (.agg #[c0, c1, c2, c3, c4, c5, c6, c7, c8, c9, c10, c11]) es[j])
theorem TstsAt.below {w w' : World} {d : Nat} {v : Value} {es : List Tst} (h : TstsAt w d v es) (hb : Below w.heap.size w w') : TstsAt w' d v es := by
  obtain ⟨a, cap, hv, hc, hm, h⟩ := h
  refine ⟨a, cap, hv, hc, hm, fun j hj => ?_⟩
  obtain ⟨b, off, c0, c1, c2, c3, c4, c5, c6, c7, c8, c9, c10, c11, ha, hlt, h0, h1, h2, h3, h4, h5, h6, h7, h8, h9, h10, h11, hr⟩ := h j hj
  have hk : ∀ o, w'.cell? ⟨b, o, none⟩ = w.cell? ⟨b, o, none⟩ := fun o => hb.cell (p := ⟨b, o, none⟩) hlt
  exact ⟨b, off, c0, c1, c2, c3, c4, c5, c6, c7, c8, c9, c10, c11, ha, Nat.lt_of_lt_of_le hlt hb.size, (hk _).trans h0, (hk _).trans h1, (hk _).trans h2, (hk _).trans h3, (hk _).trans h4, (hk _).trans h5, (hk _).trans h6, (hk _).trans h7, (hk _).trans h8, (hk _).trans h9, (hk _).trans h10, (hk _).trans h11, hr.below hb⟩
theorem TstsAt.mono {w : World} {d d' : Nat} {v : Value} {es : List Tst} (h : TstsAt w d v es) (hd : d ≤ d') : TstsAt w d' v es := by
  obtain ⟨a, cap, hv, hc, hm, h⟩ := h
  refine ⟨a, cap, hv, hc, hm, fun j hj => ?_⟩
  obtain ⟨b, off, c0, c1, c2, c3, c4, c5, c6, c7, c8, c9, c10, c11, ha, hlt, h0, h1, h2, h3, h4, h5, h6, h7, h8, h9, h10, h11, hr⟩ := h j hj
  exact ⟨b, off, c0, c1, c2, c3, c4, c5, c6, c7, c8, c9, c10, c11, ha, hlt, h0, h1, h2, h3, h4, h5, h6, h7, h8, h9, h10, h11, hr.mono hd⟩
theorem tsts_parts {w : World} {d : Nat} {v : Value} {es : List Tst} (h : TstsAt w d v es) : ∃ a n c, v = .slice a n c := by
  obtain ⟨a, cap, hv, _⟩ := h
  exact ⟨_, _, _, hv⟩
theorem TstsIn.at_ {w : World} {d : Nat} {v : Value} {es : List Tst} {lo hi : Nat} (h : TstsIn w d v es lo hi) : TstsAt w d v es := by
  obtain ⟨a, cap, hv, hc, hm, h⟩ := h
  refine ⟨a, cap, hv, hc, hm, fun j hj => ?_⟩
  obtain ⟨b, off, c0, c1, c2, c3, c4, c5, c6, c7, c8, c9, c10, c11, ha, hlt, hlo, hhi, h0, h1, h2, h3, h4, h5, h6, h7, h8, h9, h10, h11, hr⟩ := h j hj
  exact ⟨b, off, c0, c1, c2, c3, c4, c5, c6, c7, c8, c9, c10, c11, ha, hlt, h0, h1, h2, h3, h4, h5, h6, h7, h8, h9, h10, h11, hr.at_ fun _ _ h => h.at_⟩
theorem TstsIn.below {w w' : World} {d : Nat} {v : Value} {es : List Tst} {lo hi : Nat} (h : TstsIn w d v es lo hi) (hb : Below w.heap.size w w') : TstsIn w' d v es lo hi := by
  obtain ⟨a, cap, hv, hc, hm, h⟩ := h
  refine ⟨a, cap, hv, hc, hm, fun j hj => ?_⟩
  obtain ⟨b, off, c0, c1, c2, c3, c4, c5, c6, c7, c8, c9, c10, c11, ha, hlt, hlo, hhi, h0, h1, h2, h3, h4, h5, h6, h7, h8, h9, h10, h11, hr⟩ := h j hj
  have hk : ∀ o, w'.cell? ⟨b, o, none⟩ = w.cell? ⟨b, o, none⟩ := fun o => hb.cell (p := ⟨b, o, none⟩) hlt
  exact ⟨b, off, c0, c1, c2, c3, c4, c5, c6, c7, c8, c9, c10, c11, ha, Nat.lt_of_lt_of_le hlt hb.size, hlo, hhi, (hk _).trans h0, (hk _).trans h1, (hk _).trans h2, (hk _).trans h3, (hk _).trans h4, (hk _).trans h5, (hk _).trans h6, (hk _).trans h7, (hk _).trans h8, (hk _).trans h9, (hk _).trans h10, (hk _).trans h11, hr.map fun _ _ _ _ h => h.below hb⟩
theorem TstsIn.rest {w w' : World} {d : Nat} {v : Value} {es : List Tst} {lo hi lo2 hi2 : Nat} (h : TstsIn w d v es lo hi) (kp : Rest lo2 hi2 w w') (hd : hi ≤ lo2 ∨ hi2 ≤ lo) : TstsIn w' d v es lo hi := by
  obtain ⟨a, cap, hv, hc, hm, h⟩ := h
  refine ⟨a, cap, hv, hc, hm, fun j hj => ?_⟩
  obtain ⟨b, off, c0, c1, c2, c3, c4, c5, c6, c7, c8, c9, c10, c11, ha, hlt, hlo, hhi, h0, h1, h2, h3, h4, h5, h6, h7, h8, h9, h10, h11, hr⟩ := h j hj
  have hk : ∀ o, w'.cell? ⟨b, o, none⟩ = w.cell? ⟨b, o, none⟩ := fun o => World.cell?_of_block (a := ⟨b, o, none⟩) (kp.2 b hlt (by omega))
  exact ⟨b, off, c0, c1, c2, c3, c4, c5, c6, c7, c8, c9, c10, c11, ha, Nat.lt_of_lt_of_le hlt kp.1, hlo, hhi, (hk _).trans h0, (hk _).trans h1, (hk _).trans h2, (hk _).trans h3, (hk _).trans h4, (hk _).trans h5, (hk _).trans h6, (hk _).trans h7, (hk _).trans h8, (hk _).trans h9, (hk _).trans h10, (hk _).trans h11, hr.map fun _ _ _ _ h => h.rest kp (by omega)⟩
end Go.Proofs.Ytmmnjdhmankieaa
