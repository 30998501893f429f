/-
  Proved: how a list of values of the kind Conflict lies in memory; plain facts.
-/
import Derived.Test.YtajikfageppobaaAtCfl
namespace Go.Proofs.Ytajikfageppobaa
open Go.RowKit

def Cfl.bulks : List Cfl → Nat
  | [] => 0
  | e :: r => 1 + e.bulk + Cfl.bulks r
theorem Cfl.bulks_take (es : List Cfl) : ∀ k (h : k < es.length), Cfl.bulks (es.take (k + 1)) = Cfl.bulks (es.take k) + (1 + es[k].bulk) := by
  induction es with
  | nil => intro k h; simp at h
  | cons s r ih =>
    intro k h
    cases k with
    | zero => simp [Cfl.bulks]
    | succ k =>
      simp only [List.take_succ_cons, Cfl.bulks, List.getElem_cons_succ]
      rw [ih k (by simpa using h)]; omega
theorem Cfl.bulks_le (es : List Cfl) (k : Nat) : Cfl.bulks (es.take k) ≤ Cfl.bulks es := by
  induction es generalizing k with
  | nil => simp
  | cons s r ih =>
    cases k with
    | zero => simp [Cfl.bulks]
    | succ k => simp only [List.take_succ_cons, Cfl.bulks]; have := ih k; omega
theorem Cfl.bulk_get (es : List Cfl) (k : Nat) (h : k < es.length) : 1 + es[k].bulk ≤ Cfl.bulks es := by
  have h1 := Cfl.bulks_take es k h
  have h2 := Cfl.bulks_le es (k + 1)
  omega
theorem Cfl.length_le (es : List Cfl) : es.length ≤ Cfl.bulks es := by
  induction es with
  | nil => simp
  | cons s r ih => simp only [List.length_cons, Cfl.bulks]; omega
def CflsAt (w : World) (d : Nat) (v : Value) (es : List Cfl) : Prop :=
  ∃ a cap, v = .slice a es.length cap ∧ es.length ≤ cap ∧ cap ≤ 9223372036854775807 ∧
    ∀ j (h : j < es.length), ∃ b off c0 c1, a = some ⟨b, off, none⟩ ∧ b < w.heap.size ∧ w.cell? ⟨b, off + j * 2, none⟩ = some c0 ∧ w.cell? ⟨b, off + j * 2 + 1, none⟩ = some c1 ∧ CflAt w d (.agg #[c0, c1]) es[j]
def CflsIn (w : World) (d : Nat) (v : Value) (es : List Cfl) (lo hi : Nat) : Prop :=
  ∃ a cap, v = .slice a es.length cap ∧ es.length ≤ cap ∧ cap ≤ 9223372036854775807 ∧
    ∀ j (h : j < es.length), ∃ b off c0 c1, a = some ⟨b, off, none⟩ ∧ b < w.heap.size ∧ lo ≤ b ∧ b < hi ∧ w.cell? ⟨b, off + j * 2, none⟩ = some c0 ∧ w.cell? ⟨b, off + j * 2 + 1, none⟩ = some c1 ∧ Wi lo hi (CflIn w d (.agg #[c0, c1]) es[j])
theorem CflsAt.below {w w' : World} {d : Nat} {v : Value} {es : List Cfl} (h : CflsAt w d v es) (hb : Below w.heap.size w w') : CflsAt w' d v es := by
  obtain ⟨a, cap, hv, hc, hm, h⟩ := h
  refine ⟨a, cap, hv, hc, hm, fun j hj => ?_⟩
  obtain ⟨b, off, c0, c1, ha, hlt, h0, h1, hr⟩ := h j hj
  have hk : ∀ o, w'.cell? ⟨b, o, none⟩ = w.cell? ⟨b, o, none⟩ := fun o => hb.cell (p := ⟨b, o, none⟩) hlt
  exact ⟨b, off, c0, c1, ha, Nat.lt_of_lt_of_le hlt hb.size, (hk _).trans h0, (hk _).trans h1, hr.below hb⟩
theorem CflsAt.mono {w : World} {d d' : Nat} {v : Value} {es : List Cfl} (h : CflsAt w d v es) (hd : d ≤ d') : CflsAt w d' v es := by
  obtain ⟨a, cap, hv, hc, hm, h⟩ := h
  refine ⟨a, cap, hv, hc, hm, fun j hj => ?_⟩
  obtain ⟨b, off, c0, c1, ha, hlt, h0, h1, hr⟩ := h j hj
  exact ⟨b, off, c0, c1, ha, hlt, h0, h1, hr.mono hd⟩
theorem cfls_parts {w : World} {d : Nat} {v : Value} {es : List Cfl} (h : CflsAt w d v es) : ∃ a n c, v = .slice a n c := by
  obtain ⟨a, cap, hv, _⟩ := h
  exact ⟨_, _, _, hv⟩
theorem CflsIn.at_ {w : World} {d : Nat} {v : Value} {es : List Cfl} {lo hi : Nat} (h : CflsIn w d v es lo hi) : CflsAt w d v es := by
  obtain ⟨a, cap, hv, hc, hm, h⟩ := h
  refine ⟨a, cap, hv, hc, hm, fun j hj => ?_⟩
  obtain ⟨b, off, c0, c1, ha, hlt, hlo, hhi, h0, h1, hr⟩ := h j hj
  exact ⟨b, off, c0, c1, ha, hlt, h0, h1, hr.at_ fun _ _ h => h.at_⟩
theorem CflsIn.below {w w' : World} {d : Nat} {v : Value} {es : List Cfl} {lo hi : Nat} (h : CflsIn w d v es lo hi) (hb : Below w.heap.size w w') : CflsIn w' d v es lo hi := by
  obtain ⟨a, cap, hv, hc, hm, h⟩ := h
  refine ⟨a, cap, hv, hc, hm, fun j hj => ?_⟩
  obtain ⟨b, off, c0, c1, ha, hlt, hlo, hhi, h0, h1, hr⟩ := h j hj
  have hk : ∀ o, w'.cell? ⟨b, o, none⟩ = w.cell? ⟨b, o, none⟩ := fun o => hb.cell (p := ⟨b, o, none⟩) hlt
  exact ⟨b, off, c0, c1, ha, Nat.lt_of_lt_of_le hlt hb.size, hlo, hhi, (hk _).trans h0, (hk _).trans h1, hr.map fun _ _ _ _ h => h.below hb⟩
theorem CflsIn.rest {w w' : World} {d : Nat} {v : Value} {es : List Cfl} {lo hi lo2 hi2 : Nat} (h : CflsIn w d v es lo hi) (kp : Rest lo2 hi2 w w') (hd : hi ≤ lo2 ∨ hi2 ≤ lo) : CflsIn w' d v es lo hi := by
  obtain ⟨a, cap, hv, hc, hm, h⟩ := h
  refine ⟨a, cap, hv, hc, hm, fun j hj => ?_⟩
  obtain ⟨b, off, c0, c1, ha, hlt, hlo, hhi, h0, h1, hr⟩ := h j hj
  have hk : ∀ o, w'.cell? ⟨b, o, none⟩ = w.cell? ⟨b, o, none⟩ := fun o => World.cell?_of_block (a := ⟨b, o, none⟩) (kp.2 b hlt (by omega))
  exact ⟨b, off, c0, c1, ha, Nat.lt_of_lt_of_le hlt kp.1, hlo, hhi, (hk _).trans h0, (hk _).trans h1, hr.map fun _ _ _ _ h => h.rest kp (by omega)⟩
end Go.Proofs.Ytajikfageppobaa
