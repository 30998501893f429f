/-
  Proved: how a list of typings lies in memory, and plain facts on such lists.
-/
import Derived.Test.YtfidcblaabeaaaaOwnTree
namespace Go.Proofs.Ytfidcblaabeaaaa
open Go.RowKit

/-- A typing: its name, its type. -/
structure Bi where
  name : ByteArray
  ty : Ty
def Bi.bulk (b : Bi) : Nat := b.name.size + (b.ty.size - 1)
def Bi.bulks : List Bi → Nat
  | [] => 0
  | e :: r => 1 + e.bulk + Bi.bulks r
theorem Bi.bulks_take (es : List Bi) : ∀ k (h : k < es.length), Bi.bulks (es.take (k + 1)) = Bi.bulks (es.take k) + (1 + es[k].bulk) := by
  induction es with
  | nil => intro k h; simp at h
  | cons s r ih =>
    intro k h
    cases k with
    | zero => simp [Bi.bulks]
    | succ k =>
      simp only [List.take_succ_cons, Bi.bulks, List.getElem_cons_succ]
      rw [ih k (by simpa using h)]; omega
theorem Bi.bulks_le (es : List Bi) (k : Nat) : Bi.bulks (es.take k) ≤ Bi.bulks es := by
  induction es generalizing k with
  | nil => simp
  | cons s r ih =>
    cases k with
    | zero => simp [Bi.bulks]
    | succ k => simp only [List.take_succ_cons, Bi.bulks]; have := ih k; omega
theorem Bi.bulk_get (es : List Bi) (k : Nat) (h : k < es.length) : 1 + es[k].bulk ≤ Bi.bulks es := by
  have h1 := Bi.bulks_take es k h
  have h2 := Bi.bulks_le es (k + 1)
  omega
theorem Bi.length_le (es : List Bi) : es.length ≤ Bi.bulks es := by
  induction es with
  | nil => simp
  | cons s r ih => simp only [List.length_cons, Bi.bulks]; omega
/-- In the world w the value v reads as the typing b, its type at most d deep. -/
def BiAt (w : World) (d : Nat) (v : Value) (b : Bi) : Prop :=
  ∃ tk ta tn tc, v = .agg #[.string b.name, .int .i64 tk, .slice ta tn tc] ∧ b.name.size ≤ 9223372036854775807 ∧ TyAt w d (.agg #[.int .i64 tk, .slice ta tn tc]) b.ty
def BiOwn (w : World) (d : Nat) (v : Value) (b : Bi) (fp : List Nat) : Prop :=
  ∃ tk ta tn tc, v = .agg #[.string b.name, .int .i64 tk, .slice ta tn tc] ∧ b.name.size ≤ 9223372036854775807 ∧ TyOwn w d (.agg #[.int .i64 tk, .slice ta tn tc]) b.ty fp
theorem BiOwn.at_ {w : World} {d : Nat} {v : Value} {b : Bi} {fp : List Nat} (h : BiOwn w d v b fp) : BiAt w d v b := by
  obtain ⟨tk, ta, tn, tc, hv, hn, ht⟩ := h
  exact ⟨tk, ta, tn, tc, hv, hn, ht.at_⟩
theorem BiOwn.kept {w w' : World} {d : Nat} {v : Value} {b : Bi} {fp : List Nat} (h : BiOwn w d v b fp) (hz : w.heap.size ≤ w'.heap.size) (hb : ∀ b, b ∈ fp → w'.heap[b]? = w.heap[b]?) : BiOwn w' d v b fp := by
  obtain ⟨tk, ta, tn, tc, hv, hn, ht⟩ := h
  exact ⟨tk, ta, tn, tc, hv, hn, ht.kept hz hb⟩
theorem BiAt.below {w w' : World} {d : Nat} {v : Value} {b : Bi} (h : BiAt w d v b) (hb : Below w.heap.size w w') : BiAt w' d v b := by
  obtain ⟨tk, ta, tn, tc, hv, hn, ht⟩ := h
  exact ⟨tk, ta, tn, tc, hv, hn, ht.below hb⟩
theorem bi_parts {w : World} {d : Nat} {v : Value} {b : Bi} (h : BiAt w d v b) : ∃ nm tk ta tn tc, v = .agg #[.string nm, .int .i64 tk, .slice ta tn tc] := by
  obtain ⟨tk, ta, tn, tc, rfl, _⟩ := h
  exact ⟨_, _, _, _, _, rfl⟩
/-- In the world w the value v reads as the typings bs. -/
def BisAt (w : World) (d : Nat) (v : Value) (bs : List Bi) : Prop :=
  ∃ a cap, v = .slice a bs.length cap ∧ bs.length ≤ cap ∧ cap ≤ 9223372036854775807 ∧
    ∀ j (h : j < bs.length), ∃ b off c0 c1 c2, a = some ⟨b, off, none⟩ ∧ b < w.heap.size ∧ w.cell? ⟨b, off + j * 3, none⟩ = some c0 ∧ w.cell? ⟨b, off + j * 3 + 1, none⟩ = some c1 ∧ w.cell? ⟨b, off + j * 3 + 2, none⟩ = some c2 ∧ BiAt w d (.agg #[c0, c1, c2]) bs[j]
theorem BisAt.below {w w' : World} {d : Nat} {v : Value} {bs : List Bi} (h : BisAt w d v bs) (hb : Below w.heap.size w w') : BisAt w' d v bs := by
  obtain ⟨a, cap, hv, hc, hm, h⟩ := h
  refine ⟨a, cap, hv, hc, hm, fun j hj => ?_⟩
  obtain ⟨b, off, c0, c1, c2, ha, hlt, h0, h1, h2, hr⟩ := h j hj
  have hk : ∀ o, w'.cell? ⟨b, o, none⟩ = w.cell? ⟨b, o, none⟩ := fun o => hb.cell (p := ⟨b, o, none⟩) hlt
  exact ⟨b, off, c0, c1, c2, ha, Nat.lt_of_lt_of_le hlt hb.size, (hk _).trans h0, (hk _).trans h1, (hk _).trans h2, hr.below hb⟩
end Go.Proofs.Ytfidcblaabeaaaa
