/-
  Proved: plain facts on a row of two types that a call builds.
-/
import Derived.Test.YtgoohelkgaklgaaTwo
import Derived.Test.YtgoohelkgaklgaaCopyRow
namespace Go.Proofs.Ytgoohelkgaklgaa
open Go.RowKit

/-- A type whose row of parts the call has built, from block base on. -/
def Built (w : World) (base d : Nat) (v : Value) (t : Ty) : Prop :=
  ∃ k sl ts, v = .agg #[.int .i64 k, sl] ∧ t = .node k ts ∧ 0 ≤ k ∧ k ≤ 255 ∧ CopyRow w base d sl ts
/-- What building a type ends in. -/
def BuiltEnd (d : Nat) (t : Ty) (w : World) (e : Ending) (w' : World) : Prop :=
  ∃ v, e = .returned v ∧ Built w' w.heap.size d v t ∧ Below w.heap.size w w'
theorem Built.tree {w : World} {base d : Nat} {v : Value} {t : Ty} (h : Built w base d v t) : ∃ fp, TyOwn w (d + 1) v t fp ∧ Fp base w.heap.size fp := by
  obtain ⟨k, sl, ts, rfl, rfl, h0, h1, h⟩ := h
  exact h.tree k (by omega) (by omega)
theorem Built.at_ {w : World} {base d : Nat} {v : Value} {t : Ty} (h : Built w base d v t) : TyAt w (d + 1) v t := by
  obtain ⟨fp, h, _⟩ := h.tree
  exact h.at_
theorem Built.below {w w' : World} {base d : Nat} {v : Value} {t : Ty} (h : Built w base d v t) (hb : Below w.heap.size w w') : Built w' base d v t := by
  obtain ⟨k, sl, ts, rfl, rfl, h0, h1, h⟩ := h
  exact ⟨k, sl, ts, rfl, rfl, h0, h1, h.below hb⟩
theorem BuiltEnd.to {d : Nat} {t : Ty} {w : World} {e : Ending} {w' : World} (h : BuiltEnd d t w e w') : ToTyEnd (d + 1) t w e w' := by
  obtain ⟨v, rfl, h, hb⟩ := h
  obtain ⟨fp, h1, h2⟩ := h.tree
  exact ⟨v, fp, rfl, h1, h2, hb⟩
theorem CopyRow.lower {w : World} {base base' d : Nat} {v : Value} {ts : List Ty} (h : CopyRow w base d v ts) (hb : base' ≤ base) : CopyRow w base' d v ts := by
  obtain ⟨cs, fps, hown, hl, hf, hg, hat⟩ := h
  refine ⟨cs, fps, ⟨hown.1, ?_⟩, hl, hf.mono hb (Nat.le_refl _), hg, hat⟩
  rcases hown.2 with h | ⟨g, cap, cur, rfl, r1, r2, r3⟩
  · exact Or.inl h
  · exact Or.inr ⟨g, cap, cur, rfl, Nat.le_trans hb r1, r2, r3⟩
theorem row_two {X : World} {d lo mid hi : Nat} {c0 c1 d0 d1 : Value} {t1 t2 : Ty} {f1 f2 : List Nat} (hX : hi = X.heap.size)
    (HC : TyOwn X d (.agg #[c0, c1]) t1 f1) (HD : TyOwn X d (.agg #[d0, d1]) t2 f2) (F1 : Fp lo mid f1) (F2 : Fp mid hi f2) (h1 : lo ≤ mid) (h2 : mid ≤ hi) :
    CopyRow (X.alloc (.cells #[c0, c1, d0, d1] 26)) lo d (.slice (some ⟨hi, 0, none⟩) 2 2) [t1, t2] := by
  subst hX
  have hb := below_alloc X (.cells #[c0, c1, d0, d1] 26)
  have hj := F1.join F2 h1 h2
  refine ⟨[c0, c1, d0, d1], [f1, f2], ⟨rfl, Or.inr ⟨X.heap.size, 2, #[c0, c1, d0, d1], rfl, by omega, heap_alloc_new X _, Nat.le_refl _, by unfold maxLen; omega, rfl, rfl⟩⟩, rfl, ?_, ?_, fun j hj => ?_⟩
  · simp only [List.flatten_cons, List.flatten_nil, List.append_nil]
    exact hj.mono (Nat.le_refl _) (by simp)
  · intro g hg
    simp only [Value.ownBlock, Option.some.injEq] at hg
    subst hg
    simp only [List.flatten_cons, List.flatten_nil, List.append_nil]
    intro hm
    have := (hj.2 _ hm).2
    omega
  · match j, hj with
    | 0, _ => exact ⟨c0, c1, f1, rfl, rfl, rfl, HC.below hb⟩
    | 1, _ => exact ⟨d0, d1, f2, rfl, rfl, rfl, HD.below hb⟩
end Go.Proofs.Ytgoohelkgaklgaa
