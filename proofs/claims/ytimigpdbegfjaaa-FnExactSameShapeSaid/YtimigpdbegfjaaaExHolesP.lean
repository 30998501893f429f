/-
  Proved: plain facts on the numbers of the holes and marks of an expression.
-/
import Derived.Test.YtimigpdbegfjaaaExTree
import Derived.Test.YtimigpdbegfjaaaIntsRow
namespace Go.Proofs.Ytimigpdbegfjaaa
open Go.RowKit

mutual
/-- The numbers of the holes and marks, in the order of the text. -/
def Ex.holes : Ex → List Int
  | .node k _ n _ es => (if k = 1 ∨ k = 14 then [n] else []) ++ Ex.holess es
def Ex.holess : List Ex → List Int
  | [] => []
  | e :: r => e.holes ++ Ex.holess r
end
theorem Ex.holess_take (es : List Ex) : ∀ k (h : k < es.length), Ex.holess (es.take (k + 1)) = Ex.holess (es.take k) ++ es[k].holes := by
  induction es with
  | nil => intro k h; simp at h
  | cons s r ih =>
    intro k h
    cases k with
    | zero => simp [Ex.holess]
    | succ k =>
      simp only [List.take_succ_cons, Ex.holess, List.getElem_cons_succ]
      rw [ih k (by simpa using h), List.append_assoc]
mutual
theorem Ex.holes_few : ∀ e : Ex, e.holes.length ≤ 1 + e.bulk
  | .node k nm n ty es => by have := Ex.holess_few es; simp only [Ex.holes, Ex.bulk, List.length_append]; split <;> simp <;> omega
theorem Ex.holess_few : ∀ es : List Ex, (Ex.holess es).length ≤ Ex.bulks es
  | [] => Nat.le_refl _
  | e :: r => by have := Ex.holes_few e; have := Ex.holess_few r; simp only [Ex.holess, Ex.bulks, List.length_append]; omega
end
theorem Ex.holess_part (es : List Ex) (k : Nat) : (Ex.holess (es.take k)).length ≤ Ex.bulks es := Nat.le_trans (Ex.holess_few _) (Ex.bulks_le es k)
theorem news_int (w : World) (x : Value) (t : TypeId) : ∀ j u, [x][j]? = some u → (w.alloc (.cells #[x] t)).cell? ((⟨w.heap.size, 0, none⟩ : Addr).add j) = some u := by
  intro j u hj
  match j, hj with
  | 0, hj =>
    simp at hj
    subst hj
    simp [Addr.add]
theorem news_at (w : World) (x : Value) (t : TypeId) (p : Nat) (hp : p = w.heap.size) : ∀ j u, [x][j]? = some u → (w.alloc (.cells #[x] t)).cell? ((⟨p, 0, none⟩ : Addr).add j) = some u := by
  subst hp; exact news_int w x t
theorem news_row {w : World} {B g n cap : Nat} {e : TypeId} {xs : List Value} (h : w.ownsRow B e 1 (.slice (some ⟨g, 0, none⟩) n cap) n xs) : ∀ j u, xs[j]? = some u → w.cell? ((⟨g, 0, none⟩ : Addr).add j) = some u := by
  intro j u hj
  have hl : j < xs.length := (List.getElem?_eq_some_iff.1 hj).1
  have h1 := h.1
  rw [addr_add, Nat.zero_add, h.cellAt j (by omega)]
  exact hj
theorem ints_one (ns : List Int) : ∀ u ∈ ns.map (Value.int IntKind.i64), u.oneCell' = true := by
  intro u hu
  obtain ⟨x, _, rfl⟩ := List.mem_map.1 hu
  simp [Value.oneCell']
end Go.Proofs.Ytimigpdbegfjaaa
