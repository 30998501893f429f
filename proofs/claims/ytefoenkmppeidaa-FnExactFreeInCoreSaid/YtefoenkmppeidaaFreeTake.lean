/-
  Proved: plain facts on the free variables of the first children of an expression, and how many there can be.
-/
import Derived.Test.YtefoenkmppeidaaFree
namespace Go.Proofs.Ytefoenkmppeidaa
open Go.RowKit

theorem Ex.frees_take : ∀ (es : List Ex) (L : List ByteArray) (k : Nat) (h : k < es.length), Ex.frees L (es.take (k + 1)) = addAll (addAll [] (Ex.frees L (es.take k))) es[k].free
  | [], _, _, h => by simp at h
  | e :: r, L, 0, _ => by simp [Ex.frees]
  | e :: r, L, k + 1, h => by
    simp only [List.take_succ_cons, Ex.frees, List.getElem_cons_succ]
    exact Ex.frees_take r _ k (by simpa using h)
theorem Ex.colls_take : ∀ (es : List Ex) (acc : List ByteArray) (c : ByteArray → Int) (k : Nat) (h : k < es.length), Ex.colls acc c (es.take (k + 1)) = es[k].coll (Ex.colls acc c (es.take k)) c
  | [], _, _, _, h => by simp at h
  | e :: r, acc, c, 0, _ => by simp [Ex.colls]
  | e :: r, acc, c, k + 1, h => by
    simp only [List.take_succ_cons, Ex.colls, List.getElem_cons_succ]
    exact Ex.colls_take r _ c k (by simpa using h)
mutual
theorem Ex.free_few : ∀ t : Ex, t.free.length ≤ 1 + t.bulk
  | .node k nm n ty es => by
    have h := Ex.frees_few es []
    have hb : (Ex.node k nm n ty es).bulk = nm.size + (ty.size - 1) + Ex.bulks es := rfl
    have h2 : (Ex.frees [] es).length ≤ Ex.bulks es := by simpa using h
    simp only [Ex.free]
    split
    · simp
    · split
      · have := without_few nm (Ex.frees [] es); omega
      · omega
theorem Ex.frees_few : ∀ (es : List Ex) (L : List ByteArray), (Ex.frees L es).length ≤ L.length + Ex.bulks es
  | [], L => by simp [Ex.frees, Ex.bulks]
  | e :: r, L => by
    simp only [Ex.frees, Ex.bulks]
    have h1 := Ex.frees_few r (addAll (addAll [] L) e.free)
    have h2 := addAll_few e.free (addAll [] L)
    have h3 := addAll_few L []
    have h4 := Ex.free_few e
    simp only [List.length_nil] at h3
    omega
end
mutual
theorem Ex.coll_few : ∀ (t : Ex) (acc : List ByteArray) (c : ByteArray → Int), (t.coll acc c).length ≤ acc.length + (1 + t.bulk)
  | .node k nm n ty es, acc, c => by
    have hb : (Ex.node k nm n ty es).bulk = nm.size + (ty.size - 1) + Ex.bulks es := rfl
    simp only [Ex.coll]
    split
    · split
      · omega
      · have := addN_few acc nm; omega
    · have := Ex.colls_few es acc (if k = 3 then bump c nm else c); omega
theorem Ex.colls_few : ∀ (es : List Ex) (acc : List ByteArray) (c : ByteArray → Int), (Ex.colls acc c es).length ≤ acc.length + Ex.bulks es
  | [], acc, c => by simp [Ex.colls, Ex.bulks]
  | e :: r, acc, c => by
    simp only [Ex.colls, Ex.bulks]
    have h1 := Ex.colls_few r (e.coll acc c) c
    have h2 := Ex.coll_few e acc c
    omega
end
theorem str_base {w : World} {B B' : Nat} {e : TypeId} {size : Nat} {v : Value} {n : Nat} {xs : List Value} (h : w.ownsRow B' e size v n xs) (hB : B ≤ B') : w.ownsRow B e size v n xs := by
  refine ⟨h.1, ?_⟩
  rcases h.2 with h | ⟨g, cap, cur, rfl, r1, r2⟩
  · exact Or.inl h
  · exact Or.inr ⟨g, cap, cur, rfl, Nat.le_trans hB r1, r2⟩
theorem one_made (w : World) (x : ByteArray) {B : Nat} (hB : B ≤ w.heap.size) : (w.alloc (.cells #[.string x] 9)).ownsRow B 9 1 (.slice (some ⟨w.heap.size, 0, none⟩) 1 1) ([x] : List ByteArray).length ([x].map Value.string) :=
  ⟨rfl, .inr ⟨w.heap.size, 1, #[.string x], rfl, hB, heap_alloc_new w _, Nat.le_refl _, by unfold maxLen; omega, rfl, rfl⟩⟩
end Go.Proofs.Ytefoenkmppeidaa
