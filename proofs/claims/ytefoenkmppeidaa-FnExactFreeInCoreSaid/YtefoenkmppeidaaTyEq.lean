/-
  Proved: plain facts on the equality of types' trees, and on two boxes that a call lays one behind the other.
-/
import Derived.Test.YtefoenkmppeidaaTree
import Derived.StillTailTactics
namespace Go.Proofs.Ytefoenkmppeidaa
open Go.RowKit

mutual
def Ty.beq : Ty → Ty → Bool
  | .node k cs, .node l bs => decide (k = l) && Ty.beqs cs bs
def Ty.beqs : List Ty → List Ty → Bool
  | [], [] => true
  | a :: r, b :: s => a.beq b && Ty.beqs r s
  | _, _ => false
end
theorem Ty.beqs_len : ∀ (cs bs : List Ty), cs.length ≠ bs.length → Ty.beqs cs bs = false
  | [], [], h => (h rfl).elim
  | [], _ :: _, _ => rfl
  | _ :: _, [], _ => rfl
  | a :: r, b :: s, h => by
    simp only [Ty.beqs, Ty.beqs_len r s (by simpa using h), Bool.and_false]
theorem Ty.beqs_take : ∀ (cs bs : List Ty) (k : Nat) (h : k < cs.length) (h' : k < bs.length), Ty.beqs (cs.take (k + 1)) (bs.take (k + 1)) = (Ty.beqs (cs.take k) (bs.take k) && cs[k].beq bs[k])
  | [], _, _, h, _ => by simp at h
  | _ :: _, [], _, _, h => by simp at h
  | a :: r, b :: s, 0, _, _ => by simp [Ty.beqs]
  | a :: r, b :: s, k + 1, h, h' => by
    simp only [List.take_succ_cons, Ty.beqs, List.getElem_cons_succ]
    rw [Ty.beqs_take r s k (by simpa using h) (by simpa using h'), Bool.and_assoc]
theorem Ty.beqs_false : ∀ (cs bs : List Ty) (k : Nat), Ty.beqs (cs.take k) (bs.take k) = false → cs.length = bs.length → Ty.beqs cs bs = false
  | [], [], k, h, _ => by simp [Ty.beqs] at h
  | [], _ :: _, _, _, e => by simp at e
  | _ :: _, [], _, _, e => by simp at e
  | a :: r, b :: s, 0, h, _ => by simp [Ty.beqs] at h
  | a :: r, b :: s, k + 1, h, e => by
    simp only [List.take_succ_cons, Ty.beqs, Bool.and_eq_false_iff] at h ⊢
    rcases h with h | h
    · exact Or.inl h
    · exact Or.inr (Ty.beqs_false r s k h (by simpa using e))

theorem two_first {w wr : World} {cs ds : Array Value} {T U : TypeId} (h : Below (w.heap.size + 2) ((w.alloc (.cells cs T)).alloc (.cells ds U)) wr) (j : Nat) : wr.cell? ⟨w.heap.size, j, none⟩ = cs[j]? := by
  rw [h.cell (p := ⟨w.heap.size, j, none⟩) (Nat.lt_of_lt_of_le (Nat.lt_succ_self _) (Nat.le_succ _)), World.cell?_alloc_lt _ _ _ (by simp)]
  exact World.cell?_alloc_mark w cs T (0, 0) j
theorem two_next {w wr : World} {cs ds : Array Value} {T U : TypeId} (h : Below (w.heap.size + 2) ((w.alloc (.cells cs T)).alloc (.cells ds U)) wr) (j : Nat) : wr.cell? ⟨w.heap.size + 1, j, none⟩ = ds[j]? := by
  rw [h.cell (p := ⟨w.heap.size + 1, j, none⟩) (Nat.lt_succ_self _)]
  have := World.cell?_alloc_mark (w.alloc (.cells cs T)) ds U (0, 0) j
  rw [show (w.alloc (.cells cs T)).heap.size = w.heap.size + 1 from by simp] at this
  exact this
theorem two_below {w wr : World} {o q : Obj} (h : Below (w.heap.size + 2) ((w.alloc o).alloc q) wr) : Below w.heap.size w wr :=
  (((Below.refl _ _).alloc (Nat.le_refl _) _).alloc (by simp) _).trans (h.mono (by omega))
theorem two_on {w wr w' : World} {o q : Obj} (h : Below (w.heap.size + 2) ((w.alloc o).alloc q) wr) (h2 : Below wr.heap.size wr w') : Below (w.heap.size + 2) ((w.alloc o).alloc q) w' :=
  h.trans (h2.mono (by have := h.size; simp at this; omega))
end Go.Proofs.Ytefoenkmppeidaa
