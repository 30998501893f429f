/-
  Proved: the variables that impl.typeAt's closures share, and the closure that takes the next byte of the text.
-/
import Derived.Test.YtgoohelkgaklgaaTyRead
import Derived.Test.YtgoohelkgaklgaaCur
import Derived.Test.YtgoohelkgaklgaaOwnInD
import Derived.Test.YtgoohelkgaklgaaTwo
namespace Go.Proofs.Ytgoohelkgaklgaa
open Go.RowKit

/-- The blocks from B on: the text, the place, the room, and the three closures. -/
def PenAt (w : World) (B : Nat) (s : ByteArray) (p : Nat) (R : Int) : Prop :=
  w.heap[B]? = some (.cells #[.string s] 9 (0, 0)) ∧ w.heap[B + 2]? = some (.cells #[.int .i64 p] 3 (0, 0)) ∧ w.heap[B + 3]? = some (.cells #[.int .i64 R] 3 (0, 0)) ∧
  w.heap[B + 4]? = some (.cells #[.func (.func 38) #[] #[.pointer (some ⟨B + 2, 0, none⟩), .pointer (some ⟨B, 0, none⟩)]] 69 (0, 0)) ∧
  w.heap[B + 5]? = some (.cells #[.func (.func 42) #[] #[.pointer (some ⟨B + 3, 0, none⟩), .pointer (some ⟨B + 4, 0, none⟩), .pointer (some ⟨B + 6, 0, none⟩)]] 70 (0, 0)) ∧
  w.heap[B + 6]? = some (.cells #[.func (.func 39) #[] #[.pointer (some ⟨B + 5, 0, none⟩), .pointer (some ⟨B + 4, 0, none⟩)]] 70 (0, 0))
/-- What the closures leave: the place and the room may have changed, and memory may be new. -/
def PenTo (B : Nat) (w w' : World) : Prop := Below (B + 2) w w' ∧ Kept (B + 2) (B + 4) w w'
theorem PenAt.top {w : World} {B : Nat} {s : ByteArray} {p : Nat} {R : Int} (h : PenAt w B s p R) : B + 6 < w.heap.size := (Array.getElem?_eq_some_iff.1 h.2.2.2.2.2).1
theorem PenTo.refl (B : Nat) (w : World) : PenTo B w w := ⟨Below.refl _ _, Nat.le_refl _, fun _ _ _ => rfl⟩
theorem PenTo.trans {B : Nat} {w w1 w2 : World} (h : PenTo B w w1) (k : PenTo B w1 w2) : PenTo B w w2 :=
  ⟨h.1.trans k.1, Nat.le_trans h.2.1 k.2.1, fun b hb ho => (k.2.2 b (Nat.lt_of_lt_of_le hb h.2.1) ho).trans (h.2.2 b hb ho)⟩
theorem PenTo.of_below {B : Nat} {w w' : World} (h : Below w.heap.size w w') (hB : B + 2 ≤ w.heap.size) : PenTo B w w' := ⟨h.mono hB, h.size, fun b hb _ => h.block b hb⟩
theorem PenTo.set {B q : Nat} {w : World} {u : Value} (hq : q = B + 2 ∨ q = B + 3) : PenTo B w (w.setCell ⟨q, 0, none⟩ u) :=
  ⟨(Below.refl _ _).setCell (by show B + 2 ≤ q; omega) _, by simp, fun b _ ho => heap_setCell_other _ _ _ _ (show b ≠ q by omega)⟩
theorem PenTo.far {B q j : Nat} {w w0 : World} {u : Value} (h : PenTo B w w0) (hq : w.heap.size ≤ q) (hB : B + 2 ≤ w.heap.size) : PenTo B w (w0.setCell ⟨q, j, none⟩ u) :=
  ⟨h.1.setCell (by show B + 2 ≤ q; omega) _, by simpa using h.2.1, fun b hb ho => by rw [heap_setCell_other _ _ _ _ (show b ≠ q by omega)]; exact h.2.2 b hb ho⟩
theorem PenAt.below {w w' : World} {B : Nat} {s : ByteArray} {p : Nat} {R : Int} (h : PenAt w B s p R) (hb : Below w.heap.size w w') : PenAt w' B s p R := by
  have ht := h.top
  obtain ⟨h1, h2, h3, h4, h5, h6⟩ := h
  exact ⟨(hb.block _ (by omega)).trans h1, (hb.block _ (by omega)).trans h2, (hb.block _ (by omega)).trans h3, (hb.block _ (by omega)).trans h4, (hb.block _ (by omega)).trans h5, (hb.block _ (by omega)).trans h6⟩
theorem PenAt.far {w : World} {B : Nat} {s : ByteArray} {p : Nat} {R : Int} (h : PenAt w B s p R) {q j : Nat} {u : Value} (hq : B + 6 < q) : PenAt (w.setCell ⟨q, j, none⟩ u) B s p R := by
  obtain ⟨h1, h2, h3, h4, h5, h6⟩ := h
  exact ⟨(heap_setCell_other _ _ _ _ (show B ≠ q by omega)).trans h1, (heap_setCell_other _ _ _ _ (show B + 2 ≠ q by omega)).trans h2, (heap_setCell_other _ _ _ _ (show B + 3 ≠ q by omega)).trans h3, (heap_setCell_other _ _ _ _ (show B + 4 ≠ q by omega)).trans h4, (heap_setCell_other _ _ _ _ (show B + 5 ≠ q by omega)).trans h5, (heap_setCell_other _ _ _ _ (show B + 6 ≠ q by omega)).trans h6⟩
theorem PenAt.place {w : World} {B : Nat} {s : ByteArray} {p : Nat} {R : Int} (h : PenAt w B s p R) (q : Nat) : PenAt (w.setCell ⟨B + 2, 0, none⟩ (.int .i64 q)) B s q R := by
  obtain ⟨h1, h2, h3, h4, h5, h6⟩ := h
  exact ⟨(heap_setCell_other _ _ _ _ (show B ≠ B + 2 by omega)).trans h1, heap_setCell_same w (B + 2) 0 _ 3 (.int .i64 q) h2, (heap_setCell_other _ _ _ _ (show B + 3 ≠ B + 2 by omega)).trans h3, (heap_setCell_other _ _ _ _ (show B + 4 ≠ B + 2 by omega)).trans h4, (heap_setCell_other _ _ _ _ (show B + 5 ≠ B + 2 by omega)).trans h5, (heap_setCell_other _ _ _ _ (show B + 6 ≠ B + 2 by omega)).trans h6⟩
theorem PenAt.less {w : World} {B : Nat} {s : ByteArray} {p : Nat} {R : Int} (h : PenAt w B s p R) (Q : Int) : PenAt (w.setCell ⟨B + 3, 0, none⟩ (.int .i64 Q)) B s p Q := by
  obtain ⟨h1, h2, h3, h4, h5, h6⟩ := h
  exact ⟨(heap_setCell_other _ _ _ _ (show B ≠ B + 3 by omega)).trans h1, (heap_setCell_other _ _ _ _ (show B + 2 ≠ B + 3 by omega)).trans h2, heap_setCell_same w (B + 3) 0 _ 3 (.int .i64 Q) h3, (heap_setCell_other _ _ _ _ (show B + 4 ≠ B + 3 by omega)).trans h4, (heap_setCell_other _ _ _ _ (show B + 5 ≠ B + 3 by omega)).trans h5, (heap_setCell_other _ _ _ _ (show B + 6 ≠ B + 3 by omega)).trans h6⟩
theorem FreeAt.beside {w w' : World} {p lo hi : Nat} (h : FreeAt w p) (k : Kept lo hi w w') (hd : p < lo ∨ hi ≤ p) : FreeAt w' p :=
  ⟨Nat.lt_of_lt_of_le h.1 k.1, fun j => (World.frozen?_of_block (k.2 p h.1 hd)).trans (h.2 j)⟩
theorem own_pen {w w' : World} {B d lo hi : Nat} {v : Value} {t : Ty} {fp : List Nat} (h : TyOwn w d v t fp) (hf : Fp lo hi fp) (k : PenTo B w w') (hB : B + 4 ≤ lo) : TyOwn w' d v t fp :=
  h.kept k.2.1 fun b hb => k.2.2 b (h.lt b hb) (Or.inr (by have := (hf.2 _ hb).1; omega))
/-- What taking a byte ends in. -/
def NextEnd (B : Nat) (s : ByteArray) (p : Nat) (R : Int) (w : World) (e : Ending) (w' : World) : Prop :=
  ∃ (c : Int) (q : Nat), e = .returned (.int .u8 c) ∧ PenAt w' B s q R ∧ PenTo B w w' ∧ q ≤ s.size ∧ ((∃ h : p < s.size, c = (s[p].toNat : Int) ∧ q = p + 1) ∨ (¬ p < s.size ∧ c = 0 ∧ q = p))
set_option maxRecDepth 100000 in
set_option maxHeartbeats 2000000 in
theorem penNext (B : Nat) (s : ByteArray) (p : Nat) (R : Int) (w : World) (hs : s.size ≤ 1048576) (hp : p ≤ s.size) (h : PenAt w B s p R) :
    Calls Try.prog 38 #[.pointer (some ⟨B + 2, 0, none⟩), .pointer (some ⟨B, 0, none⟩)] w (NextEnd B s p R w) := by
  have HP := Lib.hid h; clear h
  have x0 := cell_of_row w B 0 _ _ _ HP.out.1
  have x2 := cell_of_row w (B + 2) 0 _ _ _ HP.out.2.1
  have f2 := frozen_of_row w (B + 2) 0 _ _ HP.out.2.1
  go_enter Try.func38, Try.ntmps38
  by_cases hlt : p < s.size
  · go_wp2_with fail
    go_ret
    exact ⟨_, p + 1, rfl, HP.out.place (p + 1), PenTo.set (Or.inl rfl), by omega, Or.inl ⟨hlt, rfl, rfl⟩⟩
  · go_wp2_with fail
    go_ret
    exact ⟨_, p, rfl, HP.out, PenTo.refl _ _, hp, Or.inr ⟨hlt, rfl, rfl⟩⟩
end Go.Proofs.Ytgoohelkgaklgaa
