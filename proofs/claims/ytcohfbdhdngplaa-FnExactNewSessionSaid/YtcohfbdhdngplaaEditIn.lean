/-
  Proved: plain facts on edits in memory of their own: the expression's blocks first, then the path's; how marking numbers them.
-/
import Derived.Test.YtcohfbdhdngplaaEditAt
import Derived.Test.YtcohfbdhdngplaaMarkExIn
import Derived.Test.YtcohfbdhdngplaaIntsIn
namespace Go.Proofs.Ytcohfbdhdngplaa
open Go.RowKit

def EditIn (w : World) (d : Nat) (v : Value) (a : Edi) (lo hi : Nat) : Prop :=
  ∃ k nm n tk ta tn tc sa sn sc pa pn pc mid, v = .agg #[.int .i64 k, .string nm, .int .i64 n, .int .i64 tk, .slice ta tn tc, .slice sa sn sc, .slice pa pn pc] ∧ ExIn w d (.agg #[.int .i64 k, .string nm, .int .i64 n, .int .i64 tk, .slice ta tn tc, .slice sa sn sc]) a.ex lo mid ∧ IntsIn w (.slice pa pn pc) a.path mid hi ∧ lo ≤ mid ∧ mid ≤ hi ∧ a.path.length ≤ 9223372036854775807
theorem EditIn.at_ {w : World} {d : Nat} {v : Value} {a : Edi} {lo hi : Nat} (h : EditIn w d v a lo hi) : EditAt w d v a := by
  obtain ⟨k, nm, n, tk, ta, tn, tc, sa, sn, sc, pa, pn, pc, mid, hv, he, hp, h1, h2, h3⟩ := h
  exact ⟨k, nm, n, tk, ta, tn, tc, sa, sn, sc, pa, pn, pc, hv, he.at_, hp.ints, h3⟩
theorem EditIn.below {w w' : World} {d : Nat} {v : Value} {a : Edi} {lo hi : Nat} (h : EditIn w d v a lo hi) (hb : Below w.heap.size w w') : EditIn w' d v a lo hi := by
  obtain ⟨k, nm, n, tk, ta, tn, tc, sa, sn, sc, pa, pn, pc, mid, hv, he, hp, h1, h2, h3⟩ := h
  exact ⟨k, nm, n, tk, ta, tn, tc, sa, sn, sc, pa, pn, pc, mid, hv, he.below hb, hp.below hb, h1, h2, h3⟩
theorem EditIn.beside {w w' : World} {d : Nat} {v : Value} {a : Edi} {lo hi lo2 hi2 : Nat} (h : EditIn w d v a lo hi) (kp : Kept lo2 hi2 w w') (hd : hi ≤ lo2 ∨ hi2 ≤ lo) : EditIn w' d v a lo hi := by
  obtain ⟨k, nm, n, tk, ta, tn, tc, sa, sn, sc, pa, pn, pc, mid, hv, he, hp, h1, h2, h3⟩ := h
  exact ⟨k, nm, n, tk, ta, tn, tc, sa, sn, sc, pa, pn, pc, mid, hv, he.beside kp (by omega), hp.beside kp (by omega), h1, h2, h3⟩
def Edi.wt (a : Edi) : Nat := a.ex.wt + a.path.length
def Edi.markIn (a : Edi) (k : Int) : Edi := ⟨a.ex.markIn k, imarks (k + (a.ex.wt : Int)) a.path.length⟩
theorem Kept.trans {lo mid hi : Nat} {w w1 w2 : World} (h1 : Kept lo mid w w1) (h2 : Kept mid hi w1 w2) (hm : lo ≤ mid) (hh : mid ≤ hi) : Kept lo hi w w2 :=
  ⟨Nat.le_trans h1.1 h2.1, fun b hb hor => by rw [h2.2 b (Nat.lt_of_lt_of_le hb h1.1) (by omega)]; exact h1.2 b hb (by omega)⟩
theorem Kept.of_below {lo hi : Nat} {w w1 w2 : World} (hb : Below w.heap.size w w1) (h : Kept lo hi w1 w2) : Kept lo hi w w2 :=
  ⟨Nat.le_trans hb.size h.1, fun b hlt hor => by rw [h.2 b (Nat.lt_of_lt_of_le hlt hb.size) hor]; exact hb.block b hlt⟩
theorem Kept.onto {lo hi : Nat} {w w1 w2 : World} (h : Kept lo hi w w1) (hb : Below w1.heap.size w1 w2) : Kept lo hi w w2 :=
  ⟨Nat.le_trans h.1 hb.size, fun b hlt hor => by rw [hb.block b (Nat.lt_of_lt_of_le hlt h.1)]; exact h.2 b hlt hor⟩
end Go.Proofs.Ytcohfbdhdngplaa
