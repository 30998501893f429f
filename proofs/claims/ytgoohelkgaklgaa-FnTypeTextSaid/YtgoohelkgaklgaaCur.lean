/-
  Proved: the cursor over the bytes of a draw: what it is in memory, and that each of its steps gives a byte (0 to 255) and changes the cursor alone. Nothing is said of which byte.
-/
import Derived.Test.YtgoohelkgaklgaaProg
import Derived.WalkKit
import Derived.WalkSpells
import Derived.WalkLawsBesides
import Derived.WalkSmall
import Derived.Maps.AppendAt
import Derived.Lib.Hide
import Derived.BigQuiet
import Derived.Deep.QuietTactic
namespace Go.Proofs.Ytgoohelkgaklgaa
open Go.RowKit

/-- A mask bounds what it lets through. -/
theorem and_mask (y m : Int) (h0 : 0 ≤ m) (h1 : m < 9223372036854775808) : 0 ≤ bits .and .i64 y m ∧ bits .and .i64 y m ≤ m := by
  have hm : (BitVec.ofInt 64 m).toNat = m.toNat := by
    rw [BitVec.toNat_ofInt]; congr 1; omega
  have hle : (BitVec.ofInt 64 y &&& BitVec.ofInt 64 m).toNat ≤ m.toNat := by
    rw [BitVec.toNat_and, ← hm]; exact Nat.and_le_right
  have e : bits .and .i64 y m = ((BitVec.ofInt 64 y &&& BitVec.ofInt 64 m).toNat : Int) := by
    show IntKind.i64.wrap ((BitVec.ofInt 64 y &&& BitVec.ofInt 64 m).toNat : Int) = _
    exact IntWalk.i64_in _ (by omega)
  rw [e]; omega

/-- Block p is a cursor over bytes that lie below block B. -/
structure Cur (B : Nat) (w : World) (p : Nat) : Prop where
  lo : B ≤ p
  row : ∃ (a : Option Addr) (n cap : Nat) (i : Nat) (h : Int), w.heap[p]? = some (.cells #[.slice a n cap, .int .i64 i, .int .i64 h] 55 (0, 0)) ∧ i ≤ n ∧ n ≤ 9223372036854775807 ∧
    ∀ j, j < n → ∃ (b off : Nat) (x : Int), a = some ⟨b, off, none⟩ ∧ b < B ∧ 0 ≤ x ∧ x ≤ 255 ∧ w.cell? ⟨b, off + j, none⟩ = some (.int .u8 x)

/-- A cursor after a step that changed the cursor alone. -/
theorem Cur.next {B : Nat} {w w' : World} {p : Nat} {a : Option Addr} {n cap i' : Nat} {h' : Int} (lo : B ≤ p) (hin : i' ≤ n) (hn : n ≤ 9223372036854775807)
    (hcode : ∀ j, j < n → ∃ (b off : Nat) (x : Int), a = some ⟨b, off, none⟩ ∧ b < B ∧ 0 ≤ x ∧ x ≤ 255 ∧ w.cell? ⟨b, off + j, none⟩ = some (.int .u8 x))
    (hrow : w'.heap[p]? = some (.cells #[.slice a n cap, .int .i64 i', .int .i64 h'] 55 (0, 0))) (hg : w.grownBy w' (some p)) : Cur B w' p := by
  refine ⟨lo, a, n, cap, i', h', hrow, hin, hn, fun j hj => ?_⟩
  obtain ⟨b, off, x, ha, hb, hx0, hx1, hc⟩ := hcode j hj
  exact ⟨b, off, x, ha, hb, hx0, hx1, hg.cell hc (by simp; omega)⟩
theorem grown_set (w : World) (p j : Nat) (u : Value) : w.grownBy (w.setCell ⟨p, j, none⟩ u) (some p) :=
  ⟨rfl, rfl, rfl, by simp, fun k _ hk => heap_setCell_other w ⟨p, j, none⟩ k u (fun e => hk (by simp [e]))⟩
theorem grown_draws {w w' : World} {p : Option Nat} (h : w.grownBy w' p) (n : Nat) : w.grownBy (w'.drewN n) p := ⟨h.os, h.tape, h.output, h.size, h.block⟩

/-- What a step ends in. -/
def StepEnd (B p : Nat) (lo hi : Int) (w : World) (e : Ending) (w' : World) : Prop :=
  ∃ x : Int, e = .returned (.int .i64 x) ∧ lo ≤ x ∧ x ≤ hi ∧ Cur B w' p ∧ w.grownBy w' (some p)

set_option maxRecDepth 100000 in
set_option maxHeartbeats 1000000 in
theorem curByte (B p : Nat) (w : World) (h : Cur B w p) :
    Calls Try.prog 53 #[.pointer (some ⟨p, 0, none⟩)] w (StepEnd B p 0 255 w) := by
  obtain ⟨lo, a, n, cap, i, h, hrow, hin, hn, hcode⟩ := h
  have c0 := cell_of_row w p 0 _ _ _ hrow
  have c1 := cell_of_row w p 1 _ _ _ hrow
  have c2 := cell_of_row w p 2 _ _ _ hrow
  have f1 := frozen_of_row w p 1 _ _ hrow
  have f2 := frozen_of_row w p 2 _ _ hrow
  have HR := Lib.hid hrow; clear hrow
  have HC := Lib.hid hcode; clear hcode
  go_enter Try.func53, Try.ntmps53
  go_wp2_with fail
  have hh : ∃ h1 : Int, h1 = wrap64 (wrap64 (h * 6364136223846793005) + 1442695040888963407) := ⟨_, rfl⟩
  obtain ⟨h1, hh⟩ := hh
  rw [← hh]
  clear hh
  go_quiet (fail)
  go_wp2_with fail
  obtain ⟨x, hx⟩ : ∃ x : Int, x = bits BinOp.and IntKind.i64 (bits BinOp.xor IntKind.i64 (h1 / 8589934592) (h1 / 35184372088832)) 255 := ⟨_, rfl⟩
  have hx0 := (and_mask (bits BinOp.xor IntKind.i64 (h1 / 8589934592) (h1 / 35184372088832)) 255 (by omega) (by omega))
  rw [← hx] at hx0 ⊢
  clear hx
  have w1row : ((w.setCell ⟨p, 2, none⟩ (.int .i64 h1)).drewN nq).heap[p]? = some (.cells #[.slice a n cap, .int .i64 i, .int .i64 h1] 55 (0, 0)) := by
    have := heap_setCell_same w p 2 _ 55 (.int .i64 h1) HR.out
    exact this
  have hg1 : w.grownBy ((w.setCell ⟨p, 2, none⟩ (.int .i64 h1)).drewN nq) (some p) := grown_draws (grown_set w p 2 _) nq
  generalize (w.setCell ⟨p, 2, none⟩ (.int .i64 h1)).drewN nq = w1 at w1row hg1 ⊢
  clear c0 c1 c2 f1 f2
  have c0 := cell_of_row w1 p 0 _ _ _ w1row
  have c1 := cell_of_row w1 p 1 _ _ _ w1row
  have f1 := frozen_of_row w1 p 1 _ _ w1row
  have HR1 := Lib.hid w1row; clear w1row
  have HG1 := Lib.hid hg1; clear hg1
  by_cases hlt : i < n
  · obtain ⟨b, off, y, rfl, hb, hy0, hy1, hcell⟩ := HC.out i hlt
    have c3 : w1.cell? ⟨b, off + i, none⟩ = some (.int .u8 y) := HG1.out.cell hcell (by simp; omega)
    clear hcell
    go_quiet (fail)
    go_wp2_with fail
    go_quiet (fail)
    go_wp2_with fail
    go_ret
    have hm := and_mask (x + y) 255 (by omega) (by omega)
    have hg2 : ∀ k, w.grownBy ((w1.drewN k).setCell ⟨p, 1, none⟩ (.int .i64 (i + 1))) (some p) := fun k =>
      (grown_draws HG1.out k).trans (grown_set _ p 1 _)
    refine ⟨_, rfl, hm.1, hm.2, Cur.next (w := w) (cap := cap) (i' := i + 1) (h' := h1) lo (by omega) hn HC.out ?_ (hg2 _), hg2 _⟩
    exact heap_setCell_same (w1.drewN _) p 1 _ 55 (.int .i64 (i + 1)) HR1.out
  · go_quiet (fail)
    go_wp2_with fail
    go_ret
    refine ⟨x, rfl, hx0.1, hx0.2, Cur.next (w := w) (cap := cap) (i' := i) (h' := h1) lo hin hn HC.out ?_ ?_, ?_⟩
    · exact HR1.out
    · exact grown_draws HG1.out _
    · exact grown_draws HG1.out _

set_option maxRecDepth 100000 in
set_option maxHeartbeats 1000000 in
theorem curBelow (B p : Nat) (n : Int) (hn0 : 0 < n) (hn1 : n ≤ 4000000000) (w : World) (h : Cur B w p) :
    Calls Try.prog 32 #[.pointer (some ⟨p, 0, none⟩), .int .i64 n] w (StepEnd B p 0 (n - 1) w) := by
  have HC := Lib.hid h; clear h
  by_cases hs : n ≤ 256
  · go_enter Try.func32, Try.ntmps32
    go_wp2_with fail
    refine (curByte B p _ HC.out).mono ?_
    rintro e w1 ⟨x, rfl, hx0, hx1, hc1, hg1⟩
    have H1 := Lib.hid hc1; clear hc1
    have G1 := Lib.hid hg1; clear hg1
    go_wp2_with fail
    go_ret
    exact ⟨x % n, rfl, Int.emod_nonneg x (by omega), by have := Int.emod_lt_of_pos x hn0; omega, H1.out, G1.out⟩
  · go_enter Try.func32, Try.ntmps32
    go_wp2_with fail
    refine (curByte B p _ HC.out).mono ?_
    rintro e w1 ⟨x, rfl, hx0, hx1, hc1, hg1⟩
    have H1 := Lib.hid hc1; clear hc1
    have G1 := Lib.hid hg1; clear hg1
    go_wp2_with fail
    refine (curByte B p _ H1.out).mono ?_
    rintro e w2 ⟨y, rfl, hy0, hy1, hc2, hg2⟩
    have H2 := Lib.hid hc2; clear hc2
    have G2 := Lib.hid (G1.out.trans hg2); clear hg2
    go_wp2_with fail
    refine (curByte B p _ H2.out).mono ?_
    rintro e w3 ⟨z, rfl, hz0, hz1, hc3, hg3⟩
    have H3 := Lib.hid hc3; clear hc3
    have G3 := Lib.hid (G2.out.trans hg3); clear hg3
    go_wp2_with fail
    refine (curByte B p _ H3.out).mono ?_
    rintro e w4 ⟨v, rfl, hv0, hv1, hc4, hg4⟩
    have H4 := Lib.hid hc4; clear hc4
    have G4 := Lib.hid (G3.out.trans hg4); clear hg4
    go_wp2_with fail
    go_ret
    exact ⟨_, rfl, Int.emod_nonneg _ (by omega), by have := Int.emod_lt_of_pos (x * 16777216 + y * 65536 + z * 256 + v) hn0; omega, H4.out, G4.out⟩
end Go.Proofs.Ytgoohelkgaklgaa
