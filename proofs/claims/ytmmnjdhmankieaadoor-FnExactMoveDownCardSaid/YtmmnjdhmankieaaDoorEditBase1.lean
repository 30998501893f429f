/-
  Proved: the table of arities reads as it is written while old memory stays.
-/
import Derived.Test.YtmmnjdhmankieaaDoorExprArg
import Derived.Test.YtmmnjdhmankieaaDoorInts
import Derived.Test.YtmmnjdhmankieaaDoorExTree
import Derived.Test.YtmmnjdhmankieaaDoorTree
import Derived.Test.YtmmnjdhmankieaaDoorProg
import Derived.WalkKit
import Derived.WalkSpells
import Derived.WalkLawsBesides
import Derived.WalkSmall
import Derived.Lib.Hide
import Derived.BigQuiet
import Derived.Deep.QuietTactic
import Derived.Test.YtmmnjdhmankieaaDoorLaw
import Derived.Test.YtmmnjdhmankieaaDoorSpecMax
import Derived.Test.YtmmnjdhmankieaaDoorOwnTree
import Derived.Test.YtmmnjdhmankieaaDoorPart
import Derived.Test.YtmmnjdhmankieaaDoorTyEq
import Derived.Test.YtmmnjdhmankieaaDoorEditAt
import Derived.Test.YtmmnjdhmankieaaDoorSpecExCopy
import Derived.Test.YtmmnjdhmankieaaDoorExIn
import Derived.Test.YtmmnjdhmankieaaDoorHold
import Derived.Test.YtmmnjdhmankieaaDoorPut
import Derived.Test.YtmmnjdhmankieaaDoorSzExpr
import Derived.Test.YtmmnjdhmankieaaDoorEditUp
import Derived.ArgAppend
import Derived.Laws.AppendOwn
import Derived.Test.YtmmnjdhmankieaaDoorSpecCopyEdit
import Derived.Deep.DeepCutAuto
import Derived.Test.YtmmnjdhmankieaaDoorIntsRow
import Derived.Test.YtmmnjdhmankieaaDoorTwo
import Derived.Laws.RangeAny
import Derived.Test.YtmmnjdhmankieaaDoorToType
/-
  Proved: plain facts on the node at a path; no program.
-/
namespace Go.Proofs.YtmmnjdhmankieaaDoor
open Go.RowKit

/-- The parts of an expression's root. -/
def Ex.parts : Ex → List Ex
  | .node _ _ _ _ es => es
/-- The node at a path. -/
def Ex.sub : Ex → List Int → Option Ex
  | e, [] => some e
  | e, p :: r => if 0 ≤ p then (match e.parts[p.toNat]? with | some x => x.sub r | none => none) else none
theorem sub_nil (e : Ex) : e.sub [] = some e := by unfold Ex.sub; rfl
theorem sub_step {e : Ex} {p : Int} {r : List Int} (h0 : 0 ≤ p) (h1 : p.toNat < e.parts.length) : e.sub (p :: r) = (e.parts[p.toNat]).sub r := by
  conv => lhs; unfold Ex.sub
  rw [if_pos h0, List.getElem?_eq_getElem h1]
theorem sub_low {e : Ex} {p : Int} {r : List Int} (h : p < 0) : e.sub (p :: r) = none := by
  unfold Ex.sub
  rw [if_neg (by omega)]
theorem sub_high {e : Ex} {p : Int} {r : List Int} (h : (e.parts.length : Int) ≤ p) : e.sub (p :: r) = none := by
  unfold Ex.sub
  rw [if_pos (by omega), List.getElem?_eq_none (by omega)]
theorem drop_at (ps : List Int) (k : Nat) (h : k < ps.length) : ps.drop k = ps[k] :: ps.drop (k + 1) := List.drop_eq_getElem_cons h
theorem part_bulk {e : Ex} {k : Nat} (h : k < e.parts.length) : (e.parts[k]).bulk ≤ e.bulk := by
  cases e with
  | node kd nm n ty es =>
    have h1 : k < es.length := h
    have := Ex.bulk_get es k h1
    show es[k].bulk ≤ nm.size + (ty.size - 1) + Ex.bulks es
    omega
/-- The parts of an expression in memory, one by one. -/
theorem ex_row {w : World} {d : Nat} {c0 c1 c2 c3 c4 : Value} {a : Option Addr} {m c : Nat} {e : Ex} (h : ExAt w d (.agg #[c0, c1, c2, c3, c4, .slice a m c]) e) :
    m = e.parts.length ∧ m ≤ c ∧ c ≤ 9223372036854775807 ∧ ∀ j (h : j < e.parts.length), ∃ b off x0 x1 x2 x3 x4 x5, a = some ⟨b, off, none⟩ ∧ b < w.heap.size ∧ w.cell? ⟨b, off + j * 6, none⟩ = some x0 ∧ w.cell? ⟨b, off + j * 6 + 1, none⟩ = some x1 ∧ w.cell? ⟨b, off + j * 6 + 2, none⟩ = some x2 ∧
      w.cell? ⟨b, off + j * 6 + 3, none⟩ = some x3 ∧ w.cell? ⟨b, off + j * 6 + 4, none⟩ = some x4 ∧ w.cell? ⟨b, off + j * 6 + 5, none⟩ = some x5 ∧ ExAt w d (.agg #[x0, x1, x2, x3, x4, x5]) e.parts[j] := by
  cases d with
  | zero => exact h.elim
  | succ d =>
    cases e with
    | node kd nm n ty es =>
      obtain ⟨z3, z4, sl, hv, _, _, _, _, _, _, a', cap', hs, hc, hc2, hat⟩ := h
      injection hv with hv
      injection hv with hv
      simp at hv
      obtain ⟨_, _, _, _, _, hsl⟩ := hv
      rw [hs] at hsl
      injection hsl with e1 e2 e3
      subst e1 e2 e3
      refine ⟨rfl, hc, hc2, fun j hj => ?_⟩
      obtain ⟨b, off, x0, x1, x2, x3, x4, x5, ha, hb, h0, h1, h2, h3, h4, h5, hr⟩ := hat j hj
      exact ⟨b, off, x0, x1, x2, x3, x4, x5, ha, hb, h0, h1, h2, h3, h4, h5, hr.succ⟩
end Go.Proofs.YtmmnjdhmankieaaDoor
/-
  Proved: plain facts on the size and the depth of expressions; spec.l1Bit; the memory that was there stays as it was.
-/
namespace Go.Proofs.YtmmnjdhmankieaaDoor
open Go.RowKit

mutual
/-- The nodes of an expression but its marks. -/
def Ex.count : Ex → Nat
  | .node k _ _ _ es => (if k = 14 then 0 else 1) + Ex.counts es
def Ex.counts : List Ex → Nat
  | [] => 0
  | e :: r => e.count + Ex.counts r
end
theorem Ex.counts_take (es : List Ex) : ∀ k (h : k < es.length), Ex.counts (es.take (k + 1)) = Ex.counts (es.take k) + es[k].count := by
  induction es with
  | nil => intro k h; simp at h
  | cons s r ih =>
    intro k h
    cases k with
    | zero => simp [Ex.counts]
    | succ k =>
      simp only [List.take_succ_cons, Ex.counts, List.getElem_cons_succ]
      rw [ih k (by simpa using h)]; omega
mutual
theorem Ex.count_le : ∀ e : Ex, e.count ≤ 1 + e.bulk
  | .node k nm n ty es => by have := Ex.counts_le es; simp only [Ex.count, Ex.bulk]; split <;> omega
theorem Ex.counts_le : ∀ es : List Ex, Ex.counts es ≤ Ex.bulks es
  | [] => Nat.le_refl _
  | e :: r => by have := Ex.count_le e; have := Ex.counts_le r; simp only [Ex.counts, Ex.bulks]; omega
end
theorem Ex.counts_part (es : List Ex) (k : Nat) : Ex.counts (es.take k) ≤ Ex.bulks es := Nat.le_trans (Ex.counts_le _) (Ex.bulks_le es k)
mutual
/-- The depth of an expression; marks do not count. -/
def Ex.high : Ex → Nat
  | .node k _ _ _ es => Ex.highs es + (if k = 14 then 0 else 1)
def Ex.highs : List Ex → Nat
  | [] => 0
  | e :: r => max e.high (Ex.highs r)
end
theorem Ex.highs_take (es : List Ex) : ∀ k (h : k < es.length), Ex.highs (es.take (k + 1)) = max (Ex.highs (es.take k)) es[k].high := by
  induction es with
  | nil => intro k h; simp at h
  | cons s r ih =>
    intro k h
    cases k with
    | zero => simp [Ex.highs]
    | succ k =>
      simp only [List.take_succ_cons, Ex.highs, List.getElem_cons_succ]
      rw [ih k (by simpa using h)]; omega
mutual
theorem Ex.high_le : ∀ e : Ex, e.high ≤ 1 + e.bulk
  | .node k nm n ty es => by have := Ex.highs_le es; simp only [Ex.high, Ex.bulk]; split <;> omega
theorem Ex.highs_le : ∀ es : List Ex, Ex.highs es ≤ Ex.bulks es
  | [] => Nat.le_refl _
  | e :: r => by have := Ex.high_le e; have := Ex.highs_le r; simp only [Ex.highs, Ex.bulks]; omega
end
theorem Ex.highs_part (es : List Ex) (k : Nat) : Ex.highs (es.take k) ≤ Ex.bulks es := Nat.le_trans (Ex.highs_le _) (Ex.bulks_le es k)
theorem specBit (b : Bool) (w : World) : Calls Tryd.prog 86 #[.bool b] w fun e w' => e = .returned (.int .i64 (if b then 1 else 0)) ∧ w' = w := by
  cases b
  · go_enter Tryd.func86, Tryd.ntmps86
    go_wp2_with fail
    go_ret
    exact ⟨rfl, rfl⟩
  · go_enter Tryd.func86, Tryd.ntmps86
    go_wp2_with fail
    go_ret
    exact ⟨rfl, rfl⟩
end Go.Proofs.YtmmnjdhmankieaaDoor
/-
  Proved: plain facts on names; the memory that was there stays as it was.
-/
namespace Go.Proofs.YtmmnjdhmankieaaDoor
open Go.RowKit

/-- May the byte c stand at place k of a name? -/
def okAt (c k : Nat) : Bool := (decide (97 ≤ c) && decide (c ≤ 122)) || (decide (1 ≤ k) && (decide (48 ≤ c) && decide (c ≤ 57)))
/-- The first n bytes may stand in a name. -/
def okB (s : ByteArray) : Nat → Bool
  | 0 => true
  | n + 1 => okB s n && (if h : n < s.size then okAt (s[n]'h).toNat n else true)
theorem okB_succ (s : ByteArray) (n : Nat) (h : n < s.size) : okB s (n + 1) = (okB s n && okAt (s[n]'h).toNat n) := by simp [okB, h]
theorem okB_false (s : ByteArray) : ∀ (n m : Nat), okB s n = false → n ≤ m → okB s m = false := by
  intro n m h hm
  induction hm with
  | refl => exact h
  | step _ ih => simp [okB, ih]
theorem okAt_letter {c k : Nat} (h1 : 97 ≤ c) (h2 : c ≤ 122) : okAt c k = true := by simp [okAt, h1, h2]
theorem okAt_digit {c k : Nat} (hk : 1 ≤ k) (h1 : 48 ≤ c) (h2 : c ≤ 57) : okAt c k = true := by simp [okAt, hk, h1, h2]
theorem okAt_bad {c k : Nat} (h1 : c < 97 ∨ 122 < c) (h2 : k = 0 ∨ c < 48 ∨ 57 < c) : okAt c k = false := by
  unfold okAt
  simp only [Bool.or_eq_false_iff, Bool.and_eq_false_iff, decide_eq_false_iff_not]
  omega
def wordB (s : ByteArray) : Bool := (s.toList == [105, 102]) || ((s.toList == [102, 115, 116]) || (s.toList == [115, 110, 100]))
/-- A name: one to five small letters and digits, a letter first; none of the three words. -/
def nameB (s : ByteArray) : Bool := decide (1 ≤ s.size) && (decide (s.size ≤ 5) && (!(wordB s) && okB s s.size))
theorem size_of_toList (s : ByteArray) : s.toList.length = s.size := by rw [ByteArray.toList_eq]; simp
theorem toList_empty {s : ByteArray} (h : s.toList = []) : s.size = 0 := by rw [← size_of_toList, h]; rfl
theorem toList_some {s : ByteArray} (h : 1 ≤ s.size) : (s.toList == []) = false := beq_false_of_ne fun e => by have := toList_empty e; omega
end Go.Proofs.YtmmnjdhmankieaaDoor
/-
  Proved: spec.l1In says whether a number lies between two others; the world stays as it was.
-/
namespace Go.Proofs.YtmmnjdhmankieaaDoor
open Go.RowKit

set_option maxRecDepth 100000 in
theorem specIn (a b c : Int) (w : World) : Calls Tryd.prog 77 #[.int .i64 a, .int .i64 b, .int .i64 c] w fun e w' => e = .returned (.bool (decide (b ≤ a) && decide (a ≤ c))) ∧ w' = w := by
  by_cases h1 : b ≤ a
  · by_cases h2 : a ≤ c
    · go_enter Tryd.func77, Tryd.ntmps77
      go_wp2_with fail
      go_ret
      exact ⟨by simp [h1, h2], rfl⟩
    · go_enter Tryd.func77, Tryd.ntmps77
      go_wp2_with fail
      go_ret
      exact ⟨by simp [h2], rfl⟩
  · go_enter Tryd.func77, Tryd.ntmps77
    go_wp2_with fail
    go_ret
    exact ⟨by simp; intro; omega, rfl⟩
end Go.Proofs.YtmmnjdhmankieaaDoor
/-
  Proved: impl.ArityOf and spec.ArityOf give the number of Args of a kind; the memory that was there stays as it was.
-/
namespace Go.Proofs.YtmmnjdhmankieaaDoor
open Go.RowKit

/-- The numbers of Args, by kind. -/
abbrev arTab : List Int := [0, 0, 0, 1, 2, 0, 2, 2, 0, 3, 2, 1, 1, 1, 1]
def arity (n : Int) : Int := if 1 ≤ n ∧ n ≤ 14 then arTab.getD n.toNat 0 else -1
theorem arity_out {n : Int} (h : ¬ (1 ≤ n ∧ n ≤ 14)) : arity n = -1 := if_neg h
set_option maxRecDepth 100000 in
set_option maxHeartbeats 2000000 in
theorem implArity (n : Int) (w : World) (htab : Lib.TabIs Tryd.prog w "loop.example/g00585/impl.arities" .i64 arTab) :
    Calls Tryd.prog 89 #[.int .i64 n] w fun e w' => e = .returned (.int .i64 (arity n)) ∧ Below w.heap.size w w' := by
  have hg : Tryd.prog.globalNamed "loop.example/g00585/impl.arities" = some 1 := by kernel_rfl
  by_cases q : 1 ≤ n ∧ n ≤ 14
  · rcases (by omega : n = 1 ∨ n = 2 ∨ n = 3 ∨ n = 4 ∨ n = 5 ∨ n = 6 ∨ n = 7 ∨ n = 8 ∨ n = 9 ∨ n = 10 ∨ n = 11 ∨ n = 12 ∨ n = 13 ∨ n = 14) with rfl | rfl | rfl | rfl | rfl | rfl | rfl | rfl | rfl | rfl | rfl | rfl | rfl | rfl
    · have c := htab.cell hg 1 (by decide)
      go_enter Tryd.func89, Tryd.ntmps89
      go_wp2_with fail
      go_ret
      exact ⟨rfl, Below.refl _ _⟩
    · have c := htab.cell hg 2 (by decide)
      go_enter Tryd.func89, Tryd.ntmps89
      go_wp2_with fail
      go_ret
      exact ⟨rfl, Below.refl _ _⟩
    · have c := htab.cell hg 3 (by decide)
      go_enter Tryd.func89, Tryd.ntmps89
      go_wp2_with fail
      go_ret
      exact ⟨rfl, Below.refl _ _⟩
    · have c := htab.cell hg 4 (by decide)
      go_enter Tryd.func89, Tryd.ntmps89
      go_wp2_with fail
      go_ret
      exact ⟨rfl, Below.refl _ _⟩
    · have c := htab.cell hg 5 (by decide)
      go_enter Tryd.func89, Tryd.ntmps89
      go_wp2_with fail
      go_ret
      exact ⟨rfl, Below.refl _ _⟩
    · have c := htab.cell hg 6 (by decide)
      go_enter Tryd.func89, Tryd.ntmps89
      go_wp2_with fail
      go_ret
      exact ⟨rfl, Below.refl _ _⟩
    · have c := htab.cell hg 7 (by decide)
      go_enter Tryd.func89, Tryd.ntmps89
      go_wp2_with fail
      go_ret
      exact ⟨rfl, Below.refl _ _⟩
    · have c := htab.cell hg 8 (by decide)
      go_enter Tryd.func89, Tryd.ntmps89
      go_wp2_with fail
      go_ret
      exact ⟨rfl, Below.refl _ _⟩
    · have c := htab.cell hg 9 (by decide)
      go_enter Tryd.func89, Tryd.ntmps89
      go_wp2_with fail
      go_ret
      exact ⟨rfl, Below.refl _ _⟩
    · have c := htab.cell hg 10 (by decide)
      go_enter Tryd.func89, Tryd.ntmps89
      go_wp2_with fail
      go_ret
      exact ⟨rfl, Below.refl _ _⟩
    · have c := htab.cell hg 11 (by decide)
      go_enter Tryd.func89, Tryd.ntmps89
      go_wp2_with fail
      go_ret
      exact ⟨rfl, Below.refl _ _⟩
    · have c := htab.cell hg 12 (by decide)
      go_enter Tryd.func89, Tryd.ntmps89
      go_wp2_with fail
      go_ret
      exact ⟨rfl, Below.refl _ _⟩
    · have c := htab.cell hg 13 (by decide)
      go_enter Tryd.func89, Tryd.ntmps89
      go_wp2_with fail
      go_ret
      exact ⟨rfl, Below.refl _ _⟩
    · have c := htab.cell hg 14 (by decide)
      go_enter Tryd.func89, Tryd.ntmps89
      go_wp2_with fail
      go_ret
      exact ⟨rfl, Below.refl _ _⟩
  · by_cases q1 : n < 1
    · go_enter Tryd.func89, Tryd.ntmps89
      go_wp2_with fail
      go_ret
      exact ⟨by rw [arity_out q]; rfl, Below.refl _ _⟩
    · have q2 : 14 < n := by omega
      go_enter Tryd.func89, Tryd.ntmps89
      go_wp2_with fail
      go_ret
      exact ⟨by rw [arity_out q]; rfl, Below.refl _ _⟩
set_option maxRecDepth 100000 in
set_option maxHeartbeats 2000000 in
theorem specArity (n : Int) (w : World) :
    Calls Tryd.prog 88 #[.int .i64 n] w fun e w' => e = .returned (.int .i64 (arity n)) ∧ Below w.heap.size w w' := by
  by_cases q : 1 ≤ n ∧ n ≤ 14
  · rcases (by omega : n = 1 ∨ n = 2 ∨ n = 3 ∨ n = 4 ∨ n = 5 ∨ n = 6 ∨ n = 7 ∨ n = 8 ∨ n = 9 ∨ n = 10 ∨ n = 11 ∨ n = 12 ∨ n = 13 ∨ n = 14) with rfl | rfl | rfl | rfl | rfl | rfl | rfl | rfl | rfl | rfl | rfl | rfl | rfl | rfl
    · go_enter Tryd.func88, Tryd.ntmps88
      go_wp2_with fail
      refine (specIn _ _ _ _).mono ?_
      rintro e w1 ⟨rfl, rfl⟩
      go_wp2_with fail
      go_ret
      exact ⟨rfl, (Below.refl _ _).alloc (Nat.le_refl _) _⟩
    · go_enter Tryd.func88, Tryd.ntmps88
      go_wp2_with fail
      refine (specIn _ _ _ _).mono ?_
      rintro e w1 ⟨rfl, rfl⟩
      go_wp2_with fail
      go_ret
      exact ⟨rfl, (Below.refl _ _).alloc (Nat.le_refl _) _⟩
    · go_enter Tryd.func88, Tryd.ntmps88
      go_wp2_with fail
      refine (specIn _ _ _ _).mono ?_
      rintro e w1 ⟨rfl, rfl⟩
      go_wp2_with fail
      go_ret
      exact ⟨rfl, (Below.refl _ _).alloc (Nat.le_refl _) _⟩
    · go_enter Tryd.func88, Tryd.ntmps88
      go_wp2_with fail
      refine (specIn _ _ _ _).mono ?_
      rintro e w1 ⟨rfl, rfl⟩
      go_wp2_with fail
      go_ret
      exact ⟨rfl, (Below.refl _ _).alloc (Nat.le_refl _) _⟩
    · go_enter Tryd.func88, Tryd.ntmps88
      go_wp2_with fail
      refine (specIn _ _ _ _).mono ?_
      rintro e w1 ⟨rfl, rfl⟩
      go_wp2_with fail
      go_ret
      exact ⟨rfl, (Below.refl _ _).alloc (Nat.le_refl _) _⟩
    · go_enter Tryd.func88, Tryd.ntmps88
      go_wp2_with fail
      refine (specIn _ _ _ _).mono ?_
      rintro e w1 ⟨rfl, rfl⟩
      go_wp2_with fail
      go_ret
      exact ⟨rfl, (Below.refl _ _).alloc (Nat.le_refl _) _⟩
    · go_enter Tryd.func88, Tryd.ntmps88
      go_wp2_with fail
      refine (specIn _ _ _ _).mono ?_
      rintro e w1 ⟨rfl, rfl⟩
      go_wp2_with fail
      go_ret
      exact ⟨rfl, (Below.refl _ _).alloc (Nat.le_refl _) _⟩
    · go_enter Tryd.func88, Tryd.ntmps88
      go_wp2_with fail
      refine (specIn _ _ _ _).mono ?_
      rintro e w1 ⟨rfl, rfl⟩
      go_wp2_with fail
      go_ret
      exact ⟨rfl, (Below.refl _ _).alloc (Nat.le_refl _) _⟩
    · go_enter Tryd.func88, Tryd.ntmps88
      go_wp2_with fail
      refine (specIn _ _ _ _).mono ?_
      rintro e w1 ⟨rfl, rfl⟩
      go_wp2_with fail
      go_ret
      exact ⟨rfl, (Below.refl _ _).alloc (Nat.le_refl _) _⟩
    · go_enter Tryd.func88, Tryd.ntmps88
      go_wp2_with fail
      refine (specIn _ _ _ _).mono ?_
      rintro e w1 ⟨rfl, rfl⟩
      go_wp2_with fail
      go_ret
      exact ⟨rfl, (Below.refl _ _).alloc (Nat.le_refl _) _⟩
    · go_enter Tryd.func88, Tryd.ntmps88
      go_wp2_with fail
      refine (specIn _ _ _ _).mono ?_
      rintro e w1 ⟨rfl, rfl⟩
      go_wp2_with fail
      go_ret
      exact ⟨rfl, (Below.refl _ _).alloc (Nat.le_refl _) _⟩
    · go_enter Tryd.func88, Tryd.ntmps88
      go_wp2_with fail
      refine (specIn _ _ _ _).mono ?_
      rintro e w1 ⟨rfl, rfl⟩
      go_wp2_with fail
      go_ret
      exact ⟨rfl, (Below.refl _ _).alloc (Nat.le_refl _) _⟩
    · go_enter Tryd.func88, Tryd.ntmps88
      go_wp2_with fail
      refine (specIn _ _ _ _).mono ?_
      rintro e w1 ⟨rfl, rfl⟩
      go_wp2_with fail
      go_ret
      exact ⟨rfl, (Below.refl _ _).alloc (Nat.le_refl _) _⟩
    · go_enter Tryd.func88, Tryd.ntmps88
      go_wp2_with fail
      refine (specIn _ _ _ _).mono ?_
      rintro e w1 ⟨rfl, rfl⟩
      go_wp2_with fail
      go_ret
      exact ⟨rfl, (Below.refl _ _).alloc (Nat.le_refl _) _⟩
  · have q3 : (decide (1 ≤ n) && decide (n ≤ 14)) = false := by
      by_cases a : 1 ≤ n
      · have b : ¬ n ≤ 14 := fun b => q ⟨a, b⟩
        simp [b]
      · simp [a]
    go_enter Tryd.func88, Tryd.ntmps88
    go_wp2_with fail
    refine (specIn _ _ _ _).mono ?_
    rintro e w1 ⟨rfl, rfl⟩
    go_wp2_with fail
    go_ret
    exact ⟨by rw [arity_out q]; rfl, Below.refl _ _⟩
end Go.Proofs.YtmmnjdhmankieaaDoor
/-
  Proved: spec.DepthOfType returns the depth of every tree of at most 2^60 nodes, and leaves the memory that was there as it was.
-/
namespace Go.Proofs.YtmmnjdhmankieaaDoor
open Go.RowKit

mutual
def Ty.depth : Ty → Nat
  | .node _ ts => 1 + Ty.depths ts
def Ty.depths : List Ty → Nat
  | [] => 0
  | t :: r => max t.depth (Ty.depths r)
end
theorem Ty.depths_take (ts : List Ty) : ∀ k (h : k < ts.length), Ty.depths (ts.take (k + 1)) = max (Ty.depths (ts.take k)) ts[k].depth := by
  induction ts with
  | nil => intro k h; simp at h
  | cons s r ih =>
    intro k h
    cases k with
    | zero => simp [Ty.depths]
    | succ k =>
      simp only [List.take_succ_cons, Ty.depths, List.getElem_cons_succ]
      rw [ih k (by simpa using h)]; omega
mutual
theorem Ty.depth_le : ∀ t : Ty, t.depth ≤ t.size
  | .node _ ts => by have := Ty.depths_le ts; simp only [Ty.depth, Ty.size]; omega
theorem Ty.depths_le : ∀ ts : List Ty, Ty.depths ts ≤ Ty.sizes ts
  | [] => Nat.le_refl _
  | t :: r => by have := Ty.depth_le t; have := Ty.depths_le r; simp only [Ty.depths, Ty.sizes]; omega
end

set_option maxRecDepth 100000 in
set_option maxHeartbeats 1000000 in
theorem specDepth : ∀ (d : Nat) (v : Value) (t : Ty) (w : World), TyAt w d v t → t.size ≤ 1152921504606846976 →
    Calls Tryd.prog 63 #[v] w fun e w' => e = .returned (.int .i64 (t.depth : Int)) ∧ Below w.heap.size w w'
  | 0, _, _, _, h, _ => h.elim
  | d + 1, v, .node kd ts, w, h, hsz => by
    have IH : Hid (∀ (v : Value) (t : Ty) (w : World), TyAt w d v t → t.size ≤ 1152921504606846976 → Calls Tryd.prog 63 #[v] w fun e w' => e = .returned (.int .i64 (t.depth : Int)) ∧ Below w.heap.size w w') := specDepth d
    obtain ⟨sl, rfl, hk0, hk1, a, cap, rfl, hcap, hcap2, hat⟩ := h
    have HAT := Lib.hid hat; clear hat
    have hlen : ts.length ≤ 1152921504606846976 := by have := Ty.length_le ts; simp [Ty.size] at hsz; omega
    have HSZ : Hid (Ty.sizes ts + 1 ≤ 1152921504606846976) := by simp [Ty.size] at hsz; show _ ≤ _; omega
    clear hsz
    go_enter Tryd.func63, Tryd.ntmps63
    go_wp2_with fail
    go_loopw [3, 4] (fun n i wr => ∃ k : Nat, k ≤ ts.length ∧ i = .int .i64 k ∧ n = .int .i64 (Ty.depths (ts.take k) : Int) ∧ Below (w.heap.size + 1) (w.alloc (.cells #[.int .i64 kd, .slice a ts.length cap] 34)) wr) (fun _ i _ => ts.length - (intOf i).toNat)
    case atStart => exact ⟨0, by omega, rfl, by simp [Ty.depths], Below.refl _ _⟩
    case round =>
      obtain ⟨k, hk, rfl, rfl, hb⟩ := hrel
      have c1 := box_cell hb 1
      have HB := Lib.hid (box_below hb)
      have HBX := Lib.hid hb; clear hb
      have HS1 := Ty.sizes_le ts k
      have HS2 := HSZ.out
      by_cases hlt : k < ts.length
      · obtain ⟨b, off, x0, x1, rfl, hbl, hc0, hc1, ht⟩ := HAT.out k hlt
        have hg := Ty.size_get ts k hlt
        have e0 : wr.cell? ⟨b, off + k * 2, none⟩ = some x0 := by rw [HB.out.cell (p := ⟨b, off + k * 2, none⟩) hbl]; exact hc0
        have e1 : wr.cell? ⟨b, off + k * 2 + 1, none⟩ = some x1 := by rw [HB.out.cell (p := ⟨b, off + k * 2 + 1, none⟩) hbl]; exact hc1
        have HT := Lib.hid (ht.below HB.out)
        clear ht hc0 hc1
        go_wp2_with fail
        refine (IH.out _ _ wr HT.out (by omega)).mono ?_
        rintro e w' ⟨rfl, hb1⟩
        have HN := Lib.hid (box_next HBX.out hb1)
        have HT2 := Lib.hid (Ty.depths_take ts k hlt)
        have D1 : Ty.depths (ts.take k) ≤ 1152921504606846976 := by have := Ty.depths_le (ts.take k); omega
        have D2 : ts[k].depth ≤ 1152921504606846976 := by have := ts[k].depth_le; omega
        clear hb1
        go_wp2_with fail
        refine (specMax _ _ w').mono ?_
        rintro e w2 ⟨rfl, rfl⟩
        go_wp2_with fail
        exact ⟨⟨k + 1, by omega, by go_num, by rw [HT2.out]; go_num, HN.out⟩, by simp [intOf]; omega⟩
      · obtain rfl : k = ts.length := by omega
        have D1 : Ty.depths (ts.take ts.length) ≤ 1152921504606846976 := by have := Ty.depths_le (ts.take ts.length); omega
        rw [List.take_length] at D1 ⊢
        go_wp2_with fail
        go_ret
        refine ⟨?_, HB.out⟩
        show Ending.returned (.int .i64 ((Ty.depths ts : Int) + 1)) = Ending.returned (.int .i64 ((1 + Ty.depths ts : Nat) : Int))
        rw [show ((1 + Ty.depths ts : Nat) : Int) = (Ty.depths ts : Int) + 1 from by omega]
end Go.Proofs.YtmmnjdhmankieaaDoor
/-
  Proved: spec.l3Form says whether every node of a tree has as many parts as its kind asks, and spec.l3Left takes a tree's nodes from what is left; both leave the memory that was there as it was.
-/
namespace Go.Proofs.YtmmnjdhmankieaaDoor
open Go.RowKit

/-- A node of kind k has n parts: none for the kinds 1 to 3, two for 4 and 5; there is no other kind. -/
def kindOk (k : Int) (n : Nat) : Bool := if k = 1 ∨ k = 2 ∨ k = 3 then decide (n = 0) else if k = 4 ∨ k = 5 then decide (n = 2) else false
theorem len0 (n : Nat) : ((n : Int) == 0) = decide (n = 0) := by
  by_cases h : n = 0
  · subst h; rfl
  · rw [decide_eq_false h]; exact beq_false_of_ne (by omega)
theorem len2 (n : Nat) : ((n : Int) == 2) = decide (n = 2) := by
  by_cases h : n = 2
  · subst h; rfl
  · rw [decide_eq_false h]; exact beq_false_of_ne (by omega)
mutual
def Ty.form : Ty → Bool
  | .node k ts => Ty.forms ts && kindOk k ts.length
def Ty.forms : List Ty → Bool
  | [] => true
  | t :: r => t.form && Ty.forms r
end
theorem Ty.forms_take (ts : List Ty) : ∀ k (h : k < ts.length), Ty.forms (ts.take (k + 1)) = (Ty.forms (ts.take k) && ts[k].form) := by
  induction ts with
  | nil => intro k h; simp at h
  | cons s r ih =>
    intro k h
    cases k with
    | zero => simp [Ty.forms]
    | succ k =>
      simp only [List.take_succ_cons, Ty.forms, List.getElem_cons_succ]
      rw [ih k (by simpa using h), Bool.and_assoc]
theorem Ty.forms_false (ts : List Ty) (k : Nat) (h : Ty.forms (ts.take k) = false) : Ty.forms ts = false := by
  induction ts generalizing k with
  | nil => simp [Ty.forms] at h
  | cons s r ih =>
    cases k with
    | zero => simp [Ty.forms] at h
    | succ k =>
      simp only [List.take_succ_cons, Ty.forms, Bool.and_eq_false_iff] at h ⊢
      rcases h with h | h
      · exact Or.inl h
      · exact Or.inr (ih k h)

set_option maxRecDepth 100000 in
set_option maxHeartbeats 2000000 in
theorem specForm : ∀ (d : Nat) (v : Value) (t : Ty) (w : World), TyAt w d v t → t.size ≤ 1152921504606846976 →
    Calls Tryd.prog 64 #[v] w fun e w' => e = .returned (.bool t.form) ∧ Below w.heap.size w w'
  | 0, _, _, _, h, _ => h.elim
  | d + 1, v, .node kd ts, w, h, hsz => by
    have IH : Hid (∀ (v : Value) (t : Ty) (w : World), TyAt w d v t → t.size ≤ 1152921504606846976 → Calls Tryd.prog 64 #[v] w fun e w' => e = .returned (.bool t.form) ∧ Below w.heap.size w w') := specForm d
    obtain ⟨sl, rfl, hk0, hk1, a, cap, rfl, hcap, hcap2, hat⟩ := h
    have HAT := Lib.hid hat; clear hat
    have hlen : ts.length ≤ 1152921504606846976 := by have := Ty.length_le ts; simp [Ty.size] at hsz; omega
    have HSZ : Hid (Ty.sizes ts + 1 ≤ 1152921504606846976) := by simp [Ty.size] at hsz; show _ ≤ _; omega
    clear hsz
    go_enter Tryd.func64, Tryd.ntmps64
    go_wp2_with fail
    go_loopw [3] (fun i wr => ∃ k : Nat, k ≤ ts.length ∧ i = .int .i64 k ∧ Ty.forms (ts.take k) = true ∧ Below (w.heap.size + 1) (w.alloc (.cells #[.int .i64 kd, .slice a ts.length cap] 34)) wr) (fun i _ => ts.length - (intOf i).toNat)
    case atStart => exact ⟨0, by omega, rfl, by simp [Ty.forms], Below.refl _ _⟩
    case round =>
      obtain ⟨k, hk, rfl, hf, hb⟩ := hrel
      have HF := Lib.hid hf; clear hf
      have c0 := box_cell hb 0
      have c1 := box_cell hb 1
      have HB := Lib.hid (box_below hb)
      have HBX := Lib.hid hb; clear hb
      have HS2 := HSZ.out
      by_cases hlt : k < ts.length
      · obtain ⟨b, off, x0, x1, rfl, hbl, hc0, hc1, ht⟩ := HAT.out k hlt
        have hg := Ty.size_get ts k hlt
        have e0 : wr.cell? ⟨b, off + k * 2, none⟩ = some x0 := by rw [HB.out.cell (p := ⟨b, off + k * 2, none⟩) hbl]; exact hc0
        have e1 : wr.cell? ⟨b, off + k * 2 + 1, none⟩ = some x1 := by rw [HB.out.cell (p := ⟨b, off + k * 2 + 1, none⟩) hbl]; exact hc1
        have HT := Lib.hid (ht.below HB.out)
        clear ht hc0 hc1
        go_wp2_with fail
        refine (IH.out _ _ wr HT.out (by omega)).mono ?_
        rintro e w' ⟨rfl, hb1⟩
        have HN := Lib.hid (box_next HBX.out hb1); clear hb1
        have HT2 := Lib.hid (Ty.forms_take ts k hlt)
        cases hfk : ts[k].form with
        | true =>
          have HFK := Lib.hid hfk; clear hfk
          go_wp2_with fail
          exact ⟨⟨k + 1, by omega, by go_num, by rw [HT2.out, HF.out, HFK.out]; rfl, HN.out⟩, by simp [intOf]; omega⟩
        | false =>
          have HFK := Lib.hid hfk; clear hfk
          go_wp2_with fail
          go_ret
          have e : Ty.forms ts = false := Ty.forms_false ts (k + 1) (by rw [HT2.out, HF.out, HFK.out]; rfl)
          exact ⟨by simp [Ty.form, e], box_below HN.out⟩
      · obtain rfl : k = ts.length := by omega
        have HFT : Hid (Ty.forms ts = true) := by have := HF.out; rw [List.take_length] at this; exact this
        have done : ∀ b, kindOk kd ts.length = b → (Ty.node kd ts).form = b := fun b h => by simp [Ty.form, HFT.out, h]
        have HD := Lib.hid done; clear done
        by_cases q1 : kd = 1
        · subst q1
          go_wp2_with fail
          go_ret
          exact ⟨by rw [HD.out _ rfl]; simp [kindOk, -List.length_eq_zero_iff, len0], HB.out⟩
        · by_cases q2 : kd = 2
          · subst q2
            go_wp2_with fail
            go_ret
            exact ⟨by rw [HD.out _ rfl]; simp [kindOk, -List.length_eq_zero_iff, len0], HB.out⟩
          · by_cases q3 : kd = 3
            · subst q3
              go_wp2_with fail
              go_ret
              exact ⟨by rw [HD.out _ rfl]; simp [kindOk, -List.length_eq_zero_iff, len0], HB.out⟩
            · by_cases q4 : kd = 4
              · subst q4
                go_wp2_with fail
                go_ret
                exact ⟨by rw [HD.out _ rfl]; simp [kindOk, -List.length_eq_zero_iff, len2], HB.out⟩
              · by_cases q5 : kd = 5
                · subst q5
                  go_wp2_with fail
                  go_ret
                  exact ⟨by rw [HD.out _ rfl]; simp [kindOk, -List.length_eq_zero_iff, len2], HB.out⟩
                · go_wp2_with fail
                  go_ret
                  exact ⟨by rw [HD.out _ rfl]; simp [kindOk, q1, q2, q3, q4, q5], HB.out⟩
end Go.Proofs.YtmmnjdhmankieaaDoor
/-
  Proved: spec.l3Left takes a tree's nodes from what is left, and spec.IsValidType says whether a tree is a valid type; both leave the memory that was there as it was.
-/
namespace Go.Proofs.YtmmnjdhmankieaaDoor
open Go.RowKit

/-- What is left behind n nodes; -1 where there were more than that. -/
def leftOf (n : Nat) (left : Int) : Int := if (n : Int) ≤ left then left - n else -1
theorem leftOf_add (n p : Nat) (left : Int) (h : 0 ≤ leftOf n left) : leftOf p (leftOf n left) = leftOf (n + p) left := by
  unfold leftOf at h ⊢
  split at h
  · rename_i h1
    rw [if_pos h1]
    by_cases h2 : (p : Int) ≤ left - n
    · rw [if_pos h2, if_pos (by omega)]; omega
    · rw [if_neg h2, if_neg (by omega)]
  · omega
theorem leftOf_neg (n p : Nat) (left : Int) (h : leftOf n left < 0) (hp : n ≤ p) : leftOf n left = leftOf p left := by
  unfold leftOf at h ⊢
  split at h
  · omega
  · rename_i h1
    rw [if_neg h1, if_neg (by omega)]
theorem leftOf_bound (n : Nat) (left : Int) (hl : 0 ≤ left) : -1 ≤ leftOf n left ∧ leftOf n left ≤ left := by
  unfold leftOf; split <;> omega

set_option maxRecDepth 100000 in
set_option maxHeartbeats 2000000 in
theorem specLeft : ∀ (d : Nat) (v : Value) (t : Ty) (left : Int) (w : World), 0 ≤ left → left ≤ 1048576 → TyAt w d v t → t.size ≤ 1152921504606846976 →
    Calls Tryd.prog 62 #[v, .int .i64 left] w fun e w' => e = .returned (.int .i64 (leftOf t.size left)) ∧ Below w.heap.size w w'
  | 0, _, _, _, _, _, _, h, _ => h.elim
  | d + 1, v, .node kd ts, left, w, hl0, hl1, h, hsz => by
    have IH : Hid (∀ (v : Value) (t : Ty) (left : Int) (w : World), 0 ≤ left → left ≤ 1048576 → TyAt w d v t → t.size ≤ 1152921504606846976 → Calls Tryd.prog 62 #[v, .int .i64 left] w fun e w' => e = .returned (.int .i64 (leftOf t.size left)) ∧ Below w.heap.size w w') := specLeft d
    obtain ⟨sl, rfl, hk0, hk1, a, cap, rfl, hcap, hcap2, hat⟩ := h
    have HAT := Lib.hid hat; clear hat
    have hlen : ts.length ≤ 1152921504606846976 := by have := Ty.length_le ts; simp [Ty.size] at hsz; omega
    have HSZ : Hid (Ty.sizes ts + 1 ≤ 1152921504606846976) := by simp [Ty.size] at hsz; show _ ≤ _; omega
    clear hsz
    go_enter Tryd.func62, Tryd.ntmps62
    go_wp2_with fail
    go_loopw [1, 5] (fun l i wr => ∃ (k : Nat) (m : Int), k ≤ ts.length ∧ i = .int .i64 k ∧ l = .int .i64 m ∧ m = leftOf (1 + Ty.sizes (ts.take k)) left ∧ Below (w.heap.size + 1) (w.alloc (.cells #[.int .i64 kd, .slice a ts.length cap] 34)) wr) (fun _ i _ => ts.length - (intOf i).toNat)
    case atStart => exact ⟨0, left - 1, by omega, rfl, rfl, by simp [Ty.sizes, leftOf]; omega, Below.refl _ _⟩
    case round =>
      obtain ⟨k, m, hk, rfl, rfl, hm, hb⟩ := hrel
      have HM := Lib.hid hm; clear hm
      have mb : -1 ≤ m ∧ m ≤ 1048576 := by have := leftOf_bound (1 + Ty.sizes (ts.take k)) left hl0; rw [HM.out]; omega
      obtain ⟨mb0, mb1⟩ := mb
      have c1 := box_cell hb 1
      have HB := Lib.hid (box_below hb)
      have HBX := Lib.hid hb; clear hb
      by_cases hlt : k < ts.length
      · by_cases hneg : m < 0
        · have hfin : m = leftOf (1 + Ty.sizes ts) left := by
            have h1 := HM.out
            have h2 := Ty.sizes_le ts k
            rw [h1]; rw [h1] at hneg
            exact leftOf_neg _ _ left hneg (by omega)
          have HFIN := Lib.hid hfin; clear hfin
          go_wp2_with fail
          go_ret
          exact ⟨by rw [HFIN.out]; rfl, HB.out⟩
        · obtain ⟨b, off, x0, x1, rfl, hbl, hc0, hc1, ht⟩ := HAT.out k hlt
          have hg := Ty.size_get ts k hlt
          have HS2 := HSZ.out
          have e0 : wr.cell? ⟨b, off + k * 2, none⟩ = some x0 := by rw [HB.out.cell (p := ⟨b, off + k * 2, none⟩) hbl]; exact hc0
          have e1 : wr.cell? ⟨b, off + k * 2 + 1, none⟩ = some x1 := by rw [HB.out.cell (p := ⟨b, off + k * 2 + 1, none⟩) hbl]; exact hc1
          have HT := Lib.hid (ht.below HB.out)
          clear ht hc0 hc1
          go_wp2_with fail
          refine (IH.out _ _ m wr (by omega) mb1 HT.out (by omega)).mono ?_
          rintro e w' ⟨rfl, hb1⟩
          have HN := Lib.hid (box_next HBX.out hb1); clear hb1
          have HT2 := Lib.hid (Ty.sizes_take ts k hlt)
          have hnew : leftOf ts[k].size m = leftOf (1 + Ty.sizes (ts.take (k + 1))) left := by
            have h1 := HM.out
            rw [HT2.out, h1, leftOf_add _ _ _ (by rw [← h1]; omega), Nat.add_assoc]
          have HNEW := Lib.hid hnew; clear hnew
          go_wp2_with fail
          exact ⟨⟨k + 1, _, by omega, by go_num, rfl, HNEW.out, HN.out⟩, by simp [intOf]; omega⟩
      · obtain rfl : k = ts.length := by omega
        have HFIN : Hid (m = leftOf (1 + Ty.sizes ts) left) := by have := HM.out; rw [List.take_length] at this; exact this
        go_wp2_with fail
        go_ret
        exact ⟨by rw [HFIN.out]; rfl, HB.out⟩

/-- A valid type: at most 800 nodes, at most 24 deep, and every node of a kind's form. -/
def Ty.valid (t : Ty) : Bool := decide (t.size ≤ 800) && decide (t.depth ≤ 24) && t.form
set_option maxRecDepth 100000 in
set_option maxHeartbeats 2000000 in
theorem specValid (d : Nat) (v : Value) (t : Ty) (w : World) (h : TyAt w d v t) (hsz : t.size ≤ 1048577) :
    Calls Tryd.prog 42 #[v] w fun e w' => e = .returned (.bool t.valid) ∧ Below w.heap.size w w' := by
  have HT := Lib.hid h
  obtain ⟨yk, ya, yn, yc, rfl⟩ : ∃ k a n c, v = .agg #[.int .i64 k, .slice a n c] := by
    cases d with
    | zero => exact h.elim
    | succ d => cases t with | node k ts => obtain ⟨sl, rfl, _, _, a, cap, rfl, _⟩ := h; exact ⟨_, _, _, _, rfl⟩
  clear h
  have E0 : Below w.heap.size w (w.alloc (.cells #[.int .i64 yk, .slice ya yn yc] 34)) := (Below.refl _ _).alloc (Nat.le_refl _) _
  have HT0 := Lib.hid (HT.out.below E0)
  clear E0
  go_enter Tryd.func42, Tryd.ntmps42
  go_wp2_with fail
  refine (specLeft d _ t 800 _ (by omega) (by omega) HT0.out (by omega)).mono ?_
  rintro e w1 ⟨rfl, hb1⟩
  have B1 := Lib.hid (box_next (Below.refl _ _) hb1); clear hb1
  have c0 := box_cell B1.out 0
  have c1 := box_cell B1.out 1
  have hl : leftOf t.size 800 = if (t.size : Int) ≤ 800 then 800 - (t.size : Int) else -1 := rfl
  by_cases q1 : t.size ≤ 800
  · rw [if_pos (by omega)] at hl
    rw [hl]; clear hl
    have hge : ¬ (800 - (t.size : Int) < 0) := by omega
    go_wp2_with fail
    refine (specDepth d _ t _ (HT.out.below (box_below B1.out)) (by omega)).mono ?_
    rintro e w2 ⟨rfl, hb2⟩
    have B2 := Lib.hid (box_next B1.out hb2); clear hb2 B1 c0 c1
    have c0 := box_cell B2.out 0
    have c1 := box_cell B2.out 1
    have hdl : t.depth ≤ 1048577 := by have := t.depth_le; omega
    by_cases q2 : t.depth ≤ 24
    · go_wp2_with fail
      refine (specForm d _ t _ (HT.out.below (box_below B2.out)) (by omega)).mono ?_
      rintro e w3 ⟨rfl, hb3⟩
      have B3 := Lib.hid (box_next B2.out hb3); clear hb3 B2 c0 c1
      go_wp2_with fail
      go_ret
      exact ⟨by simp [Ty.valid, q1, q2], box_below B3.out⟩
    · go_wp2_with fail
      go_ret
      exact ⟨by simp [Ty.valid, q2], box_below B2.out⟩
  · rw [if_neg (by omega)] at hl
    rw [hl]; clear hl
    go_wp2_with fail
    go_ret
    exact ⟨by simp [Ty.valid, q1], box_below B1.out⟩
end Go.Proofs.YtmmnjdhmankieaaDoor
/-
  Proved: spec.SizeOfType returns the number of nodes of every tree of at most 2^60 nodes, and leaves the memory that was there as it was.
-/
namespace Go.Proofs.YtmmnjdhmankieaaDoor
open Go.RowKit

set_option maxRecDepth 100000 in
set_option maxHeartbeats 1000000 in
theorem specSize : ∀ (d : Nat) (v : Value) (t : Ty) (w : World), TyAt w d v t → t.size ≤ 1152921504606846976 →
    Calls Tryd.prog 98 #[v] w fun e w' => e = .returned (.int .i64 (t.size : Int)) ∧ Below w.heap.size w w'
  | 0, _, _, _, h, _ => h.elim
  | d + 1, v, .node kd ts, w, h, hsz => by
    have IH : Hid (∀ (v : Value) (t : Ty) (w : World), TyAt w d v t → t.size ≤ 1152921504606846976 → Calls Tryd.prog 98 #[v] w fun e w' => e = .returned (.int .i64 (t.size : Int)) ∧ Below w.heap.size w w') := specSize d
    obtain ⟨sl, rfl, hk0, hk1, a, cap, rfl, hcap, hcap2, hat⟩ := h
    have HAT := Lib.hid hat; clear hat
    have hlen : ts.length ≤ 1152921504606846976 := by have := Ty.length_le ts; simp [Ty.size] at hsz; omega
    have HSZ : Hid (Ty.sizes ts + 1 ≤ 1152921504606846976) := by simp [Ty.size] at hsz; show _ ≤ _; omega
    clear hsz
    go_enter Tryd.func98, Tryd.ntmps98
    go_wp2_with fail
    go_loopw [3, 4] (fun n i wr => ∃ k : Nat, k ≤ ts.length ∧ i = .int .i64 k ∧ n = .int .i64 (1 + (Ty.sizes (ts.take k) : Int)) ∧ Below (w.heap.size + 1) (w.alloc (.cells #[.int .i64 kd, .slice a ts.length cap] 34)) wr) (fun _ i _ => ts.length - (intOf i).toNat)
    case atStart => exact ⟨0, by omega, rfl, by simp [Ty.sizes], Below.refl _ _⟩
    case round =>
      obtain ⟨k, hk, rfl, rfl, hb⟩ := hrel
      have c1 := box_cell hb 1
      have HB := Lib.hid (box_below hb)
      have HBX := Lib.hid hb; clear hb
      have HS1 := Ty.sizes_le ts k
      have HS2 := HSZ.out
      by_cases hlt : k < ts.length
      · obtain ⟨b, off, x0, x1, rfl, hbl, hc0, hc1, ht⟩ := HAT.out k hlt
        have hg := Ty.size_get ts k hlt
        have e0 : wr.cell? ⟨b, off + k * 2, none⟩ = some x0 := by rw [HB.out.cell (p := ⟨b, off + k * 2, none⟩) hbl]; exact hc0
        have e1 : wr.cell? ⟨b, off + k * 2 + 1, none⟩ = some x1 := by rw [HB.out.cell (p := ⟨b, off + k * 2 + 1, none⟩) hbl]; exact hc1
        have HT := Lib.hid (ht.below HB.out)
        clear ht hc0 hc1
        go_wp2_with fail
        refine (IH.out _ _ wr HT.out (by omega)).mono ?_
        rintro e w' ⟨rfl, hb1⟩
        have HN := Lib.hid (box_next HBX.out hb1)
        have HT2 := Lib.hid (Ty.sizes_take ts k hlt)
        have HS3 := Ty.sizes_le ts (k + 1)
        have HS4 : Ty.sizes (ts.take k) + ts[k].size ≤ Ty.sizes ts := by rw [← HT2.out]; exact HS3
        clear hb1 HS3
        go_wp2_with fail
        exact ⟨⟨k + 1, by omega, by go_num, by rw [HT2.out]; go_num, HN.out⟩, by simp [intOf]; omega⟩
      · obtain rfl : k = ts.length := by omega
        go_wp2_with fail
        go_ret
        refine ⟨?_, HB.out⟩
        rw [List.take_length]
        simp [Ty.size]
end Go.Proofs.YtmmnjdhmankieaaDoor
/-
  Proved: spec.IsNote says whether a type's tree is a note; it leaves the memory that was there as it was.
-/
namespace Go.Proofs.YtmmnjdhmankieaaDoor
open Go.RowKit

/-- A note: a valid type of at most 15 nodes, at most 5 deep. -/
def Ty.note (t : Ty) : Bool := t.valid && (decide (t.size ≤ 15) && decide (t.depth ≤ 5))
set_option maxRecDepth 100000 in
set_option maxHeartbeats 1000000 in
theorem specNote' (d : Nat) (v : Value) (t : Ty) (w : World) (h : TyAt w d v t) (hsz : t.size ≤ 1048577) :
    Calls Tryd.prog 94 #[v] w fun e w' => e = .returned (.bool (t.valid && (decide (t.size ≤ 15) && decide (t.depth ≤ 5)))) ∧ Below w.heap.size w w' := by
  have HT := Lib.hid h
  obtain ⟨yk, ya, yn, yc, rfl⟩ := agg_parts h
  clear h
  have E0 : Below w.heap.size w (w.alloc (.cells #[.int .i64 yk, .slice ya yn yc] 34)) := (Below.refl _ _).alloc (Nat.le_refl _) _
  have HT0 := Lib.hid (HT.out.below E0)
  clear E0
  go_enter Tryd.func94, Tryd.ntmps94
  go_wp2_with fail
  refine (specValid d _ t _ HT0.out hsz).mono ?_
  rintro e w1 ⟨rfl, hb1⟩
  have B1 := Lib.hid (box_next (Below.refl _ _) hb1); clear hb1
  have c0 := box_cell B1.out 0
  have c1 := box_cell B1.out 1
  cases hv : t.valid with
  | false =>
    have HV := Lib.hid hv; clear hv
    go_wp2_with fail
    go_ret
    exact ⟨by simp [HV.out], box_below B1.out⟩
  | true =>
    have HV := Lib.hid hv; clear hv
    go_wp2_with fail
    refine (specSize d _ t _ (HT.out.below (box_below B1.out)) (by omega)).mono ?_
    rintro e w2 ⟨rfl, hb2⟩
    have B2 := Lib.hid (box_next B1.out hb2); clear hb2 B1 c0 c1
    have c0 := box_cell B2.out 0
    have c1 := box_cell B2.out 1
    by_cases q1 : t.size ≤ 15
    · go_wp2_with fail
      refine (specDepth d _ t _ (HT.out.below (box_below B2.out)) (by omega)).mono ?_
      rintro e w3 ⟨rfl, hb3⟩
      have B3 := Lib.hid (box_next B2.out hb3); clear hb3 B2
      by_cases q2 : t.depth ≤ 5
      · have q3 : (t.depth : Int) ≤ 5 := by omega
        go_wp2_with fail
        go_ret
        exact ⟨by simp [HV.out, q1, q2], box_below B3.out⟩
      · have q3 : ¬ ((t.depth : Int) ≤ 5) := by omega
        go_wp2_with fail
        go_ret
        exact ⟨by simp [q2, q3], box_below B3.out⟩
    · go_wp2_with fail
      go_ret
      exact ⟨rfl, box_below B2.out⟩
theorem specNote (d : Nat) (v : Value) (t : Ty) (w : World) (h : TyAt w d v t) (hsz : t.size ≤ 1048577) :
    Calls Tryd.prog 94 #[v] w fun e w' => e = .returned (.bool t.note) ∧ Below w.heap.size w w' :=
  (specNote' d v t w h hsz).mono fun _ _ h => h
end Go.Proofs.YtmmnjdhmankieaaDoor
/-
  Proved: plain facts on the form of expressions: which names, numbers and types a kind has, and what a whole tree of such nodes is.
-/
namespace Go.Proofs.YtmmnjdhmankieaaDoor
open Go.RowKit

def nameFor (k : Int) (nm : ByteArray) : Bool := if k = 2 ∨ k = 3 then nameB nm else decide (nm.size = 0)
def numFor (k n : Int) : Bool := if k = 1 ∨ k = 14 then decide (1 ≤ n) && decide (n ≤ 99) else if k = 5 then decide (0 ≤ n) && decide (n ≤ 999) else if k = 8 then decide (0 ≤ n) && decide (n ≤ 1) else decide (n = 0)
def typeFor (k : Int) (t : Ty) : Bool := if k = 3 ∨ k = 13 then t.note else t.beq (.node 0 [])
def Ex.kind : Ex → Int
  | .node k _ _ _ _ => k
/-- The root has the fields and the number of parts that belong to its kind. -/
def fitsB (k : Int) (nm : ByteArray) (n : Int) (ty : Ty) (len : Nat) : Bool := decide ((len : Int) = arity k) && (nameFor k nm && (numFor k n && typeFor k ty))
/-- No mark stands right in a mark. -/
def bareB (k : Int) : List Ex → Bool
  | [] => true
  | e :: _ => !(decide (k = 14) && decide (e.kind = 14))
mutual
def Ex.form : Ex → Bool
  | .node k nm n ty es => Ex.forms es && (bareB k es && fitsB k nm n ty es.length)
def Ex.forms : List Ex → Bool
  | [] => true
  | e :: r => e.form && Ex.forms r
end
theorem Ex.forms_take (es : List Ex) : ∀ k (h : k < es.length), Ex.forms (es.take (k + 1)) = (Ex.forms (es.take k) && es[k].form) := by
  induction es with
  | nil => intro k h; simp at h
  | cons s r ih =>
    intro k h
    cases k with
    | zero => simp [Ex.forms]
    | succ k =>
      simp only [List.take_succ_cons, Ex.forms, List.getElem_cons_succ]
      rw [ih k (by simpa using h), Bool.and_assoc]
theorem Ex.forms_false (es : List Ex) (k : Nat) (h : Ex.forms (es.take k) = false) : Ex.forms es = false := by
  induction es generalizing k with
  | nil => simp [Ex.forms] at h
  | cons s r ih =>
    cases k with
    | zero => simp [Ex.forms] at h
    | succ k =>
      simp only [List.take_succ_cons, Ex.forms, Bool.and_eq_false_iff] at h ⊢
      rcases h with h | h
      · exact Or.inl h
      · exact Or.inr (ih k h)
theorem Ex.forms_get (es : List Ex) (k : Nat) (h : k < es.length) (hf : Ex.forms es = true) : es[k].form = true := by
  have e := Ex.forms_take es k h
  cases hk : es[k].form with
  | true => rfl
  | false =>
    rw [hk, Bool.and_false] at e
    rw [Ex.forms_false es (k + 1) e] at hf; cases hf
theorem Ex.highs_get (es : List Ex) (k : Nat) (h : k < es.length) : es[k].high ≤ Ex.highs es := by
  induction es generalizing k with
  | nil => simp at h
  | cons s r ih =>
    cases k with
    | zero => simp only [List.getElem_cons_zero, Ex.highs]; omega
    | succ k => simp only [List.getElem_cons_succ, Ex.highs]; have := ih k (by simpa using h); omega
theorem Ex.highs_upto (es : List Ex) (k : Nat) : Ex.highs (es.take k) ≤ Ex.highs es := by
  induction es generalizing k with
  | nil => simp
  | cons s r ih =>
    cases k with
    | zero => simp [Ex.highs]
    | succ k => simp only [List.take_succ_cons, Ex.highs]; have := ih k; omega
theorem Ex.counts_le_all (es : List Ex) (k : Nat) : Ex.counts (es.take k) ≤ Ex.counts es := by
  induction es generalizing k with
  | nil => simp
  | cons s r ih =>
    cases k with
    | zero => simp [Ex.counts]
    | succ k => simp only [List.take_succ_cons, Ex.counts]; have := ih k; omega
/-- A valid expression: at most 40 nodes, at most 12 deep (marks do not count), every node of its kind's form. -/
def Ex.valid (e : Ex) : Bool := decide (e.count ≤ 40) && (decide (e.high ≤ 12) && e.form)
theorem note_zero : (Ty.node 0 []).note = false := by
  simp [Ty.note, Ty.valid, Ty.form, Ty.forms, kindOk]
theorem beq_zero (k : Int) (ts : List Ty) : (Ty.node k ts).beq (.node 0 []) = (decide (k = 0) && decide (ts.length = 0)) := by
  cases ts with
  | nil => simp [Ty.beq, Ty.beqs]
  | cons a r => simp [Ty.beq, Ty.beqs]
theorem nameB_empty {s : ByteArray} (h : s.size = 0) : nameB s = false := by simp [nameB, h]
end Go.Proofs.YtmmnjdhmankieaaDoor
/-
  Proved: plain facts on types no part of which is unknown; no program.
-/
namespace Go.Proofs.YtmmnjdhmankieaaDoor
open Go.RowKit

mutual
def Ty.known : Ty → Bool
  | .node k ts => Ty.knowns ts && !decide (k = 1)
def Ty.knowns : List Ty → Bool
  | [] => true
  | t :: r => t.known && Ty.knowns r
end
theorem Ty.knowns_take (ts : List Ty) : ∀ k (h : k < ts.length), Ty.knowns (ts.take (k + 1)) = (Ty.knowns (ts.take k) && ts[k].known) := by
  induction ts with
  | nil => intro k h; simp at h
  | cons s r ih =>
    intro k h
    cases k with
    | zero => simp [Ty.knowns]
    | succ k =>
      simp only [List.take_succ_cons, Ty.knowns, List.getElem_cons_succ]
      rw [ih k (by simpa using h), Bool.and_assoc]
theorem Ty.knowns_false (ts : List Ty) (k : Nat) (h : Ty.knowns (ts.take k) = false) : Ty.knowns ts = false := by
  induction ts generalizing k with
  | nil => simp [Ty.knowns] at h
  | cons s r ih =>
    cases k with
    | zero => simp [Ty.knowns] at h
    | succ k =>
      simp only [List.take_succ_cons, Ty.knowns, Bool.and_eq_false_iff] at h ⊢
      rcases h with h | h
      · exact Or.inl h
      · exact Or.inr (ih k h)

end Go.Proofs.YtmmnjdhmankieaaDoor
/-
  Proved: plain facts on what occurs in an expression: a kind, and types that say all.
-/
namespace Go.Proofs.YtmmnjdhmankieaaDoor
open Go.RowKit

mutual
/-- A node of the kind x occurs. -/
def Ex.has (x : Int) : Ex → Bool
  | .node k _ _ _ es => Ex.hass x es || decide (k = x)
def Ex.hass (x : Int) : List Ex → Bool
  | [] => false
  | e :: r => e.has x || Ex.hass x r
end
mutual
/-- The types of functions and of ascriptions say all. -/
def Ex.full : Ex → Bool
  | .node k _ _ ty es => Ex.fulls es && (!(decide (k = 3) || decide (k = 13)) || (ty.valid && ty.known))
def Ex.fulls : List Ex → Bool
  | [] => true
  | e :: r => e.full && Ex.fulls r
end
theorem Ex.hass_take (x : Int) (es : List Ex) : ∀ k (h : k < es.length), Ex.hass x (es.take (k + 1)) = (Ex.hass x (es.take k) || es[k].has x) := by
  induction es with
  | nil => intro k h; simp at h
  | cons s r ih =>
    intro k h
    cases k with
    | zero => simp [Ex.hass]
    | succ k =>
      simp only [List.take_succ_cons, Ex.hass, List.getElem_cons_succ]
      rw [ih k (by simpa using h), Bool.or_assoc]
theorem Ex.hass_true (x : Int) (es : List Ex) (k : Nat) (h : Ex.hass x (es.take k) = true) : Ex.hass x es = true := by
  induction es generalizing k with
  | nil => simp [Ex.hass] at h
  | cons s r ih =>
    cases k with
    | zero => simp [Ex.hass] at h
    | succ k =>
      simp only [List.take_succ_cons, Ex.hass, Bool.or_eq_true] at h ⊢
      rcases h with h | h
      · exact Or.inl h
      · exact Or.inr (ih k h)
theorem Ex.fulls_take (es : List Ex) : ∀ k (h : k < es.length), Ex.fulls (es.take (k + 1)) = (Ex.fulls (es.take k) && es[k].full) := by
  induction es with
  | nil => intro k h; simp at h
  | cons s r ih =>
    intro k h
    cases k with
    | zero => simp [Ex.fulls]
    | succ k =>
      simp only [List.take_succ_cons, Ex.fulls, List.getElem_cons_succ]
      rw [ih k (by simpa using h), Bool.and_assoc]
theorem Ex.fulls_false (es : List Ex) (k : Nat) (h : Ex.fulls (es.take k) = false) : Ex.fulls es = false := by
  induction es generalizing k with
  | nil => simp [Ex.fulls] at h
  | cons s r ih =>
    cases k with
    | zero => simp [Ex.fulls] at h
    | succ k =>
      simp only [List.take_succ_cons, Ex.fulls, Bool.and_eq_false_iff] at h ⊢
      rcases h with h | h
      · exact Or.inl h
      · exact Or.inr (ih k h)
end Go.Proofs.YtmmnjdhmankieaaDoor
/-
  Proved: plain facts on valid edits; no program.
-/
namespace Go.Proofs.YtmmnjdhmankieaaDoor

/-- An edit: a raw expression, and the path of one of its nodes. -/
def Edi.okB (a : Edi) : Bool := (a.ex.sub a.path).isSome && (a.ex.valid && !a.ex.has 14)
end Go.Proofs.YtmmnjdhmankieaaDoor
/-
  Proved: spec.SubtermAt copies the node at a path; the memory that was there stays as it was.
-/
namespace Go.Proofs.YtmmnjdhmankieaaDoor
open Go.RowKit

def exNil : Ex := .node 0 ⟨#[]⟩ 0 (.node 0 []) []
/-- What the search for a node at a path gives: a copy of it, or an empty expression, and whether it is there. -/
def SubEnd (d : Nat) (r : Option Ex) (w : World) (e : Ending) (w' : World) : Prop :=
  ∃ s, e = .returned (.tuple #[s, .bool r.isSome]) ∧ ExIn w' d s (r.getD exNil) w.heap.size w'.heap.size ∧ Below w.heap.size w w'
theorem nil_own (w : World) (d : Nat) : ExOwn w (d + 2) (.agg #[.int .i64 0, .string ⟨#[]⟩, .int .i64 0, .int .i64 0, .slice none 0 0, .slice none 0 0]) exNil [] := by
  refine ⟨.int .i64 0, .slice none 0 0, .slice none 0 0, [], [], rfl, by omega, by omega, by omega, by omega, by decide, rfl, ?_, ?_⟩
  · exact ⟨_, rfl, by omega, by omega, none, 0, [], [], rfl, Nat.le_refl _, by omega, rfl, rfl, (fun b hb => by cases hb), fun j hj => by simp at hj⟩
  · exact ⟨none, 0, [], [], rfl, Nat.le_refl _, by omega, rfl, rfl, (fun b hb => by cases hb), fun j hj => by simp at hj⟩
theorem ex_deep {w : World} {d : Nat} {v : Value} {e : Ex} (h : ExAt w d v e) : ∃ c, d = c + 2 := by
  cases d with
  | zero => exact h.elim
  | succ d =>
    cases e with
    | node kd nm n ty es =>
      obtain ⟨c3, c4, sl, _, _, _, _, _, _, ht, _⟩ := h
      cases d with
      | zero => exact ht.elim
      | succ d => exact ⟨d, rfl⟩
theorem ExIn.stored {w : World} {d : Nat} {v : Value} {t : Ex} {lo hi q j : Nat} {u : Value} (h : ExIn w d v t lo hi) (hq : q < lo) : ExIn (w.setCell ⟨q, j, none⟩ u) d v t lo hi := by
  obtain ⟨fp, h, hf, hz⟩ := h
  refine ⟨fp, h.kept (by simp) fun b hb => ?_, hf, by simpa using hz⟩
  have := (hf.2 b hb).1
  exact heap_setCell_other _ _ _ _ (by simp; omega)
theorem ExIn.wide {w : World} {d : Nat} {v : Value} {t : Ex} {lo hi lo2 hi2 : Nat} (h : ExIn w d v t lo hi) (h1 : lo2 ≤ lo) (h2 : hi ≤ hi2) (h3 : hi2 ≤ w.heap.size) : ExIn w d v t lo2 hi2 := by
  obtain ⟨fp, h, hf, hz⟩ := h
  exact ⟨fp, h, hf.mono h1 h2, h3⟩
set_option maxRecDepth 100000 in
set_option maxHeartbeats 4000000 in
theorem specSub (d : Nat) (v1 v2 : Value) (e : Ex) (ps : List Int) (w : World) (h : ExAt w d v1 e) (hp : Ints w v2 ps) (hsz : e.bulk ≤ 1048576) (hn : ps.length ≤ 1048576) :
    Calls Tryd.prog 69 #[v1, v2] w (SubEnd d (e.sub ps) w) := by
  obtain ⟨c, rfl⟩ := ex_deep h
  obtain ⟨xk, xnm, xn, xtk, xta, xtn, xtc, xa, xm, xc, rfl⟩ := ex_parts h
  obtain ⟨pa, pc, rfl, hpc, hpat⟩ := hp
  have HP := Lib.hid hpat; clear hpat
  have HSZ := Lib.hid hsz; clear hsz
  have hb0 : Below w.heap.size w ((w.alloc (.cells #[.int .i64 xk, .string xnm, .int .i64 xn, .int .i64 xtk, .slice xta xtn xtc, .slice xa xm xc] 37)).alloc (.cells #[.int .i64 0, .string ⟨#[]⟩, .int .i64 0, .int .i64 0, .slice none 0 0, .slice none 0 0] 37)) := ((Below.refl _ _).alloc (Nat.le_refl _) _).alloc (by simp) _
  have HX0 : Hid (ExAt w (c + 2) (.agg #[.int .i64 xk, .string xnm, .int .i64 xn, .int .i64 xtk, .slice xta xtn xtc, .slice xa xm xc]) e) := h
  have XA : Hid (BoxAt ((w.alloc (.cells #[.int .i64 xk, .string xnm, .int .i64 xn, .int .i64 xtk, .slice xta xtn xtc, .slice xa xm xc] 37)).alloc (.cells #[.int .i64 0, .string ⟨#[]⟩, .int .i64 0, .int .i64 0, .slice none 0 0, .slice none 0 0] 37)) w.heap.size #[.int .i64 xk, .string xnm, .int .i64 xn, .int .i64 xtk, .slice xta xtn xtc, .slice xa xm xc]) := (BoxAt.new _ _ _).below (below_alloc _ _)
  have XR : Hid (BoxAt ((w.alloc (.cells #[.int .i64 xk, .string xnm, .int .i64 xn, .int .i64 xtk, .slice xta xtn xtc, .slice xa xm xc] 37)).alloc (.cells #[.int .i64 0, .string ⟨#[]⟩, .int .i64 0, .int .i64 0, .slice none 0 0, .slice none 0 0] 37)) (w.heap.size + 1) #[.int .i64 0, .string ⟨#[]⟩, .int .i64 0, .int .i64 0, .slice none 0 0, .slice none 0 0]) := box_at (BoxAt.new _ _ _) (by simp)
  have FA : Hid (FreeAt ((w.alloc (.cells #[.int .i64 xk, .string xnm, .int .i64 xn, .int .i64 xtk, .slice xta xtn xtc, .slice xa xm xc] 37)).alloc (.cells #[.int .i64 0, .string ⟨#[]⟩, .int .i64 0, .int .i64 0, .slice none 0 0, .slice none 0 0] 37)) w.heap.size) := (FreeAt.new _ _ _).below (below_alloc _ _)
  have FR : Hid (FreeAt ((w.alloc (.cells #[.int .i64 xk, .string xnm, .int .i64 xn, .int .i64 xtk, .slice xta xtn xtc, .slice xa xm xc] 37)).alloc (.cells #[.int .i64 0, .string ⟨#[]⟩, .int .i64 0, .int .i64 0, .slice none 0 0, .slice none 0 0] 37)) (w.heap.size + 1)) := free_at (FreeAt.new _ _ _) (by simp)
  have hz0 : ((w.alloc (.cells #[.int .i64 xk, .string xnm, .int .i64 xn, .int .i64 xtk, .slice xta xtn xtc, .slice xa xm xc] 37)).alloc (.cells #[.int .i64 0, .string ⟨#[]⟩, .int .i64 0, .int .i64 0, .slice none 0 0, .slice none 0 0] 37)).heap.size = w.heap.size + 2 := by simp
  have B0 := Lib.hid hb0
  clear hb0 h
  go_enter Tryd.func69, Tryd.ntmps69
  go_wp2_with fail
  go_loopw [6] (fun i wr => ∃ (k : Nat) (x : Ex) (xk : Int) (xnm : ByteArray) (xn xtk : Int) (xta : Option Addr) (xtn xtc : Nat) (xa : Option Addr) (xm xc : Nat), k ≤ ps.length ∧ i = .int .i64 k ∧ BoxAt wr w.heap.size #[.int .i64 xk, .string xnm, .int .i64 xn, .int .i64 xtk, .slice xta xtn xtc, .slice xa xm xc] ∧ BoxAt wr (w.heap.size + 1) #[.int .i64 0, .string ⟨#[]⟩, .int .i64 0, .int .i64 0, .slice none 0 0, .slice none 0 0] ∧ FreeAt wr w.heap.size ∧ FreeAt wr (w.heap.size + 1) ∧ wr.heap.size = w.heap.size + 2 ∧ ExAt w (c + 2) (.agg #[.int .i64 xk, .string xnm, .int .i64 xn, .int .i64 xtk, .slice xta xtn xtc, .slice xa xm xc]) x ∧ x.bulk ≤ 1048576 ∧ e.sub ps = x.sub (ps.drop k) ∧ Below w.heap.size w wr) (fun i _ => ps.length - (intOf i).toNat)
  case atStart => exact ⟨0, e, xk, xnm, xn, xtk, xta, xtn, xtc, xa, xm, xc, by omega, rfl, XA.out, XR.out, FA.out, FR.out, hz0, HX0.out, HSZ.out, by simp, B0.out⟩
  clear XA XR FA FR hz0 B0 HX0
  case round =>
    obtain ⟨k, x, yk, ynm, yn, ytk, yta, ytn, ytc, ya, ym, yc, hk, rfl, hxa, hxr, hfa, hfr, hz, hex, hxs, hsub, hb⟩ := hrel
    have HSUB := Lib.hid hsub; clear hsub
    have XA := Lib.hid hxa
    have XR := Lib.hid hxr
    have FA := Lib.hid hfa
    have FR := Lib.hid hfr
    have HEX := Lib.hid hex
    have HXS := Lib.hid hxs
    have HB := Lib.hid hb
    clear hxa hxr hfa hfr hxs hb
    by_cases hlt : k < ps.length
    · obtain ⟨bp, offp, rfl, hblp, hcp⟩ := HP.out k hlt
      obtain ⟨rfl, hmc, hc2, hrow⟩ := ex_row hex
      have HROW := Lib.hid hrow; clear hrow hex
      have HDR := Lib.hid (drop_at ps k hlt)
      obtain ⟨p, hp⟩ : ∃ p, p = ps[k] := ⟨_, rfl⟩
      rw [← hp] at hcp HDR
      clear hp
      have cp : wr.cell? ⟨bp, offp + k, none⟩ = some (.int .i64 p) := (HB.out.cell (p := ⟨bp, offp + k, none⟩) hblp).trans hcp
      have HCP := Lib.hid hcp
      clear hcp
      have a5 := XA.out.2 5
      have CI : ∀ W, Calls Tryd.prog 77 #[.int .i64 p, .int .i64 0, .int .i64 ((x.parts.length : Int) - 1)] W fun e w' => e = .returned (.bool (decide (0 ≤ p) && decide (p ≤ (x.parts.length : Int) - 1))) ∧ w' = W := fun W => specIn p 0 _ W
      have hwrap : IntKind.i64.wrap ((x.parts.length : Int) - 1) = (x.parts.length : Int) - 1 := IntWalk.i64_in _ (by omega)
      by_cases q : 0 ≤ p ∧ p ≤ (x.parts.length : Int) - 1
      · obtain ⟨m, rfl⟩ : ∃ m : Nat, p = m := ⟨p.toNat, by omega⟩
        have hm : m < x.parts.length := by omega
        have HN : Hid (e.sub ps = (x.parts[m]).sub (ps.drop (k + 1))) := by
          show _ = _
          rw [HSUB.out, HDR.out]
          exact sub_step (by omega) (by simpa using hm)
        have HM : Hid ((x.parts[m]).bulk ≤ 1048576) := Nat.le_trans (part_bulk hm) HXS.out
        rw [show (decide ((0 : Int) ≤ (m : Int)) && decide ((m : Int) ≤ (x.parts.length : Int) - 1)) = true from by rw [decide_eq_true q.1, decide_eq_true q.2]; rfl] at CI
        have HCI := Lib.hid CI; clear CI q
        obtain ⟨bn, offn, z0, z1, z2, z3, z4, z5, rfl, hbn, f0, f1, f2, f3, f4, f5, hz6⟩ := HROW.out m hm
        obtain ⟨zk, znm, zn, ztk, zta, ztn, ztc, za, zm, zc, rfl, rfl, rfl, rfl, rfl, rfl⟩ := ex_cells hz6
        have HZ := Lib.hid hz6
        have hne : bn ≠ w.heap.size := by omega
        go_wp2_with fail
        go_quiet ((go_at_call 77; exact Calls.quiet_of_same (HCI.out _)))
        go_wp2_with fail
        have hb : Below wr.heap.size wr (wr.drewN nq) := ⟨rfl, rfl, rfl, Nat.le_refl _, fun _ _ => rfl⟩
        replace XA := Lib.hid (XA.out.below hb)
        replace XR := Lib.hid (XR.out.below hb)
        replace FA := Lib.hid (FA.out.below hb)
        replace FR := Lib.hid (FR.out.below hb)
        replace HB := Lib.hid (below_thru HB.out (Nat.le_refl _) hb)
        have hzq : (wr.drewN nq).heap.size = w.heap.size + 2 := hz
        clear hb a5 cp hz
        generalize wr.drewN nq = wq at XA XR FA FR HB hzq ⊢
        have cp : wq.cell? ⟨bp, offp + k, none⟩ = some (.int .i64 (m : Int)) := (HB.out.cell (p := ⟨bp, offp + k, none⟩) hblp).trans HCP.out
        have g0 := (HB.out.cell (p := ⟨bn, offn + m * 6, none⟩) hbn).trans f0
        have g1 := (HB.out.cell (p := ⟨bn, offn + m * 6 + 1, none⟩) hbn).trans f1
        have g2 := (HB.out.cell (p := ⟨bn, offn + m * 6 + 2, none⟩) hbn).trans f2
        have g3 := (HB.out.cell (p := ⟨bn, offn + m * 6 + 3, none⟩) hbn).trans f3
        have g4 := (HB.out.cell (p := ⟨bn, offn + m * 6 + 4, none⟩) hbn).trans f4
        have g5 := (HB.out.cell (p := ⟨bn, offn + m * 6 + 5, none⟩) hbn).trans f5
        have a0 := XA.out.2 0
        have q0 := FA.out.2 0
        have a1 := XA.out.2 1
        have q1 := FA.out.2 1
        have a2 := XA.out.2 2
        have q2 := FA.out.2 2
        have a3 := XA.out.2 3
        have q3 := FA.out.2 3
        have a4 := XA.out.2 4
        have q4 := FA.out.2 4
        have a5 := XA.out.2 5
        have q5 := FA.out.2 5
        clear f0 f1 f2 f3 f4 f5 hz6
        go_region
        clear cp g0 g1 g2 g3 g4 g5 a0 q0 a1 q1 a2 q2 a3 q3 a4 q4 a5 q5
        have XA2 : Hid (BoxAt ((((((wq.setCell ⟨w.heap.size, 0, none⟩ (.int .i64 zk)).setCell ⟨w.heap.size, 1, none⟩ (.string znm)).setCell ⟨w.heap.size, 2, none⟩ (.int .i64 zn)).setCell ⟨w.heap.size, 3, none⟩ (.int .i64 ztk)).setCell ⟨w.heap.size, 4, none⟩ (.slice zta ztn ztc)).setCell ⟨w.heap.size, 5, none⟩ (.slice za zm zc)) w.heap.size #[.int .i64 zk, .string znm, .int .i64 zn, .int .i64 ztk, .slice zta ztn ztc, .slice za zm zc]) := by
          have := ((((((XA.out.put (j := 0) (u := .int .i64 zk) (by simp)).put (j := 1) (u := .string znm) (by simp)).put (j := 2) (u := .int .i64 zn) (by simp)).put (j := 3) (u := .int .i64 ztk) (by simp)).put (j := 4) (u := .slice zta ztn ztc) (by simp)).put (j := 5) (u := .slice za zm zc) (by simp))
          exact this
        have XR2 : Hid (BoxAt ((((((wq.setCell ⟨w.heap.size, 0, none⟩ (.int .i64 zk)).setCell ⟨w.heap.size, 1, none⟩ (.string znm)).setCell ⟨w.heap.size, 2, none⟩ (.int .i64 zn)).setCell ⟨w.heap.size, 3, none⟩ (.int .i64 ztk)).setCell ⟨w.heap.size, 4, none⟩ (.slice zta ztn ztc)).setCell ⟨w.heap.size, 5, none⟩ (.slice za zm zc)) (w.heap.size + 1) #[.int .i64 0, .string ⟨#[]⟩, .int .i64 0, .int .i64 0, .slice none 0 0, .slice none 0 0]) := ((((((XR.out.stored (by omega)).stored (by omega)).stored (by omega)).stored (by omega)).stored (by omega)).stored (by omega))
        have FA2 : Hid (FreeAt ((((((wq.setCell ⟨w.heap.size, 0, none⟩ (.int .i64 zk)).setCell ⟨w.heap.size, 1, none⟩ (.string znm)).setCell ⟨w.heap.size, 2, none⟩ (.int .i64 zn)).setCell ⟨w.heap.size, 3, none⟩ (.int .i64 ztk)).setCell ⟨w.heap.size, 4, none⟩ (.slice zta ztn ztc)).setCell ⟨w.heap.size, 5, none⟩ (.slice za zm zc)) w.heap.size) := FA.out.put.put.put.put.put.put
        have FR2 : Hid (FreeAt ((((((wq.setCell ⟨w.heap.size, 0, none⟩ (.int .i64 zk)).setCell ⟨w.heap.size, 1, none⟩ (.string znm)).setCell ⟨w.heap.size, 2, none⟩ (.int .i64 zn)).setCell ⟨w.heap.size, 3, none⟩ (.int .i64 ztk)).setCell ⟨w.heap.size, 4, none⟩ (.slice zta ztn ztc)).setCell ⟨w.heap.size, 5, none⟩ (.slice za zm zc)) (w.heap.size + 1)) := FR.out.put.put.put.put.put.put
        have HB2 : Hid (Below w.heap.size w ((((((wq.setCell ⟨w.heap.size, 0, none⟩ (.int .i64 zk)).setCell ⟨w.heap.size, 1, none⟩ (.string znm)).setCell ⟨w.heap.size, 2, none⟩ (.int .i64 zn)).setCell ⟨w.heap.size, 3, none⟩ (.int .i64 ztk)).setCell ⟨w.heap.size, 4, none⟩ (.slice zta ztn ztc)).setCell ⟨w.heap.size, 5, none⟩ (.slice za zm zc))) := (((((HB.out.setCell (Nat.le_refl _) _).setCell (Nat.le_refl _) _).setCell (Nat.le_refl _) _).setCell (Nat.le_refl _) _).setCell (Nat.le_refl _) _).setCell (Nat.le_refl _) _
        have hz2 : ((((((wq.setCell ⟨w.heap.size, 0, none⟩ (.int .i64 zk)).setCell ⟨w.heap.size, 1, none⟩ (.string znm)).setCell ⟨w.heap.size, 2, none⟩ (.int .i64 zn)).setCell ⟨w.heap.size, 3, none⟩ (.int .i64 ztk)).setCell ⟨w.heap.size, 4, none⟩ (.slice zta ztn ztc)).setCell ⟨w.heap.size, 5, none⟩ (.slice za zm zc)).heap.size = w.heap.size + 2 := by simpa using hzq
        generalize ((((((wq.setCell ⟨w.heap.size, 0, none⟩ (.int .i64 zk)).setCell ⟨w.heap.size, 1, none⟩ (.string znm)).setCell ⟨w.heap.size, 2, none⟩ (.int .i64 zn)).setCell ⟨w.heap.size, 3, none⟩ (.int .i64 ztk)).setCell ⟨w.heap.size, 4, none⟩ (.slice zta ztn ztc)).setCell ⟨w.heap.size, 5, none⟩ (.slice za zm zc)) = wf at XA2 XR2 FA2 FR2 HB2 hz2 ⊢
        have hb : Below wf.heap.size wf wf.drew := below_drew wf
        replace XA2 := Lib.hid (XA2.out.below hb)
        replace XR2 := Lib.hid (XR2.out.below hb)
        replace FA2 := Lib.hid (FA2.out.below hb)
        replace FR2 := Lib.hid (FR2.out.below hb)
        replace HB2 := Lib.hid (below_thru HB2.out (Nat.le_refl _) hb)
        have hz3 : wf.drew.heap.size = w.heap.size + 2 := hz2
        clear hb hz2
        generalize wf.drew = wz at XA2 XR2 FA2 FR2 HB2 hz3 ⊢
        go_wp2_with fail
        exact ⟨⟨k + 1, x.parts[m], zk, znm, zn, ztk, zta, ztn, ztc, za, zm, zc, by omega, by go_num, XA2.out, XR2.out, FA2.out, FR2.out, hz3, HZ.out, HM.out, HN.out, HB2.out⟩, by simp [intOf]; omega⟩
      · have HN : Hid (e.sub ps = none) := by
          show _ = _
          rw [HSUB.out, HDR.out]
          by_cases q1 : p < 0
          · exact sub_low q1
          · exact sub_high (by omega)
        rw [show (decide ((0 : Int) ≤ p) && decide (p ≤ (x.parts.length : Int) - 1)) = false from by
          by_cases q1 : 0 ≤ p
          · rw [decide_eq_true q1, decide_eq_false (fun h => q ⟨q1, h⟩)]; rfl
          · rw [decide_eq_false q1]; rfl] at CI
        have HCI := Lib.hid CI; clear CI q
        go_wp2_with fail
        go_quiet ((go_at_call 77; exact Calls.quiet_of_same (HCI.out _)))
        have hb : Below wr.heap.size wr (wr.drewN nq) := ⟨rfl, rfl, rfl, Nat.le_refl _, fun _ _ => rfl⟩
        replace XR := Lib.hid (XR.out.below hb)
        replace FR := Lib.hid (FR.out.below hb)
        replace HB := Lib.hid (below_thru HB.out (Nat.le_refl _) hb)
        have hzq : (wr.drewN nq).heap.size = w.heap.size + 2 := hz
        clear hb a5 cp hz
        generalize wr.drewN nq = wq at XR FR HB hzq ⊢
        have r0 := XR.out.2 0
        have s0 := FR.out.2 0
        have r1 := XR.out.2 1
        have s1 := FR.out.2 1
        have r2 := XR.out.2 2
        have s2 := FR.out.2 2
        have r3 := XR.out.2 3
        have s3 := FR.out.2 3
        have r4 := XR.out.2 4
        have s4 := FR.out.2 4
        have r5 := XR.out.2 5
        have s5 := FR.out.2 5
        go_wp2_with fail
        have XRF : BoxAt ((((((wq.setCell ⟨w.heap.size + 1, 0, none⟩ (.int .i64 0)).setCell ⟨w.heap.size + 1, 1, none⟩ (.string ⟨#[]⟩)).setCell ⟨w.heap.size + 1, 2, none⟩ (.int .i64 0)).setCell ⟨w.heap.size + 1, 3, none⟩ (.int .i64 0)).setCell ⟨w.heap.size + 1, 4, none⟩ (.slice none 0 0)).setCell ⟨w.heap.size + 1, 5, none⟩ (.slice none 0 0)) (w.heap.size + 1) #[.int .i64 0, .string ⟨#[]⟩, .int .i64 0, .int .i64 0, .slice none 0 0, .slice none 0 0] := by
          have := ((((((XR.out.put (j := 0) (u := .int .i64 0) (by simp)).put (j := 1) (u := .string ⟨#[]⟩) (by simp)).put (j := 2) (u := .int .i64 0) (by simp)).put (j := 3) (u := .int .i64 0) (by simp)).put (j := 4) (u := .slice none 0 0) (by simp)).put (j := 5) (u := .slice none 0 0) (by simp))
          exact this
        have hBF : Below w.heap.size w ((((((wq.setCell ⟨w.heap.size + 1, 0, none⟩ (.int .i64 0)).setCell ⟨w.heap.size + 1, 1, none⟩ (.string ⟨#[]⟩)).setCell ⟨w.heap.size + 1, 2, none⟩ (.int .i64 0)).setCell ⟨w.heap.size + 1, 3, none⟩ (.int .i64 0)).setCell ⟨w.heap.size + 1, 4, none⟩ (.slice none 0 0)).setCell ⟨w.heap.size + 1, 5, none⟩ (.slice none 0 0)) := ((((((HB.out.setCell (by simp) _).setCell (by simp) _).setCell (by simp) _).setCell (by simp) _).setCell (by simp) _).setCell (by simp) _)
        have hzF : ((((((wq.setCell ⟨w.heap.size + 1, 0, none⟩ (.int .i64 0)).setCell ⟨w.heap.size + 1, 1, none⟩ (.string ⟨#[]⟩)).setCell ⟨w.heap.size + 1, 2, none⟩ (.int .i64 0)).setCell ⟨w.heap.size + 1, 3, none⟩ (.int .i64 0)).setCell ⟨w.heap.size + 1, 4, none⟩ (.slice none 0 0)).setCell ⟨w.heap.size + 1, 5, none⟩ (.slice none 0 0)).heap.size = w.heap.size + 2 := by simpa using hzq
        have h0 := XRF.2 0
        have h1 := XRF.2 1
        have h2 := XRF.2 2
        have h3 := XRF.2 3
        have h4 := XRF.2 4
        have h5 := XRF.2 5
        clear XRF
        generalize ((((((wq.setCell ⟨w.heap.size + 1, 0, none⟩ (.int .i64 0)).setCell ⟨w.heap.size + 1, 1, none⟩ (.string ⟨#[]⟩)).setCell ⟨w.heap.size + 1, 2, none⟩ (.int .i64 0)).setCell ⟨w.heap.size + 1, 3, none⟩ (.int .i64 0)).setCell ⟨w.heap.size + 1, 4, none⟩ (.slice none 0 0)).setCell ⟨w.heap.size + 1, 5, none⟩ (.slice none 0 0)) = WX at h0 h1 h2 h3 h4 h5 hBF hzF ⊢
        refine bodyPost_ret (v := .tuple #[.agg #[.int .i64 0, .string ⟨#[]⟩, .int .i64 0, .int .i64 0, .slice none 0 0, .slice none 0 0], .bool false]) (by simp [results, Tryd.results69, go_sem, h0, h1, h2, h3, h4, h5]) rfl ?_
        rw [HN.out]
        exact ⟨_, rfl, ⟨[], nil_own _ c, Fp.nil _ _, Nat.le_refl _⟩, hBF⟩
    · obtain rfl : k = ps.length := by omega
      have HN : Hid (e.sub ps = some x) := by show _ = _; rw [HSUB.out, List.drop_length]; exact sub_nil x
      have a0 := XA.out.2 0
      have a1 := XA.out.2 1
      have a2 := XA.out.2 2
      have a3 := XA.out.2 3
      have a4 := XA.out.2 4
      have a5 := XA.out.2 5
      go_wp2_with fail
      clear a0 a1 a2 a3 a4 a5
      refine (specExCopy (c + 2) _ x _ HXS.out (HEX.out.below HB.out)).mono ?_
      rintro e1 w1 ⟨v1, fp, rfl, ht, hf, hb⟩
      obtain ⟨zk, znm, zn, ztk, zta, ztn, ztc, za, zm, zc, rfl⟩ := ex_parts ht.at_
      have hz1 := hb.size
      rw [hz] at hz1 hf
      have HO : Hid (ExIn w1 (c + 2) (.agg #[.int .i64 zk, .string znm, .int .i64 zn, .int .i64 ztk, .slice zta ztn ztc, .slice za zm zc]) x (w.heap.size + 2) w1.heap.size) := ⟨fp, ht, hf, Nat.le_refl _⟩
      replace HB := Lib.hid (below_thru HB.out (Nat.le_refl _) hb)
      replace XR := Lib.hid (XR.out.below hb)
      replace FR := Lib.hid (FR.out.below hb)
      clear ht hf hb hz
      have r0 := XR.out.2 0
      have s0 := FR.out.2 0
      have r1 := XR.out.2 1
      have s1 := FR.out.2 1
      have r2 := XR.out.2 2
      have s2 := FR.out.2 2
      have r3 := XR.out.2 3
      have s3 := FR.out.2 3
      have r4 := XR.out.2 4
      have s4 := FR.out.2 4
      have r5 := XR.out.2 5
      have s5 := FR.out.2 5
      go_wp2_with fail
      have XRF : BoxAt ((((((w1.setCell ⟨w.heap.size + 1, 0, none⟩ (.int .i64 zk)).setCell ⟨w.heap.size + 1, 1, none⟩ (.string znm)).setCell ⟨w.heap.size + 1, 2, none⟩ (.int .i64 zn)).setCell ⟨w.heap.size + 1, 3, none⟩ (.int .i64 ztk)).setCell ⟨w.heap.size + 1, 4, none⟩ (.slice zta ztn ztc)).setCell ⟨w.heap.size + 1, 5, none⟩ (.slice za zm zc)) (w.heap.size + 1) #[.int .i64 zk, .string znm, .int .i64 zn, .int .i64 ztk, .slice zta ztn ztc, .slice za zm zc] := by
        have := ((((((XR.out.put (j := 0) (u := .int .i64 zk) (by simp)).put (j := 1) (u := .string znm) (by simp)).put (j := 2) (u := .int .i64 zn) (by simp)).put (j := 3) (u := .int .i64 ztk) (by simp)).put (j := 4) (u := .slice zta ztn ztc) (by simp)).put (j := 5) (u := .slice za zm zc) (by simp))
        exact this
      have hBF : Below w.heap.size w ((((((w1.setCell ⟨w.heap.size + 1, 0, none⟩ (.int .i64 zk)).setCell ⟨w.heap.size + 1, 1, none⟩ (.string znm)).setCell ⟨w.heap.size + 1, 2, none⟩ (.int .i64 zn)).setCell ⟨w.heap.size + 1, 3, none⟩ (.int .i64 ztk)).setCell ⟨w.heap.size + 1, 4, none⟩ (.slice zta ztn ztc)).setCell ⟨w.heap.size + 1, 5, none⟩ (.slice za zm zc)) := ((((((HB.out.setCell (by simp) _).setCell (by simp) _).setCell (by simp) _).setCell (by simp) _).setCell (by simp) _).setCell (by simp) _)
      have HOF : ExIn ((((((w1.setCell ⟨w.heap.size + 1, 0, none⟩ (.int .i64 zk)).setCell ⟨w.heap.size + 1, 1, none⟩ (.string znm)).setCell ⟨w.heap.size + 1, 2, none⟩ (.int .i64 zn)).setCell ⟨w.heap.size + 1, 3, none⟩ (.int .i64 ztk)).setCell ⟨w.heap.size + 1, 4, none⟩ (.slice zta ztn ztc)).setCell ⟨w.heap.size + 1, 5, none⟩ (.slice za zm zc)) (c + 2) (.agg #[.int .i64 zk, .string znm, .int .i64 zn, .int .i64 ztk, .slice zta ztn ztc, .slice za zm zc]) x (w.heap.size + 2) w1.heap.size := ((((((HO.out.stored (by omega)).stored (by omega)).stored (by omega)).stored (by omega)).stored (by omega)).stored (by omega))
      have hzF : ((((((w1.setCell ⟨w.heap.size + 1, 0, none⟩ (.int .i64 zk)).setCell ⟨w.heap.size + 1, 1, none⟩ (.string znm)).setCell ⟨w.heap.size + 1, 2, none⟩ (.int .i64 zn)).setCell ⟨w.heap.size + 1, 3, none⟩ (.int .i64 ztk)).setCell ⟨w.heap.size + 1, 4, none⟩ (.slice zta ztn ztc)).setCell ⟨w.heap.size + 1, 5, none⟩ (.slice za zm zc)).heap.size = w1.heap.size := by simp
      have h0 := XRF.2 0
      have h1 := XRF.2 1
      have h2 := XRF.2 2
      have h3 := XRF.2 3
      have h4 := XRF.2 4
      have h5 := XRF.2 5
      clear XRF
      generalize ((((((w1.setCell ⟨w.heap.size + 1, 0, none⟩ (.int .i64 zk)).setCell ⟨w.heap.size + 1, 1, none⟩ (.string znm)).setCell ⟨w.heap.size + 1, 2, none⟩ (.int .i64 zn)).setCell ⟨w.heap.size + 1, 3, none⟩ (.int .i64 ztk)).setCell ⟨w.heap.size + 1, 4, none⟩ (.slice zta ztn ztc)).setCell ⟨w.heap.size + 1, 5, none⟩ (.slice za zm zc)) = WX at h0 h1 h2 h3 h4 h5 hBF HOF hzF ⊢
      refine bodyPost_ret (v := .tuple #[.agg #[.int .i64 zk, .string znm, .int .i64 zn, .int .i64 ztk, .slice zta ztn ztc, .slice za zm zc], .bool true]) (by simp [results, Tryd.results69, go_sem, h0, h1, h2, h3, h4, h5]) rfl ?_
      rw [HN.out]
      exact ⟨_, rfl, HOF.wide (by omega) (by omega) (Nat.le_refl _), hBF⟩
end Go.Proofs.YtmmnjdhmankieaaDoor
/-
  Proved: spec.IsName says whether a text is a name; the memory that was there stays as it was.
-/
namespace Go.Proofs.YtmmnjdhmankieaaDoor
open Go.RowKit

set_option maxRecDepth 100000 in
set_option maxHeartbeats 4000000 in
theorem specName (s : ByteArray) (w : World) (hs : s.size ≤ 9223372036854775807) : Calls Tryd.prog 93 #[.string s] w fun e w' => e = .returned (.bool (nameB s)) ∧ w' = w := by
  go_enter Tryd.func93, Tryd.ntmps93
  go_wp2_with fail
  go_loop [3] (fun i => ∃ k : Nat, k ≤ s.size ∧ i = .int .i64 k ∧ okB s k = true) (fun i => s.size - (intOf i).toNat)
  case atStart => exact ⟨0, by omega, rfl, rfl⟩
  case round =>
    obtain ⟨k, hk, rfl, hf⟩ := hrel
    have HF := Lib.hid hf; clear hf
    by_cases hlt : k < s.size
    · skip
      have HSUC := Lib.hid (okB_succ s k hlt)
      have hc255 : (s[k]'hlt).toNat < 256 := UInt8.toNat_lt _
      by_cases l1 : 97 ≤ (s[k]'hlt).toNat ∧ (s[k]'hlt).toNat ≤ 122
      · have OK := Lib.hid (okAt_letter (k := k) l1.1 l1.2)
        obtain ⟨l1a, l1b⟩ := l1
        have l1d : decide ((97 : Int) ≤ ((s[k]'hlt).toNat : Int)) = true := by simpa using (by omega : (97 : Int) ≤ ((s[k]'hlt).toNat : Int))
        have l2d : decide (((s[k]'hlt).toNat : Int) ≤ 122) = true := by simpa using (by omega : ((s[k]'hlt).toNat : Int) ≤ 122)
        clear l1a l1b
        go_wp2_with fail
        exact ⟨⟨k + 1, by omega, by go_num, by rw [HSUC.out, HF.out, OK.out]; rfl⟩, by simp [intOf]; omega⟩
      · by_cases l3 : 97 ≤ (s[k]'hlt).toNat
        · skip
          by_cases z : k = 0
          · have OK := Lib.hid (okAt_bad (c := (s[k]'hlt).toNat) (k := k) (by omega) (Or.inl z))
            have l1d : decide ((97 : Int) ≤ ((s[k]'hlt).toNat : Int)) = true := by simpa using (by omega : (97 : Int) ≤ ((s[k]'hlt).toNat : Int))
            have l2d : decide (((s[k]'hlt).toNat : Int) ≤ 122) = false := by simpa using (by omega : (122 : Int) < ((s[k]'hlt).toNat : Int))
            have zb : ((k : Int) == 0) = true := by simp [z]
            clear l1 l3 z
            go_wp2_with fail
            go_ret
            exact ⟨by rw [nameB, okB_false s (k + 1) s.size (by rw [HSUC.out, HF.out, OK.out]; rfl) hlt]; simp, rfl⟩
          · have zb : ((k : Int) == 0) = false := by simpa using z
            have z1 : 1 ≤ k := by omega
            by_cases g1 : 48 ≤ (s[k]'hlt).toNat ∧ (s[k]'hlt).toNat ≤ 57
            · have OK := Lib.hid (okAt_digit (k := k) z1 g1.1 g1.2)
              obtain ⟨g1a, g1b⟩ := g1
              have l1d : decide ((97 : Int) ≤ ((s[k]'hlt).toNat : Int)) = true := by simpa using (by omega : (97 : Int) ≤ ((s[k]'hlt).toNat : Int))
              have l2d : decide (((s[k]'hlt).toNat : Int) ≤ 122) = false := by simpa using (by omega : (122 : Int) < ((s[k]'hlt).toNat : Int))
              have g1d : decide (((s[k]'hlt).toNat : Int) < 48) = false := by simpa using (by omega : (48 : Int) ≤ ((s[k]'hlt).toNat : Int))
              have g2d : decide ((57 : Int) < ((s[k]'hlt).toNat : Int)) = false := by simpa using (by omega : ((s[k]'hlt).toNat : Int) ≤ 57)
              clear z l1 l3 g1a g1b
              go_wp2_with fail
              exact ⟨⟨k + 1, by omega, by go_num, by rw [HSUC.out, HF.out, OK.out]; rfl⟩, by simp [intOf]; omega⟩
            · have OK := Lib.hid (okAt_bad (c := (s[k]'hlt).toNat) (k := k) (by omega) (Or.inr (by omega)))
              by_cases g2 : 48 ≤ (s[k]'hlt).toNat
              · skip
                have l1d : decide ((97 : Int) ≤ ((s[k]'hlt).toNat : Int)) = true := by simpa using (by omega : (97 : Int) ≤ ((s[k]'hlt).toNat : Int))
                have l2d : decide (((s[k]'hlt).toNat : Int) ≤ 122) = false := by simpa using (by omega : (122 : Int) < ((s[k]'hlt).toNat : Int))
                have g1d : decide (((s[k]'hlt).toNat : Int) < 48) = false := by simpa using (by omega : (48 : Int) ≤ ((s[k]'hlt).toNat : Int))
                have g2d : decide ((57 : Int) < ((s[k]'hlt).toNat : Int)) = true := by simpa using (by omega : (57 : Int) < ((s[k]'hlt).toNat : Int))
                clear z l1 l3 g1 g2
                go_wp2_with fail
                go_ret
                exact ⟨by rw [nameB, okB_false s (k + 1) s.size (by rw [HSUC.out, HF.out, OK.out]; rfl) hlt]; simp, rfl⟩
              · skip
                have l1d : decide ((97 : Int) ≤ ((s[k]'hlt).toNat : Int)) = true := by simpa using (by omega : (97 : Int) ≤ ((s[k]'hlt).toNat : Int))
                have l2d : decide (((s[k]'hlt).toNat : Int) ≤ 122) = false := by simpa using (by omega : (122 : Int) < ((s[k]'hlt).toNat : Int))
                have g1d : decide (((s[k]'hlt).toNat : Int) < 48) = true := by simpa using (by omega : ((s[k]'hlt).toNat : Int) < 48)
                clear z l1 l3 g1 g2
                go_wp2_with fail
                go_ret
                exact ⟨by rw [nameB, okB_false s (k + 1) s.size (by rw [HSUC.out, HF.out, OK.out]; rfl) hlt]; simp, rfl⟩
        · skip
          by_cases z : k = 0
          · have OK := Lib.hid (okAt_bad (c := (s[k]'hlt).toNat) (k := k) (by omega) (Or.inl z))
            have l1d : decide ((97 : Int) ≤ ((s[k]'hlt).toNat : Int)) = false := by simpa using (by omega : ((s[k]'hlt).toNat : Int) < 97)
            have zb : ((k : Int) == 0) = true := by simp [z]
            clear l1 l3 z
            go_wp2_with fail
            go_ret
            exact ⟨by rw [nameB, okB_false s (k + 1) s.size (by rw [HSUC.out, HF.out, OK.out]; rfl) hlt]; simp, rfl⟩
          · have zb : ((k : Int) == 0) = false := by simpa using z
            have z1 : 1 ≤ k := by omega
            by_cases g1 : 48 ≤ (s[k]'hlt).toNat ∧ (s[k]'hlt).toNat ≤ 57
            · have OK := Lib.hid (okAt_digit (k := k) z1 g1.1 g1.2)
              obtain ⟨g1a, g1b⟩ := g1
              have l1d : decide ((97 : Int) ≤ ((s[k]'hlt).toNat : Int)) = false := by simpa using (by omega : ((s[k]'hlt).toNat : Int) < 97)
              have g1d : decide (((s[k]'hlt).toNat : Int) < 48) = false := by simpa using (by omega : (48 : Int) ≤ ((s[k]'hlt).toNat : Int))
              have g2d : decide ((57 : Int) < ((s[k]'hlt).toNat : Int)) = false := by simpa using (by omega : ((s[k]'hlt).toNat : Int) ≤ 57)
              clear z l1 l3 g1a g1b
              go_wp2_with fail
              exact ⟨⟨k + 1, by omega, by go_num, by rw [HSUC.out, HF.out, OK.out]; rfl⟩, by simp [intOf]; omega⟩
            · have OK := Lib.hid (okAt_bad (c := (s[k]'hlt).toNat) (k := k) (by omega) (Or.inr (by omega)))
              by_cases g2 : 48 ≤ (s[k]'hlt).toNat
              · skip
                have l1d : decide ((97 : Int) ≤ ((s[k]'hlt).toNat : Int)) = false := by simpa using (by omega : ((s[k]'hlt).toNat : Int) < 97)
                have g1d : decide (((s[k]'hlt).toNat : Int) < 48) = false := by simpa using (by omega : (48 : Int) ≤ ((s[k]'hlt).toNat : Int))
                have g2d : decide ((57 : Int) < ((s[k]'hlt).toNat : Int)) = true := by simpa using (by omega : (57 : Int) < ((s[k]'hlt).toNat : Int))
                clear z l1 l3 g1 g2
                go_wp2_with fail
                go_ret
                exact ⟨by rw [nameB, okB_false s (k + 1) s.size (by rw [HSUC.out, HF.out, OK.out]; rfl) hlt]; simp, rfl⟩
              · skip
                have l1d : decide ((97 : Int) ≤ ((s[k]'hlt).toNat : Int)) = false := by simpa using (by omega : ((s[k]'hlt).toNat : Int) < 97)
                have g1d : decide (((s[k]'hlt).toNat : Int) < 48) = true := by simpa using (by omega : ((s[k]'hlt).toNat : Int) < 48)
                clear z l1 l3 g1 g2
                go_wp2_with fail
                go_ret
                exact ⟨by rw [nameB, okB_false s (k + 1) s.size (by rw [HSUC.out, HF.out, OK.out]; rfl) hlt]; simp, rfl⟩
    · obtain rfl : k = s.size := by omega
      go_wp2_with fail
      refine (specIn _ _ _ w).mono ?_
      rintro e w9 ⟨rfl, rfl⟩
      have w1 : wordB s = ((s.toList == [105, 102]) || ((s.toList == [102, 115, 116]) || (s.toList == [115, 110, 100]))) := rfl
      have e1 : nameB s = (decide (1 ≤ s.size) && (decide (s.size ≤ 5) && !(wordB s))) := by rw [nameB, HF.out]; simp
      have E1 := Lib.hid (e1.trans (by rw [w1]))
      clear w1 e1
      by_cases r1 : 1 ≤ s.size
      · by_cases r2 : s.size ≤ 5
        · have i1 : (1 : Int) ≤ (s.size : Int) := by omega
          have i2 : (s.size : Int) ≤ 5 := by omega
          have R1 := Lib.hid r1
          have R2 := Lib.hid r2
          cases h1 : (s.toList == [105, 102]) with
          | true =>
            go_wp2_with fail
            go_ret
            exact ⟨by rw [E1.out]; simp [h1], rfl⟩
          | false =>
            cases h2 : (s.toList == [102, 115, 116]) with
            | true =>
              go_wp2_with fail
              go_ret
              exact ⟨by rw [E1.out]; simp [h1, h2], rfl⟩
            | false =>
              cases h3 : (s.toList == [115, 110, 100]) with
              | true =>
                go_wp2_with fail
                go_ret
                exact ⟨by rw [E1.out]; simp [h1, h2, h3], rfl⟩
              | false =>
                go_wp2_with fail
                go_ret
                exact ⟨by rw [E1.out]; simp [h1, h2, h3, R1.out, R2.out], rfl⟩
        · have i2 : ¬ ((s.size : Int) ≤ 5) := by omega
          have i1 : (1 : Int) ≤ (s.size : Int) := by omega
          go_wp2_with fail
          go_ret
          exact ⟨by rw [E1.out]; simp [r2], rfl⟩
      · have i1 : ¬ ((1 : Int) ≤ (s.size : Int)) := by omega
        go_wp2_with fail
        go_ret
        exact ⟨by rw [E1.out]; simp [r1], rfl⟩
end Go.Proofs.YtmmnjdhmankieaaDoor
/-
  Proved: spec.l6Fields says whether the fields of a node belong to its kind; the memory that was there stays as it was.
-/
namespace Go.Proofs.YtmmnjdhmankieaaDoor
open Go.RowKit

theorem ty_zero {w : World} {d : Nat} {tk : Int} {ta : Option Addr} {tn tc : Nat} {ty : Ty} (h : TyAt w d (.agg #[.int .i64 tk, .slice ta tn tc]) ty) : ty.beq (.node 0 []) = (decide (tk = 0) && decide (tn = 0)) := by
  cases d with
  | zero => exact h.elim
  | succ d =>
    cases ty with
    | node k ts =>
      obtain ⟨sl, hv, h0, h1, a, cap, rfl, h2⟩ := h
      injection hv with hv
      injection hv with hv
      simp at hv
      obtain ⟨rfl, rfl, rfl, rfl⟩ := hv
      exact beq_zero _ _
theorem name_some {s : ByteArray} (h : nameB s = true) : s.size ≠ 0 := fun e => by rw [nameB_empty e] at h; cases h
theorem note_some {t : Ty} (h : t.note = true) : t.beq (.node 0 []) = false := by
  cases t with
  | node k ts =>
    rw [beq_zero]
    cases hk : decide (k = 0) with
    | false => rfl
    | true =>
      have e := of_decide_eq_true hk
      subst e
      exfalso
      simp [Ty.note, Ty.valid, Ty.form, kindOk] at h
theorem text_zero {s : ByteArray} (h : s.size = 0) : (s.toList == []) = true := by
  have : s.toList = [] := List.eq_nil_of_length_eq_zero (by rw [size_of_toList]; exact h)
  rw [this]; rfl
/-- What the fields of a node say. -/
def fieldsB (k : Int) (nm : ByteArray) (n : Int) (ty : Ty) : Bool := nameFor k nm && (numFor k n && typeFor k ty)
set_option maxRecDepth 100000 in
set_option maxHeartbeats 4000000 in
theorem specFields (d : Nat) (v : Value) (kd : Int) (nm : ByteArray) (n : Int) (ty : Ty) (es : List Ex) (w : World) (h : ExAt w (d + 1) v (.node kd nm n ty es)) (hsz : (Ex.node kd nm n ty es).bulk ≤ 1048576) :
    Calls Tryd.prog 87 #[v] w fun e w' => e = .returned (.bool (fieldsB kd nm n ty)) ∧ Below w.heap.size w w' := by
  have HV := ex_parts h
  obtain ⟨c3, c4, sl, rfl, hk0, hk1, hn0, hn1, hnm, hty, a, cap, rfl, hcap, hcap2, hat⟩ := h
  obtain ⟨k', nm', n', tk, ta, tn, tc, sa, sn, sc, hv⟩ := HV
  injection hv with hv
  injection hv with hv
  simp at hv
  obtain ⟨rfl, rfl, rfl, rfl, rfl, rfl, rfl, rfl⟩ := hv
  have HAT := Lib.hid hat; clear hat
  have hbk : (Ex.node kd nm n ty es).bulk = nm.size + (ty.size - 1) + Ex.bulks es := rfl
  have HSZ : Hid (Ex.bulks es ≤ 1048576) := by show _ ≤ _; omega
  have HNM : Hid (nm.size ≤ 1048576) := by show _ ≤ _; omega
  have HTZ : Hid (ty.size ≤ 1048577) := by show _ ≤ _; omega
  have hlen : es.length ≤ 1048576 := by have := Ex.length_le es; omega
  have HTY := Lib.hid hty
  clear hsz hbk hty
  clear HAT HSZ
  have hz0 := ty_zero HTY.out
  have HZ0 := Lib.hid hz0; clear hz0
  have hnz := HNM.out
  have B0 : Hid (Below (w.heap.size + 1) (w.alloc (.cells #[.int .i64 kd, .string nm, .int .i64 n, .int .i64 tk, .slice ta tn tc, .slice a es.length cap] 37)) (w.alloc (.cells #[.int .i64 kd, .string nm, .int .i64 n, .int .i64 tk, .slice ta tn tc, .slice a es.length cap] 37))) := Below.refl _ _
  have HTYb := Lib.hid (HTY.out.below (box_below B0.out))
  clear HTY
  by_cases q1 : kd = 1
  · subst q1
    go_enter Tryd.func87, Tryd.ntmps87
    go_wp2_with fail
    refine (specName nm _ (by omega)).mono ?_
    rintro e w1 ⟨rfl, hw1⟩
    subst hw1
    cases hnb : nameB nm with
    | true =>
      have NZ := name_some hnb
      have c0 := box_cell B0.out 0
      have c1 := box_cell B0.out 1
      have c2 := box_cell B0.out 2
      have c3 := box_cell B0.out 3
      have c4 := box_cell B0.out 4
      have c5 := box_cell B0.out 5
      go_wp2_with fail
      go_ret
      exact ⟨by simp [fieldsB, nameFor, numFor, typeFor, *], box_below B0.out⟩
    | false =>
      by_cases NZ : nm.size = 0
      · have e1 := text_zero NZ
        have c0 := box_cell B0.out 0
        have c1 := box_cell B0.out 1
        have c2 := box_cell B0.out 2
        have c3 := box_cell B0.out 3
        have c4 := box_cell B0.out 4
        have c5 := box_cell B0.out 5
        go_wp2_with fail
        refine (specNote d _ ty _ (HTYb.out) HTZ.out).mono ?_
        rintro e w2 ⟨rfl, hb2⟩
        have B2 := Lib.hid (box_next B0.out hb2); clear hb2
        clear c0 c1 c2 c3 c4 c5
        cases hno : ty.note with
        | true =>
          have TZ := note_some hno
          have c0 := box_cell B2.out 0
          have c1 := box_cell B2.out 1
          have c2 := box_cell B2.out 2
          have c3 := box_cell B2.out 3
          have c4 := box_cell B2.out 4
          have c5 := box_cell B2.out 5
          go_wp2_with fail
          go_ret
          exact ⟨by simp [fieldsB, nameFor, numFor, typeFor, *], box_below B2.out⟩
        | false =>
          by_cases qt : tk = 0
          · by_cases qs : tn = 0
            · have TZ : ty.beq (.node 0 []) = true := by rw [HZ0.out]; simp [qt, qs]
              subst qt
              subst qs
              have c0 := box_cell B2.out 0
              have c1 := box_cell B2.out 1
              have c2 := box_cell B2.out 2
              have c3 := box_cell B2.out 3
              have c4 := box_cell B2.out 4
              have c5 := box_cell B2.out 5
              go_wp2_with fail
              refine (specIn n 1 99 _).mono ?_
              rintro e w9 ⟨rfl, hw9⟩
              subst hw9
              go_wp2_with fail
              go_ret
              exact ⟨by simp [fieldsB, nameFor, numFor, typeFor, *], box_below B2.out⟩
            · have TZ : ty.beq (.node 0 []) = false := by rw [HZ0.out]; simp [qs]
              subst qt
              have c0 := box_cell B2.out 0
              have c1 := box_cell B2.out 1
              have c2 := box_cell B2.out 2
              have c3 := box_cell B2.out 3
              have c4 := box_cell B2.out 4
              have c5 := box_cell B2.out 5
              go_wp2_with fail
              go_ret
              exact ⟨by simp [fieldsB, nameFor, numFor, typeFor, *], box_below B2.out⟩
          · have TZ : ty.beq (.node 0 []) = false := by rw [HZ0.out]; simp [qt]
            have c0 := box_cell B2.out 0
            have c1 := box_cell B2.out 1
            have c2 := box_cell B2.out 2
            have c3 := box_cell B2.out 3
            have c4 := box_cell B2.out 4
            have c5 := box_cell B2.out 5
            go_wp2_with fail
            go_ret
            exact ⟨by simp [fieldsB, nameFor, numFor, typeFor, *], box_below B2.out⟩
      · have e1 := toList_some (s := nm) (by omega)
        have c0 := box_cell B0.out 0
        have c1 := box_cell B0.out 1
        have c2 := box_cell B0.out 2
        have c3 := box_cell B0.out 3
        have c4 := box_cell B0.out 4
        have c5 := box_cell B0.out 5
        go_wp2_with fail
        go_ret
        exact ⟨by simp [fieldsB, nameFor, numFor, typeFor, *], box_below B0.out⟩
  by_cases q2 : kd = 2
  · subst q2
    go_enter Tryd.func87, Tryd.ntmps87
    go_wp2_with fail
    refine (specName nm _ (by omega)).mono ?_
    rintro e w1 ⟨rfl, hw1⟩
    subst hw1
    cases hnb : nameB nm with
    | false =>
      have c0 := box_cell B0.out 0
      have c1 := box_cell B0.out 1
      have c2 := box_cell B0.out 2
      have c3 := box_cell B0.out 3
      have c4 := box_cell B0.out 4
      have c5 := box_cell B0.out 5
      go_wp2_with fail
      go_ret
      exact ⟨by simp [fieldsB, nameFor, numFor, typeFor, *], box_below B0.out⟩
    | true =>
      have NZ := hnb
      have c0 := box_cell B0.out 0
      have c1 := box_cell B0.out 1
      have c2 := box_cell B0.out 2
      have c3 := box_cell B0.out 3
      have c4 := box_cell B0.out 4
      have c5 := box_cell B0.out 5
      go_wp2_with fail
      refine (specNote d _ ty _ (HTYb.out) HTZ.out).mono ?_
      rintro e w2 ⟨rfl, hb2⟩
      have B2 := Lib.hid (box_next B0.out hb2); clear hb2
      clear c0 c1 c2 c3 c4 c5
      cases hno : ty.note with
      | true =>
        have TZ := note_some hno
        have c0 := box_cell B2.out 0
        have c1 := box_cell B2.out 1
        have c2 := box_cell B2.out 2
        have c3 := box_cell B2.out 3
        have c4 := box_cell B2.out 4
        have c5 := box_cell B2.out 5
        go_wp2_with fail
        go_ret
        exact ⟨by simp [fieldsB, nameFor, numFor, typeFor, *], box_below B2.out⟩
      | false =>
        by_cases qt : tk = 0
        · by_cases qs : tn = 0
          · have TZ : ty.beq (.node 0 []) = true := by rw [HZ0.out]; simp [qt, qs]
            subst qt
            subst qs
            by_cases qn : n = 0
            · subst qn
              have c0 := box_cell B2.out 0
              have c1 := box_cell B2.out 1
              have c2 := box_cell B2.out 2
              have c3 := box_cell B2.out 3
              have c4 := box_cell B2.out 4
              have c5 := box_cell B2.out 5
              go_wp2_with fail
              go_ret
              exact ⟨by simp [fieldsB, nameFor, numFor, typeFor, *], box_below B2.out⟩
            · have qnb : (n == 0) = false := by simp [qn]
              have c0 := box_cell B2.out 0
              have c1 := box_cell B2.out 1
              have c2 := box_cell B2.out 2
              have c3 := box_cell B2.out 3
              have c4 := box_cell B2.out 4
              have c5 := box_cell B2.out 5
              go_wp2_with fail
              go_ret
              exact ⟨by simp [fieldsB, nameFor, numFor, typeFor, *], box_below B2.out⟩
          · have TZ : ty.beq (.node 0 []) = false := by rw [HZ0.out]; simp [qs]
            subst qt
            have c0 := box_cell B2.out 0
            have c1 := box_cell B2.out 1
            have c2 := box_cell B2.out 2
            have c3 := box_cell B2.out 3
            have c4 := box_cell B2.out 4
            have c5 := box_cell B2.out 5
            go_wp2_with fail
            go_ret
            exact ⟨by simp [fieldsB, nameFor, numFor, typeFor, *], box_below B2.out⟩
        · have TZ : ty.beq (.node 0 []) = false := by rw [HZ0.out]; simp [qt]
          have c0 := box_cell B2.out 0
          have c1 := box_cell B2.out 1
          have c2 := box_cell B2.out 2
          have c3 := box_cell B2.out 3
          have c4 := box_cell B2.out 4
          have c5 := box_cell B2.out 5
          go_wp2_with fail
          go_ret
          exact ⟨by simp [fieldsB, nameFor, numFor, typeFor, *], box_below B2.out⟩
  by_cases q3 : kd = 3
  · subst q3
    go_enter Tryd.func87, Tryd.ntmps87
    go_wp2_with fail
    refine (specName nm _ (by omega)).mono ?_
    rintro e w1 ⟨rfl, hw1⟩
    subst hw1
    cases hnb : nameB nm with
    | false =>
      have c0 := box_cell B0.out 0
      have c1 := box_cell B0.out 1
      have c2 := box_cell B0.out 2
      have c3 := box_cell B0.out 3
      have c4 := box_cell B0.out 4
      have c5 := box_cell B0.out 5
      go_wp2_with fail
      go_ret
      exact ⟨by simp [fieldsB, nameFor, numFor, typeFor, *], box_below B0.out⟩
    | true =>
      have NZ := hnb
      have c0 := box_cell B0.out 0
      have c1 := box_cell B0.out 1
      have c2 := box_cell B0.out 2
      have c3 := box_cell B0.out 3
      have c4 := box_cell B0.out 4
      have c5 := box_cell B0.out 5
      go_wp2_with fail
      refine (specNote d _ ty _ (HTYb.out) HTZ.out).mono ?_
      rintro e w2 ⟨rfl, hb2⟩
      have B2 := Lib.hid (box_next B0.out hb2); clear hb2
      clear c0 c1 c2 c3 c4 c5
      cases hno : ty.note with
      | false =>
        have c0 := box_cell B2.out 0
        have c1 := box_cell B2.out 1
        have c2 := box_cell B2.out 2
        have c3 := box_cell B2.out 3
        have c4 := box_cell B2.out 4
        have c5 := box_cell B2.out 5
        go_wp2_with fail
        go_ret
        exact ⟨by simp [fieldsB, nameFor, numFor, typeFor, *], box_below B2.out⟩
      | true =>
        have TZ := hno
        by_cases qn : n = 0
        · subst qn
          have c0 := box_cell B2.out 0
          have c1 := box_cell B2.out 1
          have c2 := box_cell B2.out 2
          have c3 := box_cell B2.out 3
          have c4 := box_cell B2.out 4
          have c5 := box_cell B2.out 5
          go_wp2_with fail
          go_ret
          exact ⟨by simp [fieldsB, nameFor, numFor, typeFor, *], box_below B2.out⟩
        · have qnb : (n == 0) = false := by simp [qn]
          have c0 := box_cell B2.out 0
          have c1 := box_cell B2.out 1
          have c2 := box_cell B2.out 2
          have c3 := box_cell B2.out 3
          have c4 := box_cell B2.out 4
          have c5 := box_cell B2.out 5
          go_wp2_with fail
          go_ret
          exact ⟨by simp [fieldsB, nameFor, numFor, typeFor, *], box_below B2.out⟩
  by_cases q5 : kd = 5
  · subst q5
    go_enter Tryd.func87, Tryd.ntmps87
    go_wp2_with fail
    refine (specName nm _ (by omega)).mono ?_
    rintro e w1 ⟨rfl, hw1⟩
    subst hw1
    cases hnb : nameB nm with
    | true =>
      have NZ := name_some hnb
      have c0 := box_cell B0.out 0
      have c1 := box_cell B0.out 1
      have c2 := box_cell B0.out 2
      have c3 := box_cell B0.out 3
      have c4 := box_cell B0.out 4
      have c5 := box_cell B0.out 5
      go_wp2_with fail
      go_ret
      exact ⟨by simp [fieldsB, nameFor, numFor, typeFor, *], box_below B0.out⟩
    | false =>
      by_cases NZ : nm.size = 0
      · have e1 := text_zero NZ
        have c0 := box_cell B0.out 0
        have c1 := box_cell B0.out 1
        have c2 := box_cell B0.out 2
        have c3 := box_cell B0.out 3
        have c4 := box_cell B0.out 4
        have c5 := box_cell B0.out 5
        go_wp2_with fail
        refine (specNote d _ ty _ (HTYb.out) HTZ.out).mono ?_
        rintro e w2 ⟨rfl, hb2⟩
        have B2 := Lib.hid (box_next B0.out hb2); clear hb2
        clear c0 c1 c2 c3 c4 c5
        cases hno : ty.note with
        | true =>
          have TZ := note_some hno
          have c0 := box_cell B2.out 0
          have c1 := box_cell B2.out 1
          have c2 := box_cell B2.out 2
          have c3 := box_cell B2.out 3
          have c4 := box_cell B2.out 4
          have c5 := box_cell B2.out 5
          go_wp2_with fail
          go_ret
          exact ⟨by simp [fieldsB, nameFor, numFor, typeFor, *], box_below B2.out⟩
        | false =>
          by_cases qt : tk = 0
          · by_cases qs : tn = 0
            · have TZ : ty.beq (.node 0 []) = true := by rw [HZ0.out]; simp [qt, qs]
              subst qt
              subst qs
              have c0 := box_cell B2.out 0
              have c1 := box_cell B2.out 1
              have c2 := box_cell B2.out 2
              have c3 := box_cell B2.out 3
              have c4 := box_cell B2.out 4
              have c5 := box_cell B2.out 5
              go_wp2_with fail
              refine (specIn n 0 999 _).mono ?_
              rintro e w9 ⟨rfl, hw9⟩
              subst hw9
              go_wp2_with fail
              go_ret
              exact ⟨by simp [fieldsB, nameFor, numFor, typeFor, *], box_below B2.out⟩
            · have TZ : ty.beq (.node 0 []) = false := by rw [HZ0.out]; simp [qs]
              subst qt
              have c0 := box_cell B2.out 0
              have c1 := box_cell B2.out 1
              have c2 := box_cell B2.out 2
              have c3 := box_cell B2.out 3
              have c4 := box_cell B2.out 4
              have c5 := box_cell B2.out 5
              go_wp2_with fail
              go_ret
              exact ⟨by simp [fieldsB, nameFor, numFor, typeFor, *], box_below B2.out⟩
          · have TZ : ty.beq (.node 0 []) = false := by rw [HZ0.out]; simp [qt]
            have c0 := box_cell B2.out 0
            have c1 := box_cell B2.out 1
            have c2 := box_cell B2.out 2
            have c3 := box_cell B2.out 3
            have c4 := box_cell B2.out 4
            have c5 := box_cell B2.out 5
            go_wp2_with fail
            go_ret
            exact ⟨by simp [fieldsB, nameFor, numFor, typeFor, *], box_below B2.out⟩
      · have e1 := toList_some (s := nm) (by omega)
        have c0 := box_cell B0.out 0
        have c1 := box_cell B0.out 1
        have c2 := box_cell B0.out 2
        have c3 := box_cell B0.out 3
        have c4 := box_cell B0.out 4
        have c5 := box_cell B0.out 5
        go_wp2_with fail
        go_ret
        exact ⟨by simp [fieldsB, nameFor, numFor, typeFor, *], box_below B0.out⟩
  by_cases q8 : kd = 8
  · subst q8
    go_enter Tryd.func87, Tryd.ntmps87
    go_wp2_with fail
    refine (specName nm _ (by omega)).mono ?_
    rintro e w1 ⟨rfl, hw1⟩
    subst hw1
    cases hnb : nameB nm with
    | true =>
      have NZ := name_some hnb
      have c0 := box_cell B0.out 0
      have c1 := box_cell B0.out 1
      have c2 := box_cell B0.out 2
      have c3 := box_cell B0.out 3
      have c4 := box_cell B0.out 4
      have c5 := box_cell B0.out 5
      go_wp2_with fail
      go_ret
      exact ⟨by simp [fieldsB, nameFor, numFor, typeFor, *], box_below B0.out⟩
    | false =>
      by_cases NZ : nm.size = 0
      · have e1 := text_zero NZ
        have c0 := box_cell B0.out 0
        have c1 := box_cell B0.out 1
        have c2 := box_cell B0.out 2
        have c3 := box_cell B0.out 3
        have c4 := box_cell B0.out 4
        have c5 := box_cell B0.out 5
        go_wp2_with fail
        refine (specNote d _ ty _ (HTYb.out) HTZ.out).mono ?_
        rintro e w2 ⟨rfl, hb2⟩
        have B2 := Lib.hid (box_next B0.out hb2); clear hb2
        clear c0 c1 c2 c3 c4 c5
        cases hno : ty.note with
        | true =>
          have TZ := note_some hno
          have c0 := box_cell B2.out 0
          have c1 := box_cell B2.out 1
          have c2 := box_cell B2.out 2
          have c3 := box_cell B2.out 3
          have c4 := box_cell B2.out 4
          have c5 := box_cell B2.out 5
          go_wp2_with fail
          go_ret
          exact ⟨by simp [fieldsB, nameFor, numFor, typeFor, *], box_below B2.out⟩
        | false =>
          by_cases qt : tk = 0
          · by_cases qs : tn = 0
            · have TZ : ty.beq (.node 0 []) = true := by rw [HZ0.out]; simp [qt, qs]
              subst qt
              subst qs
              have c0 := box_cell B2.out 0
              have c1 := box_cell B2.out 1
              have c2 := box_cell B2.out 2
              have c3 := box_cell B2.out 3
              have c4 := box_cell B2.out 4
              have c5 := box_cell B2.out 5
              go_wp2_with fail
              refine (specIn n 0 1 _).mono ?_
              rintro e w9 ⟨rfl, hw9⟩
              subst hw9
              go_wp2_with fail
              go_ret
              exact ⟨by simp [fieldsB, nameFor, numFor, typeFor, *], box_below B2.out⟩
            · have TZ : ty.beq (.node 0 []) = false := by rw [HZ0.out]; simp [qs]
              subst qt
              have c0 := box_cell B2.out 0
              have c1 := box_cell B2.out 1
              have c2 := box_cell B2.out 2
              have c3 := box_cell B2.out 3
              have c4 := box_cell B2.out 4
              have c5 := box_cell B2.out 5
              go_wp2_with fail
              go_ret
              exact ⟨by simp [fieldsB, nameFor, numFor, typeFor, *], box_below B2.out⟩
          · have TZ : ty.beq (.node 0 []) = false := by rw [HZ0.out]; simp [qt]
            have c0 := box_cell B2.out 0
            have c1 := box_cell B2.out 1
            have c2 := box_cell B2.out 2
            have c3 := box_cell B2.out 3
            have c4 := box_cell B2.out 4
            have c5 := box_cell B2.out 5
            go_wp2_with fail
            go_ret
            exact ⟨by simp [fieldsB, nameFor, numFor, typeFor, *], box_below B2.out⟩
      · have e1 := toList_some (s := nm) (by omega)
        have c0 := box_cell B0.out 0
        have c1 := box_cell B0.out 1
        have c2 := box_cell B0.out 2
        have c3 := box_cell B0.out 3
        have c4 := box_cell B0.out 4
        have c5 := box_cell B0.out 5
        go_wp2_with fail
        go_ret
        exact ⟨by simp [fieldsB, nameFor, numFor, typeFor, *], box_below B0.out⟩
  by_cases q13 : kd = 13
  · subst q13
    go_enter Tryd.func87, Tryd.ntmps87
    go_wp2_with fail
    refine (specName nm _ (by omega)).mono ?_
    rintro e w1 ⟨rfl, hw1⟩
    subst hw1
    cases hnb : nameB nm with
    | true =>
      have NZ := name_some hnb
      have c0 := box_cell B0.out 0
      have c1 := box_cell B0.out 1
      have c2 := box_cell B0.out 2
      have c3 := box_cell B0.out 3
      have c4 := box_cell B0.out 4
      have c5 := box_cell B0.out 5
      go_wp2_with fail
      go_ret
      exact ⟨by simp [fieldsB, nameFor, numFor, typeFor, *], box_below B0.out⟩
    | false =>
      by_cases NZ : nm.size = 0
      · have e1 := text_zero NZ
        have c0 := box_cell B0.out 0
        have c1 := box_cell B0.out 1
        have c2 := box_cell B0.out 2
        have c3 := box_cell B0.out 3
        have c4 := box_cell B0.out 4
        have c5 := box_cell B0.out 5
        go_wp2_with fail
        refine (specNote d _ ty _ (HTYb.out) HTZ.out).mono ?_
        rintro e w2 ⟨rfl, hb2⟩
        have B2 := Lib.hid (box_next B0.out hb2); clear hb2
        clear c0 c1 c2 c3 c4 c5
        cases hno : ty.note with
        | false =>
          have c0 := box_cell B2.out 0
          have c1 := box_cell B2.out 1
          have c2 := box_cell B2.out 2
          have c3 := box_cell B2.out 3
          have c4 := box_cell B2.out 4
          have c5 := box_cell B2.out 5
          go_wp2_with fail
          go_ret
          exact ⟨by simp [fieldsB, nameFor, numFor, typeFor, *], box_below B2.out⟩
        | true =>
          have TZ := hno
          by_cases qn : n = 0
          · subst qn
            have c0 := box_cell B2.out 0
            have c1 := box_cell B2.out 1
            have c2 := box_cell B2.out 2
            have c3 := box_cell B2.out 3
            have c4 := box_cell B2.out 4
            have c5 := box_cell B2.out 5
            go_wp2_with fail
            go_ret
            exact ⟨by simp [fieldsB, nameFor, numFor, typeFor, *], box_below B2.out⟩
          · have qnb : (n == 0) = false := by simp [qn]
            have c0 := box_cell B2.out 0
            have c1 := box_cell B2.out 1
            have c2 := box_cell B2.out 2
            have c3 := box_cell B2.out 3
            have c4 := box_cell B2.out 4
            have c5 := box_cell B2.out 5
            go_wp2_with fail
            go_ret
            exact ⟨by simp [fieldsB, nameFor, numFor, typeFor, *], box_below B2.out⟩
      · have e1 := toList_some (s := nm) (by omega)
        have c0 := box_cell B0.out 0
        have c1 := box_cell B0.out 1
        have c2 := box_cell B0.out 2
        have c3 := box_cell B0.out 3
        have c4 := box_cell B0.out 4
        have c5 := box_cell B0.out 5
        go_wp2_with fail
        go_ret
        exact ⟨by simp [fieldsB, nameFor, numFor, typeFor, *], box_below B0.out⟩
  by_cases q14 : kd = 14
  · subst q14
    go_enter Tryd.func87, Tryd.ntmps87
    go_wp2_with fail
    refine (specName nm _ (by omega)).mono ?_
    rintro e w1 ⟨rfl, hw1⟩
    subst hw1
    cases hnb : nameB nm with
    | true =>
      have NZ := name_some hnb
      have c0 := box_cell B0.out 0
      have c1 := box_cell B0.out 1
      have c2 := box_cell B0.out 2
      have c3 := box_cell B0.out 3
      have c4 := box_cell B0.out 4
      have c5 := box_cell B0.out 5
      go_wp2_with fail
      go_ret
      exact ⟨by simp [fieldsB, nameFor, numFor, typeFor, *], box_below B0.out⟩
    | false =>
      by_cases NZ : nm.size = 0
      · have e1 := text_zero NZ
        have c0 := box_cell B0.out 0
        have c1 := box_cell B0.out 1
        have c2 := box_cell B0.out 2
        have c3 := box_cell B0.out 3
        have c4 := box_cell B0.out 4
        have c5 := box_cell B0.out 5
        go_wp2_with fail
        refine (specNote d _ ty _ (HTYb.out) HTZ.out).mono ?_
        rintro e w2 ⟨rfl, hb2⟩
        have B2 := Lib.hid (box_next B0.out hb2); clear hb2
        clear c0 c1 c2 c3 c4 c5
        cases hno : ty.note with
        | true =>
          have TZ := note_some hno
          have c0 := box_cell B2.out 0
          have c1 := box_cell B2.out 1
          have c2 := box_cell B2.out 2
          have c3 := box_cell B2.out 3
          have c4 := box_cell B2.out 4
          have c5 := box_cell B2.out 5
          go_wp2_with fail
          go_ret
          exact ⟨by simp [fieldsB, nameFor, numFor, typeFor, *], box_below B2.out⟩
        | false =>
          by_cases qt : tk = 0
          · by_cases qs : tn = 0
            · have TZ : ty.beq (.node 0 []) = true := by rw [HZ0.out]; simp [qt, qs]
              subst qt
              subst qs
              have c0 := box_cell B2.out 0
              have c1 := box_cell B2.out 1
              have c2 := box_cell B2.out 2
              have c3 := box_cell B2.out 3
              have c4 := box_cell B2.out 4
              have c5 := box_cell B2.out 5
              go_wp2_with fail
              refine (specIn n 1 99 _).mono ?_
              rintro e w9 ⟨rfl, hw9⟩
              subst hw9
              go_wp2_with fail
              go_ret
              exact ⟨by simp [fieldsB, nameFor, numFor, typeFor, *], box_below B2.out⟩
            · have TZ : ty.beq (.node 0 []) = false := by rw [HZ0.out]; simp [qs]
              subst qt
              have c0 := box_cell B2.out 0
              have c1 := box_cell B2.out 1
              have c2 := box_cell B2.out 2
              have c3 := box_cell B2.out 3
              have c4 := box_cell B2.out 4
              have c5 := box_cell B2.out 5
              go_wp2_with fail
              go_ret
              exact ⟨by simp [fieldsB, nameFor, numFor, typeFor, *], box_below B2.out⟩
          · have TZ : ty.beq (.node 0 []) = false := by rw [HZ0.out]; simp [qt]
            have c0 := box_cell B2.out 0
            have c1 := box_cell B2.out 1
            have c2 := box_cell B2.out 2
            have c3 := box_cell B2.out 3
            have c4 := box_cell B2.out 4
            have c5 := box_cell B2.out 5
            go_wp2_with fail
            go_ret
            exact ⟨by simp [fieldsB, nameFor, numFor, typeFor, *], box_below B2.out⟩
      · have e1 := toList_some (s := nm) (by omega)
        have c0 := box_cell B0.out 0
        have c1 := box_cell B0.out 1
        have c2 := box_cell B0.out 2
        have c3 := box_cell B0.out 3
        have c4 := box_cell B0.out 4
        have c5 := box_cell B0.out 5
        go_wp2_with fail
        go_ret
        exact ⟨by simp [fieldsB, nameFor, numFor, typeFor, *], box_below B0.out⟩
  have z1 : (kd == 1) = false := by simp [q1]
  have z2 : (kd == 2) = false := by simp [q2]
  have z3 : (kd == 3) = false := by simp [q3]
  have z5 : (kd == 5) = false := by simp [q5]
  have z8 : (kd == 8) = false := by simp [q8]
  have z13 : (kd == 13) = false := by simp [q13]
  have z14 : (kd == 14) = false := by simp [q14]
  go_enter Tryd.func87, Tryd.ntmps87
  go_wp2_with fail
  refine (specName nm _ (by omega)).mono ?_
  rintro e w1 ⟨rfl, hw1⟩
  subst hw1
  cases hnb : nameB nm with
  | true =>
    have NZ := name_some hnb
    have c0 := box_cell B0.out 0
    have c1 := box_cell B0.out 1
    have c2 := box_cell B0.out 2
    have c3 := box_cell B0.out 3
    have c4 := box_cell B0.out 4
    have c5 := box_cell B0.out 5
    go_wp2_with fail
    go_ret
    exact ⟨by simp [fieldsB, nameFor, numFor, typeFor, *], box_below B0.out⟩
  | false =>
    by_cases NZ : nm.size = 0
    · have e1 := text_zero NZ
      have c0 := box_cell B0.out 0
      have c1 := box_cell B0.out 1
      have c2 := box_cell B0.out 2
      have c3 := box_cell B0.out 3
      have c4 := box_cell B0.out 4
      have c5 := box_cell B0.out 5
      go_wp2_with fail
      refine (specNote d _ ty _ (HTYb.out) HTZ.out).mono ?_
      rintro e w2 ⟨rfl, hb2⟩
      have B2 := Lib.hid (box_next B0.out hb2); clear hb2
      clear c0 c1 c2 c3 c4 c5
      cases hno : ty.note with
      | true =>
        have TZ := note_some hno
        have c0 := box_cell B2.out 0
        have c1 := box_cell B2.out 1
        have c2 := box_cell B2.out 2
        have c3 := box_cell B2.out 3
        have c4 := box_cell B2.out 4
        have c5 := box_cell B2.out 5
        go_wp2_with fail
        go_ret
        exact ⟨by simp [fieldsB, nameFor, numFor, typeFor, *], box_below B2.out⟩
      | false =>
        by_cases qt : tk = 0
        · by_cases qs : tn = 0
          · have TZ : ty.beq (.node 0 []) = true := by rw [HZ0.out]; simp [qt, qs]
            subst qt
            subst qs
            by_cases qn : n = 0
            · subst qn
              have c0 := box_cell B2.out 0
              have c1 := box_cell B2.out 1
              have c2 := box_cell B2.out 2
              have c3 := box_cell B2.out 3
              have c4 := box_cell B2.out 4
              have c5 := box_cell B2.out 5
              go_wp2_with fail
              go_ret
              exact ⟨by simp [fieldsB, nameFor, numFor, typeFor, *], box_below B2.out⟩
            · have qnb : (n == 0) = false := by simp [qn]
              have c0 := box_cell B2.out 0
              have c1 := box_cell B2.out 1
              have c2 := box_cell B2.out 2
              have c3 := box_cell B2.out 3
              have c4 := box_cell B2.out 4
              have c5 := box_cell B2.out 5
              go_wp2_with fail
              go_ret
              exact ⟨by simp [fieldsB, nameFor, numFor, typeFor, *], box_below B2.out⟩
          · have TZ : ty.beq (.node 0 []) = false := by rw [HZ0.out]; simp [qs]
            subst qt
            have c0 := box_cell B2.out 0
            have c1 := box_cell B2.out 1
            have c2 := box_cell B2.out 2
            have c3 := box_cell B2.out 3
            have c4 := box_cell B2.out 4
            have c5 := box_cell B2.out 5
            go_wp2_with fail
            go_ret
            exact ⟨by simp [fieldsB, nameFor, numFor, typeFor, *], box_below B2.out⟩
        · have TZ : ty.beq (.node 0 []) = false := by rw [HZ0.out]; simp [qt]
          have c0 := box_cell B2.out 0
          have c1 := box_cell B2.out 1
          have c2 := box_cell B2.out 2
          have c3 := box_cell B2.out 3
          have c4 := box_cell B2.out 4
          have c5 := box_cell B2.out 5
          go_wp2_with fail
          go_ret
          exact ⟨by simp [fieldsB, nameFor, numFor, typeFor, *], box_below B2.out⟩
    · have e1 := toList_some (s := nm) (by omega)
      have c0 := box_cell B0.out 0
      have c1 := box_cell B0.out 1
      have c2 := box_cell B0.out 2
      have c3 := box_cell B0.out 3
      have c4 := box_cell B0.out 4
      have c5 := box_cell B0.out 5
      go_wp2_with fail
      go_ret
      exact ⟨by simp [fieldsB, nameFor, numFor, typeFor, *], box_below B0.out⟩
end Go.Proofs.YtmmnjdhmankieaaDoor
/-
  Proved: a statement whose order Go leaves open, whose operations only read old memory and whose calls leave old memory as it was and answer with plain values, may be walked once, in the order of the text.
-/
namespace Go.Proofs.YtmmnjdhmankieaaDoor
open Go.RowKit

/-- A world that has grown out of w: below B all is as it was. -/
structure Grown (B : Nat) (w : World) where
  val : World
  old : Below B w val
instance (B : Nat) (w : World) : Nonempty (Grown B w) := ⟨⟨w, Below.refl _ _⟩⟩
theorem wp_region_grown {P : Program} {id : Nat} {Q : Exit → Act → World → Prop} {a : Act} {w : World} {l : List Oper} (B : Nat) (hm : P.follows .mixedOrders = true) (hB : Region.lexB .any l.toArray = true)
    (h : wpQuiet P l.toArray (fun w' => ∃ n : Grown B w, w' = n.val) (fun a' => ∀ w', (∃ n : Grown B w, w' = n.val) → Q .normal a' w') l a) : (Code.region id l.toArray true).wp P Q a w :=
  wp_region_quiet (C := fun w' => ∃ n : Grown B w, w' = n.val) hm hB ⟨⟨{ w with drawn := w.drawn + 1 }, (Below.refl _ _).drew⟩, rfl⟩ (by simpa using h)
theorem grown_of {P : Program} {f : FuncId} {args : Array Value} {B : Nat} {w : World} {n : Grown B w} {v : Value} (hB : B ≤ w.heap.size)
    (h : Calls P f args n.val fun e w' => e = .returned v ∧ Below n.val.heap.size n.val w') : Calls P f args n.val fun e w'' => e = .returned v ∧ ∃ m : Grown B w, w'' = m.val :=
  h.mono fun _ w'' ⟨he, hb⟩ => ⟨he, ⟨w'', below_thru n.old hB hb⟩, rfl⟩
theorem BoxAt.grown {w : World} {p : Nat} {cs : Array Value} (h : BoxAt w p cs) (n : Grown w.heap.size w) : BoxAt n.val p cs := h.below n.old
end Go.Proofs.YtmmnjdhmankieaaDoor
/-
  Proved: spec.l6Form says whether every node of an expression has its kind's form; the memory that was there stays as it was.
-/
namespace Go.Proofs.YtmmnjdhmankieaaDoor
open Go.RowKit

theorem box_of {w wr : World} {cs : Array Value} {T : TypeId} (h : Below (w.heap.size + 1) (w.alloc (.cells cs T)) wr) : BoxAt wr w.heap.size cs :=
  (BoxAt.new w cs T).below (by simpa using h)
theorem ex_kind {w : World} {d : Nat} {k : Int} {c1 c2 c3 c4 c5 : Value} {e : Ex} (h : ExAt w d (.agg #[.int .i64 k, c1, c2, c3, c4, c5]) e) : e.kind = k := by
  cases d with
  | zero => exact h.elim
  | succ d =>
    cases e with
    | node kd nm n ty es =>
      obtain ⟨d3, d4, sl, hv, _⟩ := h
      injection hv with hv
      injection hv with hv
      simp at hv
      exact hv.1.symm
theorem form_of {kd : Int} {nm : ByteArray} {n : Int} {ty : Ty} {es : List Ex} {b c : Bool} {r : Int} (h1 : Ex.forms es = true) (h2 : bareB kd es = true) (h3 : fieldsB kd nm n ty = b) (h4 : arity kd = r) (h5 : c = (b && decide ((es.length : Int) = r))) : (Ex.node kd nm n ty es).form = c := by
  subst h3 h4 h5
  simp only [Ex.form, h1, h2, fitsB, fieldsB, Bool.true_and]
  rw [Bool.and_comm]
set_option maxRecDepth 100000 in
set_option maxHeartbeats 4000000 in
theorem specExForm : ∀ (d : Nat) (v : Value) (t : Ex) (w : World), ExAt w d v t → t.bulk ≤ 1048576 →
    Calls Tryd.prog 84 #[v] w fun e w' => e = .returned (.bool t.form) ∧ Below w.heap.size w w'
  | 0, _, _, _, h, _ => h.elim
  | d + 1, v, .node kd nm n ty es, w, h, hsz => by
    have IH : Hid (∀ (v : Value) (t : Ex) (w : World), ExAt w d v t → t.bulk ≤ 1048576 → Calls Tryd.prog 84 #[v] w fun e w' => e = .returned (.bool t.form) ∧ Below w.heap.size w w') := specExForm d
    have HWH := Lib.hid h
    have HBK := Lib.hid hsz
    have HV := ex_parts h
    obtain ⟨c3, c4, sl, rfl, hk0, hk1, hn0, hn1, hnm, hty, a, cap, rfl, hcap, hcap2, hat⟩ := h
    obtain ⟨k', nm', n', tk, ta, tn, tc, sa, sn, sc, hv⟩ := HV
    injection hv with hv
    injection hv with hv
    simp at hv
    obtain ⟨rfl, rfl, rfl, rfl, rfl, rfl, rfl, rfl⟩ := hv
    have HAT := Lib.hid hat; clear hat
    have hbk : (Ex.node kd nm n ty es).bulk = nm.size + (ty.size - 1) + Ex.bulks es := rfl
    have HSZ : Hid (Ex.bulks es ≤ 1048576) := by show _ ≤ _; omega
    have HNM : Hid (nm.size ≤ 1048576) := by show _ ≤ _; omega
    have HTZ : Hid (ty.size ≤ 1048577) := by show _ ≤ _; omega
    have hlen : es.length ≤ 1048576 := by have := Ex.length_le es; omega
    clear hsz hbk hty
    go_enter Tryd.func84, Tryd.ntmps84
    go_wp2_with fail
    go_loopw [3] (fun i wr => ∃ k : Nat, k ≤ es.length ∧ i = .int .i64 k ∧ Ex.forms (es.take k) = true ∧ Below (w.heap.size + 1) (w.alloc (.cells #[.int .i64 kd, .string nm, .int .i64 n, .int .i64 tk, .slice ta tn tc, .slice a es.length cap] 37)) wr) (fun i _ => es.length - (intOf i).toNat)
    case atStart => exact ⟨0, by omega, rfl, by simp [Ex.forms], Below.refl _ _⟩
    case round =>
      obtain ⟨k, hk, rfl, hf, hb⟩ := hrel
      have HF := Lib.hid hf; clear hf
      have b0 := box_cell hb 0
      have b1 := box_cell hb 1
      have b2 := box_cell hb 2
      have b3 := box_cell hb 3
      have b4 := box_cell hb 4
      have b5 := box_cell hb 5
      have HB := Lib.hid (box_below hb)
      have HBX := Lib.hid hb; clear hb
      have HS2 := HSZ.out
      by_cases hlt : k < es.length
      · obtain ⟨b, off, x0, x1, x2, x3, x4, x5, rfl, hbl, hc0, hc1, hc2, hc3, hc4, hc5, ht⟩ := HAT.out k hlt
        have hg := Ex.bulk_get es k hlt
        have e0 : wr.cell? ⟨b, off + k * 6, none⟩ = some (x0) := by rw [HB.out.cell (p := ⟨b, off + k * 6, none⟩) hbl]; exact hc0
        have e1 : wr.cell? ⟨b, off + k * 6 + 1, none⟩ = some (x1) := by rw [HB.out.cell (p := ⟨b, off + k * 6 + 1, none⟩) hbl]; exact hc1
        have e2 : wr.cell? ⟨b, off + k * 6 + 2, none⟩ = some (x2) := by rw [HB.out.cell (p := ⟨b, off + k * 6 + 2, none⟩) hbl]; exact hc2
        have e3 : wr.cell? ⟨b, off + k * 6 + 3, none⟩ = some (x3) := by rw [HB.out.cell (p := ⟨b, off + k * 6 + 3, none⟩) hbl]; exact hc3
        have e4 : wr.cell? ⟨b, off + k * 6 + 4, none⟩ = some (x4) := by rw [HB.out.cell (p := ⟨b, off + k * 6 + 4, none⟩) hbl]; exact hc4
        have e5 : wr.cell? ⟨b, off + k * 6 + 5, none⟩ = some (x5) := by rw [HB.out.cell (p := ⟨b, off + k * 6 + 5, none⟩) hbl]; exact hc5
        have HT := Lib.hid (ht.below HB.out)
        clear ht hc0 hc1 hc2 hc3 hc4 hc5
        go_wp2_with fail
        refine (IH.out _ _ _ HT.out (by omega)).mono ?_
        rintro e w' ⟨rfl, hb1⟩
        have HN := Lib.hid (box_next HBX.out hb1); clear hb1
        have HT2 := Lib.hid (Ex.forms_take es k hlt)
        cases hfk : es[k].form with
        | true =>
          have HFK := Lib.hid hfk; clear hfk
          go_wp2_with fail
          exact ⟨⟨k + 1, by omega, by go_num, by rw [HT2.out, HF.out, HFK.out]; rfl, HN.out⟩, by simp [intOf]; omega⟩
        | false =>
          have HFK := Lib.hid hfk; clear hfk
          go_wp2_with fail
          go_ret
          have e : Ex.forms es = false := Ex.forms_false es (k + 1) (by rw [HT2.out, HF.out, HFK.out]; rfl)
          exact ⟨by simp [Ex.form, e], box_below HN.out⟩
      · obtain rfl : k = es.length := by omega
        have HFT : Hid (Ex.forms es = true) := by have := HF.out; rw [List.take_length] at this; exact this
        clear HF
        have XA := Lib.hid (box_of HBX.out)
        have HW2 := Lib.hid (HWH.out.below HB.out)
        clear HWH HBX
        by_cases q : kd = 14
        · subst q
          by_cases q0 : es.length = 0
          · have HBARE : Hid (bareB 14 es = true) := by
              have e0 : es = [] := List.length_eq_zero_iff.1 q0
              show _ = _
              rw [e0]; rfl
            go_wp2_with fail
            clear q0
            have C1 : ∀ q : Grown wr.heap.size wr, Calls Tryd.prog 87 #[.agg #[.int .i64 14, .string nm, .int .i64 n, .int .i64 tk, .slice ta tn tc, .slice a es.length cap]] q.val fun e w' => e = .returned (.bool (fieldsB 14 nm n ty)) ∧ Below q.val.heap.size q.val w' := fun q => specFields d _ 14 nm n ty es _ (HW2.out.below q.old) HBK.out
            have C2 : ∀ q : Grown wr.heap.size wr, Calls Tryd.prog 88 #[.int .i64 14] q.val fun e w' => e = .returned (.int .i64 (arity 14)) ∧ Below q.val.heap.size q.val w' := fun q => specArity _ _
            obtain ⟨fb, hfb⟩ : ∃ b, fieldsB 14 nm n ty = b := ⟨_, rfl⟩
            obtain ⟨r, hr⟩ : ∃ r, arity 14 = r := ⟨_, rfl⟩
            rw [hfb] at C1
            rw [hr] at C2
            have HFB := Lib.hid hfb
            have HR := Lib.hid hr
            clear hfb hr
            have g0 : ∀ q : Grown wr.heap.size wr, q.val.cell? ⟨w.heap.size, 0, none⟩ = _ := fun q => (XA.out.grown q).2 0
            have g1 : ∀ q : Grown wr.heap.size wr, q.val.cell? ⟨w.heap.size, 1, none⟩ = _ := fun q => (XA.out.grown q).2 1
            have g2 : ∀ q : Grown wr.heap.size wr, q.val.cell? ⟨w.heap.size, 2, none⟩ = _ := fun q => (XA.out.grown q).2 2
            have g3 : ∀ q : Grown wr.heap.size wr, q.val.cell? ⟨w.heap.size, 3, none⟩ = _ := fun q => (XA.out.grown q).2 3
            have g4 : ∀ q : Grown wr.heap.size wr, q.val.cell? ⟨w.heap.size, 4, none⟩ = _ := fun q => (XA.out.grown q).2 4
            have g5 : ∀ q : Grown wr.heap.size wr, q.val.cell? ⟨w.heap.size, 5, none⟩ = _ := fun q => (XA.out.grown q).2 5
            clear b0 b1 b2 b3 b4 b5 XA HW2
            cases fb
            case false =>
              refine wp_region_grown wr.heap.size (by kernel_rfl) (by kernel_rfl) ?_
              repeat (go_big_quiet_step ((first | (go_at_call 87; exact grown_of (Nat.le_refl _) (C1 _)) | (go_at_call 88; exact grown_of (Nat.le_refl _) (C2 _)))))
              refine wpQuiet_nil ?_
              rintro _ ⟨⟨wq, hq⟩, rfl⟩
              go_wp2_with fail
              go_ret
              exact ⟨by rw [form_of HFT.out HBARE.out HFB.out HR.out (c := false) (by simp)]; rfl, below_thru HB.out (Nat.le_refl _) hq⟩
            case true =>
              by_cases qa : (es.length : Int) = r
              · have qb : ((es.length : Int) == r) = true := by simp [qa]
                refine wp_region_grown wr.heap.size (by kernel_rfl) (by kernel_rfl) ?_
                repeat (go_big_quiet_step ((first | (go_at_call 87; exact grown_of (Nat.le_refl _) (C1 _)) | (go_at_call 88; exact grown_of (Nat.le_refl _) (C2 _)))))
                refine wpQuiet_nil ?_
                rintro _ ⟨⟨wq, hq⟩, rfl⟩
                go_wp2_with fail
                go_ret
                exact ⟨by rw [form_of HFT.out HBARE.out HFB.out HR.out (c := true) (by simp [qa])]; rfl, below_thru HB.out (Nat.le_refl _) hq⟩
              · have qb : ((es.length : Int) == r) = false := by simp [qa]
                refine wp_region_grown wr.heap.size (by kernel_rfl) (by kernel_rfl) ?_
                repeat (go_big_quiet_step ((first | (go_at_call 87; exact grown_of (Nat.le_refl _) (C1 _)) | (go_at_call 88; exact grown_of (Nat.le_refl _) (C2 _)))))
                refine wpQuiet_nil ?_
                rintro _ ⟨⟨wq, hq⟩, rfl⟩
                go_wp2_with fail
                go_ret
                exact ⟨by rw [form_of HFT.out HBARE.out HFB.out HR.out (c := false) (by simp [qa])]; rfl, below_thru HB.out (Nat.le_refl _) hq⟩
          · obtain ⟨b, off, x0, x1, x2, x3, x4, x5, rfl, hbl, hc0, hc1, hc2, hc3, hc4, hc5, ht⟩ := HAT.out 0 (by omega)
            obtain ⟨yk, ynm, yn, ytk, yta, ytn, ytc, ya, ym, yc, rfl, rfl, rfl, rfl, rfl, rfl⟩ := ex_cells ht
            have e0 : wr.cell? ⟨b, off, none⟩ = some (.int .i64 yk) := by have := HB.out.cell (p := ⟨b, off, none⟩) hbl; rw [this]; simpa using hc0
            have hkind : es[0].kind = yk := ex_kind ht
            have HKIND := Lib.hid hkind
            clear ht hc0 hc1 hc2 hc3 hc4 hc5 hkind
            have hpos : 0 < es.length := by omega
            by_cases q2 : yk = 14
            · subst q2
              go_wp2_with fail
              go_ret
              have e : bareB 14 es = false := by cases es with | nil => simp at hpos | cons x r => simpa [bareB] using HKIND.out
              exact ⟨by simp [Ex.form, e], HB.out⟩
            · have q2b : (yk == 14) = false := by simp [q2]
              have HBARE : Hid (bareB 14 es = true) := by cases es with | nil => rfl | cons x r => have := HKIND.out; simp at this; show _ = _; simp [bareB, this, q2]
              go_wp2_with fail
              have C1 : ∀ q : Grown wr.heap.size wr, Calls Tryd.prog 87 #[.agg #[.int .i64 14, .string nm, .int .i64 n, .int .i64 tk, .slice ta tn tc, .slice (some ⟨b, off, none⟩) es.length cap]] q.val fun e w' => e = .returned (.bool (fieldsB 14 nm n ty)) ∧ Below q.val.heap.size q.val w' := fun q => specFields d _ 14 nm n ty es _ (HW2.out.below q.old) HBK.out
              have C2 : ∀ q : Grown wr.heap.size wr, Calls Tryd.prog 88 #[.int .i64 14] q.val fun e w' => e = .returned (.int .i64 (arity 14)) ∧ Below q.val.heap.size q.val w' := fun q => specArity _ _
              obtain ⟨fb, hfb⟩ : ∃ b, fieldsB 14 nm n ty = b := ⟨_, rfl⟩
              obtain ⟨r, hr⟩ : ∃ r, arity 14 = r := ⟨_, rfl⟩
              rw [hfb] at C1
              rw [hr] at C2
              have HFB := Lib.hid hfb
              have HR := Lib.hid hr
              clear hfb hr
              have g0 : ∀ q : Grown wr.heap.size wr, q.val.cell? ⟨w.heap.size, 0, none⟩ = _ := fun q => (XA.out.grown q).2 0
              have g1 : ∀ q : Grown wr.heap.size wr, q.val.cell? ⟨w.heap.size, 1, none⟩ = _ := fun q => (XA.out.grown q).2 1
              have g2 : ∀ q : Grown wr.heap.size wr, q.val.cell? ⟨w.heap.size, 2, none⟩ = _ := fun q => (XA.out.grown q).2 2
              have g3 : ∀ q : Grown wr.heap.size wr, q.val.cell? ⟨w.heap.size, 3, none⟩ = _ := fun q => (XA.out.grown q).2 3
              have g4 : ∀ q : Grown wr.heap.size wr, q.val.cell? ⟨w.heap.size, 4, none⟩ = _ := fun q => (XA.out.grown q).2 4
              have g5 : ∀ q : Grown wr.heap.size wr, q.val.cell? ⟨w.heap.size, 5, none⟩ = _ := fun q => (XA.out.grown q).2 5
              clear b0 b1 b2 b3 b4 b5 XA HW2
              cases fb
              case false =>
                refine wp_region_grown wr.heap.size (by kernel_rfl) (by kernel_rfl) ?_
                repeat (go_big_quiet_step ((first | (go_at_call 87; exact grown_of (Nat.le_refl _) (C1 _)) | (go_at_call 88; exact grown_of (Nat.le_refl _) (C2 _)))))
                refine wpQuiet_nil ?_
                rintro _ ⟨⟨wq, hq⟩, rfl⟩
                go_wp2_with fail
                go_ret
                exact ⟨by rw [form_of HFT.out HBARE.out HFB.out HR.out (c := false) (by simp)]; rfl, below_thru HB.out (Nat.le_refl _) hq⟩
              case true =>
                by_cases qa : (es.length : Int) = r
                · have qb : ((es.length : Int) == r) = true := by simp [qa]
                  refine wp_region_grown wr.heap.size (by kernel_rfl) (by kernel_rfl) ?_
                  repeat (go_big_quiet_step ((first | (go_at_call 87; exact grown_of (Nat.le_refl _) (C1 _)) | (go_at_call 88; exact grown_of (Nat.le_refl _) (C2 _)))))
                  refine wpQuiet_nil ?_
                  rintro _ ⟨⟨wq, hq⟩, rfl⟩
                  go_wp2_with fail
                  go_ret
                  exact ⟨by rw [form_of HFT.out HBARE.out HFB.out HR.out (c := true) (by simp [qa])]; rfl, below_thru HB.out (Nat.le_refl _) hq⟩
                · have qb : ((es.length : Int) == r) = false := by simp [qa]
                  refine wp_region_grown wr.heap.size (by kernel_rfl) (by kernel_rfl) ?_
                  repeat (go_big_quiet_step ((first | (go_at_call 87; exact grown_of (Nat.le_refl _) (C1 _)) | (go_at_call 88; exact grown_of (Nat.le_refl _) (C2 _)))))
                  refine wpQuiet_nil ?_
                  rintro _ ⟨⟨wq, hq⟩, rfl⟩
                  go_wp2_with fail
                  go_ret
                  exact ⟨by rw [form_of HFT.out HBARE.out HFB.out HR.out (c := false) (by simp [qa])]; rfl, below_thru HB.out (Nat.le_refl _) hq⟩
        · have qb0 : (kd == 14) = false := by simp [q]
          have HBARE : Hid (bareB kd es = true) := by cases es with | nil => rfl | cons x r => show _ = _; simp [bareB, q]
          go_wp2_with fail
          have C1 : ∀ q : Grown wr.heap.size wr, Calls Tryd.prog 87 #[.agg #[.int .i64 kd, .string nm, .int .i64 n, .int .i64 tk, .slice ta tn tc, .slice a es.length cap]] q.val fun e w' => e = .returned (.bool (fieldsB kd nm n ty)) ∧ Below q.val.heap.size q.val w' := fun q => specFields d _ kd nm n ty es _ (HW2.out.below q.old) HBK.out
          have C2 : ∀ q : Grown wr.heap.size wr, Calls Tryd.prog 88 #[.int .i64 kd] q.val fun e w' => e = .returned (.int .i64 (arity kd)) ∧ Below q.val.heap.size q.val w' := fun q => specArity _ _
          obtain ⟨fb, hfb⟩ : ∃ b, fieldsB kd nm n ty = b := ⟨_, rfl⟩
          obtain ⟨r, hr⟩ : ∃ r, arity kd = r := ⟨_, rfl⟩
          rw [hfb] at C1
          rw [hr] at C2
          have HFB := Lib.hid hfb
          have HR := Lib.hid hr
          clear hfb hr
          have g0 : ∀ q : Grown wr.heap.size wr, q.val.cell? ⟨w.heap.size, 0, none⟩ = _ := fun q => (XA.out.grown q).2 0
          have g1 : ∀ q : Grown wr.heap.size wr, q.val.cell? ⟨w.heap.size, 1, none⟩ = _ := fun q => (XA.out.grown q).2 1
          have g2 : ∀ q : Grown wr.heap.size wr, q.val.cell? ⟨w.heap.size, 2, none⟩ = _ := fun q => (XA.out.grown q).2 2
          have g3 : ∀ q : Grown wr.heap.size wr, q.val.cell? ⟨w.heap.size, 3, none⟩ = _ := fun q => (XA.out.grown q).2 3
          have g4 : ∀ q : Grown wr.heap.size wr, q.val.cell? ⟨w.heap.size, 4, none⟩ = _ := fun q => (XA.out.grown q).2 4
          have g5 : ∀ q : Grown wr.heap.size wr, q.val.cell? ⟨w.heap.size, 5, none⟩ = _ := fun q => (XA.out.grown q).2 5
          clear b0 b1 b2 b3 b4 b5 XA HW2
          cases fb
          case false =>
            refine wp_region_grown wr.heap.size (by kernel_rfl) (by kernel_rfl) ?_
            repeat (go_big_quiet_step ((first | (go_at_call 87; exact grown_of (Nat.le_refl _) (C1 _)) | (go_at_call 88; exact grown_of (Nat.le_refl _) (C2 _)))))
            refine wpQuiet_nil ?_
            rintro _ ⟨⟨wq, hq⟩, rfl⟩
            go_wp2_with fail
            go_ret
            exact ⟨by rw [form_of HFT.out HBARE.out HFB.out HR.out (c := false) (by simp)]; rfl, below_thru HB.out (Nat.le_refl _) hq⟩
          case true =>
            by_cases qa : (es.length : Int) = r
            · have qb : ((es.length : Int) == r) = true := by simp [qa]
              refine wp_region_grown wr.heap.size (by kernel_rfl) (by kernel_rfl) ?_
              repeat (go_big_quiet_step ((first | (go_at_call 87; exact grown_of (Nat.le_refl _) (C1 _)) | (go_at_call 88; exact grown_of (Nat.le_refl _) (C2 _)))))
              refine wpQuiet_nil ?_
              rintro _ ⟨⟨wq, hq⟩, rfl⟩
              go_wp2_with fail
              go_ret
              exact ⟨by rw [form_of HFT.out HBARE.out HFB.out HR.out (c := true) (by simp [qa])]; rfl, below_thru HB.out (Nat.le_refl _) hq⟩
            · have qb : ((es.length : Int) == r) = false := by simp [qa]
              refine wp_region_grown wr.heap.size (by kernel_rfl) (by kernel_rfl) ?_
              repeat (go_big_quiet_step ((first | (go_at_call 87; exact grown_of (Nat.le_refl _) (C1 _)) | (go_at_call 88; exact grown_of (Nat.le_refl _) (C2 _)))))
              refine wpQuiet_nil ?_
              rintro _ ⟨⟨wq, hq⟩, rfl⟩
              go_wp2_with fail
              go_ret
              exact ⟨by rw [form_of HFT.out HBARE.out HFB.out HR.out (c := false) (by simp [qa])]; rfl, below_thru HB.out (Nat.le_refl _) hq⟩
end Go.Proofs.YtmmnjdhmankieaaDoor
/-
  Proved: spec.l6Left takes an expression's nodes but its marks from what is left; the memory that was there stays as it was.
-/
namespace Go.Proofs.YtmmnjdhmankieaaDoor
open Go.RowKit

/-- What is left of a room behind an expression: below 0 only where it did not fit or has no right form. -/
def LeftsTo (t : Ex) (left r : Int) : Prop := -1 ≤ r ∧ r ≤ left ∧ (0 ≤ r → r = left - t.count) ∧ (t.form = true → (t.count : Int) ≤ left → 0 ≤ r)
/-- The same behind the first k parts. -/
def PartTo (es : List Ex) (k : Nat) (left m : Int) : Prop := -1 ≤ m ∧ m ≤ left ∧ (0 ≤ m → m = left - Ex.counts (es.take k)) ∧ (Ex.forms es = true → (Ex.counts es : Int) ≤ left → 0 ≤ m)
theorem PartTo.start {es : List Ex} {left : Int} (h : -1 ≤ left) : PartTo es 0 left left := by
  refine ⟨h, by omega, fun _ => by simp [Ex.counts], fun _ hc => by omega⟩
theorem PartTo.next {es : List Ex} {k : Nat} {left m r : Int} (h : PartTo es k left m) (hlt : k < es.length) (hm : 0 ≤ m) (h1 : LeftsTo es[k] m r) : PartTo es (k + 1) left r := by
  obtain ⟨a0, a1, a2, a3⟩ := h
  obtain ⟨b0, b1, b2, b3⟩ := h1
  have e := Ex.counts_take es k hlt
  have c := Ex.counts_le_all es (k + 1)
  have h0 := a2 hm
  refine ⟨b0, by omega, fun hr => by have := b2 hr; omega, fun hf hc => ?_⟩
  exact b3 (Ex.forms_get es k hlt hf) (by omega)
theorem LeftsTo.of_neg {kd : Int} {nm : ByteArray} {n : Int} {ty : Ty} {es : List Ex} {k c : Nat} {left l0 m : Int} (h : PartTo es k l0 m) (hn : m < 0) (hl : l0 ≤ left ∧ left - c ≤ l0 ∧ -1 ≤ l0) (hc : (Ex.node kd nm n ty es).count = c + Ex.counts es) : LeftsTo (.node kd nm n ty es) left m := by
  obtain ⟨a0, a1, a2, a3⟩ := h
  refine ⟨a0, by omega, fun hr => by omega, fun hf hcn => ?_⟩
  simp only [Ex.form, Bool.and_eq_true] at hf
  exact a3 hf.1 (by omega)
theorem LeftsTo.of_all {kd : Int} {nm : ByteArray} {n : Int} {ty : Ty} {es : List Ex} {c : Nat} {left l0 m : Int} (h : PartTo es es.length l0 m) (hl : l0 = left - c) (hc : (Ex.node kd nm n ty es).count = c + Ex.counts es) : LeftsTo (.node kd nm n ty es) left m := by
  obtain ⟨a0, a1, a2, a3⟩ := h
  rw [List.take_length] at a2
  refine ⟨a0, by omega, fun hr => by have := a2 hr; omega, fun hf hcn => ?_⟩
  simp only [Ex.form, Bool.and_eq_true] at hf
  exact a3 hf.1 (by omega)
theorem LeftsTo.bad {t : Ex} {left : Int} (hl : -1 ≤ left) (h : t.form = false) : LeftsTo t left (-1) :=
  ⟨by omega, hl, fun h => by omega, fun hf => by rw [h] at hf; cases hf⟩
set_option maxRecDepth 100000 in
set_option maxHeartbeats 4000000 in
theorem specExLeft : ∀ (d : Nat) (v : Value) (t : Ex) (left : Int) (w : World), 0 ≤ left → left ≤ 1048576 → ExAt w d v t → t.bulk ≤ 1048576 →
    Calls Tryd.prog 82 #[v, .int .i64 left] w fun e w' => ∃ r, e = .returned (.int .i64 r) ∧ LeftsTo t left r ∧ Below w.heap.size w w'
  | 0, _, _, _, _, _, _, h, _ => h.elim
  | d + 1, v, .node kd nm n ty es, left, w, hl0, hl1, h, hsz => by
    have IH : Hid (∀ (v : Value) (t : Ex) (left : Int) (w : World), 0 ≤ left → left ≤ 1048576 → ExAt w d v t → t.bulk ≤ 1048576 → Calls Tryd.prog 82 #[v, .int .i64 left] w fun e w' => ∃ r, e = .returned (.int .i64 r) ∧ LeftsTo t left r ∧ Below w.heap.size w w') := specExLeft d
    have HV := ex_parts h
    obtain ⟨c3, c4, sl, rfl, hk0, hk1, hn0, hn1, hnm, hty, a, cap, rfl, hcap, hcap2, hat⟩ := h
    obtain ⟨k', nm', n', tk, ta, tn, tc, sa, sn, sc, hv⟩ := HV
    injection hv with hv
    injection hv with hv
    simp at hv
    obtain ⟨rfl, rfl, rfl, rfl, rfl, rfl, rfl, rfl⟩ := hv
    have HAT := Lib.hid hat; clear hat
    have hbk : (Ex.node kd nm n ty es).bulk = nm.size + (ty.size - 1) + Ex.bulks es := rfl
    have HSZ : Hid (Ex.bulks es ≤ 1048576) := by show _ ≤ _; omega
    have HNM : Hid (nm.size ≤ 1048576) := by show _ ≤ _; omega
    have HTZ : Hid (ty.size ≤ 1048577) := by show _ ≤ _; omega
    have hlen : es.length ≤ 1048576 := by have := Ex.length_le es; omega
    clear hsz hbk hty
    by_cases q : kd = 14
    · subst q
      by_cases q1 : es.length = 1
      · have hpos : 0 < es.length := by omega
        have q1b : ((es.length : Int) == 1) = true := by simp [q1]
        have q1c : ((es.length : Int) != 1) = false := by simp [q1]
        clear q1
        obtain ⟨b, off, x0, x1, x2, x3, x4, x5, rfl, hbl, hc0, hc1, hc2, hc3, hc4, hc5, ht⟩ := HAT.out 0 (by omega)
        obtain ⟨yk, ynm, yn, ytk, yta, ytn, ytc, ya, ym, yc, rfl, rfl, rfl, rfl, rfl, rfl⟩ := ex_cells ht
        have HFIRST : Hid ((w.alloc (.cells #[.int .i64 14, .string nm, .int .i64 n, .int .i64 tk, .slice ta tn tc, .slice (some ⟨b, off, none⟩) es.length cap] 37)).cell? ⟨b, off, none⟩ = some (.int .i64 yk)) := by have := (below_alloc w (.cells #[.int .i64 14, .string nm, .int .i64 n, .int .i64 tk, .slice ta tn tc, .slice (some ⟨b, off, none⟩) es.length cap] 37)).cell (p := ⟨b, off, none⟩) hbl; show _ = _; rw [this]; simpa using hc0
        have e9 : w.cell? ⟨b, off, none⟩ = some (.int .i64 yk) := by simpa using hc0
        have HKIND := Lib.hid (ex_kind ht)
        clear ht hc0 hc1 hc2 hc3 hc4 hc5
        have e0 := HFIRST.out
        by_cases q2 : yk = 14
        · subst q2
          have NOFORM : Hid ((Ex.node 14 nm n ty es).form = false) := by
            have e : bareB 14 es = false := by cases es with | nil => simp at hpos | cons x r => simpa [bareB] using HKIND.out
            show _ = _; simp [Ex.form, e]
          go_enter Tryd.func82, Tryd.ntmps82
          go_wp2_with fail
          go_ret
          exact ⟨_, rfl, LeftsTo.bad (by omega) NOFORM.out, Below.refl _ _ |>.alloc (Nat.le_refl _) _⟩
        · have q2b : (yk == 14) = false := by simp [q2]
          have HFIN : Hid ((Ex.node 14 nm n ty es).count = 0 + Ex.counts es) := by show _ = _; simp [Ex.count]
          go_enter Tryd.func82, Tryd.ntmps82
          go_wp2_with fail
          refine (specBit _ _).mono ?_
          rintro e w9 ⟨rfl, rfl⟩
          go_wp2_with fail
          go_loopw [1, 5] (fun l i wr => ∃ (k : Nat) (m : Int), k ≤ es.length ∧ i = .int .i64 k ∧ l = .int .i64 m ∧ PartTo es k (left) m ∧ Below (w.heap.size + 1) (w.alloc (.cells #[.int .i64 14, .string nm, .int .i64 n, .int .i64 tk, .slice ta tn tc, .slice (some ⟨b, off, none⟩) es.length cap] 37)) wr) (fun _ i _ => es.length - (intOf i).toNat)
          case atStart => exact ⟨0, left, by omega, rfl, rfl, PartTo.start (by omega), Below.refl _ _⟩
          case round =>
            obtain ⟨k, m, hk, rfl, rfl, hm, hb⟩ := hrel
            have HM := Lib.hid hm; clear hm
            obtain ⟨mb0, mb1⟩ : -1 ≤ m ∧ m ≤ 1048576 := by have h1 := HM.out.1; have h2 := HM.out.2.1; omega
            have b0 := box_cell hb 0
            have b5 := box_cell hb 5
            have HB := Lib.hid (box_below hb)
            have HBX := Lib.hid hb; clear hb
            have HS2 := HSZ.out
            by_cases hlt : k < es.length
            · by_cases hneg : m < 0
              · go_wp2_with fail
                go_ret
                exact ⟨_, rfl, LeftsTo.of_neg (HM.out) hneg (by omega) HFIN.out, HB.out⟩
              · obtain ⟨b2, off2, x0, x1, x2, x3, x4, x5, hab, hbl, hc0, hc1, hc2, hc3, hc4, hc5, ht⟩ := HAT.out k hlt
                obtain ⟨rfl, rfl⟩ : b = b2 ∧ off = off2 := by simpa using hab
                have hg := Ex.bulk_get es k hlt
                have e0 : wr.cell? ⟨b, off + k * 6, none⟩ = some (x0) := by rw [HB.out.cell (p := ⟨b, off + k * 6, none⟩) hbl]; exact hc0
                have e1 : wr.cell? ⟨b, off + k * 6 + 1, none⟩ = some (x1) := by rw [HB.out.cell (p := ⟨b, off + k * 6 + 1, none⟩) hbl]; exact hc1
                have e2 : wr.cell? ⟨b, off + k * 6 + 2, none⟩ = some (x2) := by rw [HB.out.cell (p := ⟨b, off + k * 6 + 2, none⟩) hbl]; exact hc2
                have e3 : wr.cell? ⟨b, off + k * 6 + 3, none⟩ = some (x3) := by rw [HB.out.cell (p := ⟨b, off + k * 6 + 3, none⟩) hbl]; exact hc3
                have e4 : wr.cell? ⟨b, off + k * 6 + 4, none⟩ = some (x4) := by rw [HB.out.cell (p := ⟨b, off + k * 6 + 4, none⟩) hbl]; exact hc4
                have e5 : wr.cell? ⟨b, off + k * 6 + 5, none⟩ = some (x5) := by rw [HB.out.cell (p := ⟨b, off + k * 6 + 5, none⟩) hbl]; exact hc5
                have HT := Lib.hid (ht.below HB.out)
                clear ht hc0 hc1 hc2 hc3 hc4 hc5
                go_wp2_with fail
                refine (IH.out _ _ m wr (by omega) mb1 HT.out (by omega)).mono ?_
                rintro e w' ⟨r1, rfl, hr1, hb1⟩
                have HN := Lib.hid (box_next HBX.out hb1); clear hb1
                have HNEW := Lib.hid (HM.out.next hlt (by omega) hr1)
                clear hr1
                go_wp2_with fail
                exact ⟨⟨k + 1, _, by omega, by go_num, rfl, HNEW.out, HN.out⟩, by simp [intOf]; omega⟩
            · obtain rfl : k = es.length := by omega
              go_wp2_with fail
              go_ret
              exact ⟨_, rfl, LeftsTo.of_all HM.out (by omega) HFIN.out, HB.out⟩
      · have q1b : ((es.length : Int) == 1) = false := by simp; omega
        have NOFORM : Hid ((Ex.node 14 nm n ty es).form = false) := by
          have e : fitsB 14 nm n ty es.length = false := by
            have : ¬ ((es.length : Int) = arity 14) := by show ¬ (_ = (1 : Int)); omega
            simp [fitsB, this]
          show _ = _; simp [Ex.form, e]
        go_enter Tryd.func82, Tryd.ntmps82
        go_wp2_with fail
        go_ret
        exact ⟨_, rfl, LeftsTo.bad (by omega) NOFORM.out, Below.refl _ _ |>.alloc (Nat.le_refl _) _⟩
    · have qb0 : (kd == 14) = false := by simp [q]
      have HFIN : Hid ((Ex.node kd nm n ty es).count = 1 + Ex.counts es) := by show _ = _; simp [Ex.count, q]
      go_enter Tryd.func82, Tryd.ntmps82
      go_wp2_with fail
      refine (specBit _ _).mono ?_
      rintro e w9 ⟨rfl, rfl⟩
      go_wp2_with fail
      go_loopw [1, 5] (fun l i wr => ∃ (k : Nat) (m : Int), k ≤ es.length ∧ i = .int .i64 k ∧ l = .int .i64 m ∧ PartTo es k (left - 1) m ∧ Below (w.heap.size + 1) (w.alloc (.cells #[.int .i64 kd, .string nm, .int .i64 n, .int .i64 tk, .slice ta tn tc, .slice a es.length cap] 37)) wr) (fun _ i _ => es.length - (intOf i).toNat)
      case atStart => exact ⟨0, left - 1, by omega, rfl, rfl, PartTo.start (by omega), Below.refl _ _⟩
      case round =>
        obtain ⟨k, m, hk, rfl, rfl, hm, hb⟩ := hrel
        have HM := Lib.hid hm; clear hm
        obtain ⟨mb0, mb1⟩ : -1 ≤ m ∧ m ≤ 1048576 := by have h1 := HM.out.1; have h2 := HM.out.2.1; omega
        have b0 := box_cell hb 0
        have b5 := box_cell hb 5
        have HB := Lib.hid (box_below hb)
        have HBX := Lib.hid hb; clear hb
        have HS2 := HSZ.out
        by_cases hlt : k < es.length
        · by_cases hneg : m < 0
          · go_wp2_with fail
            go_ret
            exact ⟨_, rfl, LeftsTo.of_neg (HM.out) hneg (by omega) HFIN.out, HB.out⟩
          · obtain ⟨b, off, x0, x1, x2, x3, x4, x5, rfl, hbl, hc0, hc1, hc2, hc3, hc4, hc5, ht⟩ := HAT.out k hlt
            have hg := Ex.bulk_get es k hlt
            have e0 : wr.cell? ⟨b, off + k * 6, none⟩ = some (x0) := by rw [HB.out.cell (p := ⟨b, off + k * 6, none⟩) hbl]; exact hc0
            have e1 : wr.cell? ⟨b, off + k * 6 + 1, none⟩ = some (x1) := by rw [HB.out.cell (p := ⟨b, off + k * 6 + 1, none⟩) hbl]; exact hc1
            have e2 : wr.cell? ⟨b, off + k * 6 + 2, none⟩ = some (x2) := by rw [HB.out.cell (p := ⟨b, off + k * 6 + 2, none⟩) hbl]; exact hc2
            have e3 : wr.cell? ⟨b, off + k * 6 + 3, none⟩ = some (x3) := by rw [HB.out.cell (p := ⟨b, off + k * 6 + 3, none⟩) hbl]; exact hc3
            have e4 : wr.cell? ⟨b, off + k * 6 + 4, none⟩ = some (x4) := by rw [HB.out.cell (p := ⟨b, off + k * 6 + 4, none⟩) hbl]; exact hc4
            have e5 : wr.cell? ⟨b, off + k * 6 + 5, none⟩ = some (x5) := by rw [HB.out.cell (p := ⟨b, off + k * 6 + 5, none⟩) hbl]; exact hc5
            have HT := Lib.hid (ht.below HB.out)
            clear ht hc0 hc1 hc2 hc3 hc4 hc5
            go_wp2_with fail
            refine (IH.out _ _ m wr (by omega) mb1 HT.out (by omega)).mono ?_
            rintro e w' ⟨r1, rfl, hr1, hb1⟩
            have HN := Lib.hid (box_next HBX.out hb1); clear hb1
            have HNEW := Lib.hid (HM.out.next hlt (by omega) hr1)
            clear hr1
            go_wp2_with fail
            exact ⟨⟨k + 1, _, by omega, by go_num, rfl, HNEW.out, HN.out⟩, by simp [intOf]; omega⟩
        · obtain rfl : k = es.length := by omega
          go_wp2_with fail
          go_ret
          exact ⟨_, rfl, LeftsTo.of_all HM.out (by omega) HFIN.out, HB.out⟩
end Go.Proofs.YtmmnjdhmankieaaDoor
/-
  Proved: spec.DepthOf measures the depth of an expression; the memory that was there stays as it was.
-/
namespace Go.Proofs.YtmmnjdhmankieaaDoor
open Go.RowKit

set_option maxRecDepth 100000 in
set_option maxHeartbeats 2000000 in
theorem specExDepth : ∀ (d : Nat) (v : Value) (t : Ex) (w : World), ExAt w d v t → t.bulk ≤ 1048576 →
    Calls Tryd.prog 83 #[v] w fun e w' => e = .returned (.int .i64 (t.high : Int)) ∧ Below w.heap.size w w'
  | 0, _, _, _, h, _ => h.elim
  | d + 1, v, .node kd nm n ty es, w, h, hsz => by
    have IH : Hid (∀ (v : Value) (t : Ex) (w : World), ExAt w d v t → t.bulk ≤ 1048576 → Calls Tryd.prog 83 #[v] w fun e w' => e = .returned (.int .i64 (t.high : Int)) ∧ Below w.heap.size w w') := specExDepth d
    have HV := ex_parts h
    obtain ⟨c3, c4, sl, rfl, hk0, hk1, hn0, hn1, hnm, hty, a, cap, rfl, hcap, hcap2, hat⟩ := h
    obtain ⟨k', nm', n', tk, ta, tn, tc, sa, sn, sc, hv⟩ := HV
    injection hv with hv
    injection hv with hv
    simp at hv
    obtain ⟨rfl, rfl, rfl, rfl, rfl, rfl, rfl, rfl⟩ := hv
    have HAT := Lib.hid hat; clear hat
    have hbk : (Ex.node kd nm n ty es).bulk = nm.size + (ty.size - 1) + Ex.bulks es := rfl
    have HSZ : Hid (Ex.bulks es ≤ 1048576) := by show _ ≤ _; omega
    have hlen : es.length ≤ 1048576 := by have := Ex.length_le es; omega
    clear hsz hbk hty
    by_cases q : kd = 14
    · subst q
      have HFIN : Hid ((Ex.node 14 nm n ty es).high = Ex.highs es + 0) := by show _ = _; simp [Ex.high]
      go_enter Tryd.func83, Tryd.ntmps83
      go_wp2_with fail
      go_loopw [3, 4] (fun m i wr => ∃ k : Nat, k ≤ es.length ∧ i = .int .i64 k ∧ m = .int .i64 ((Ex.highs (es.take k) : Int)) ∧ Below (w.heap.size + 1) (w.alloc (.cells #[.int .i64 14, .string nm, .int .i64 n, .int .i64 tk, .slice ta tn tc, .slice a es.length cap] 37)) wr) (fun _ i _ => es.length - (intOf i).toNat)
      case atStart => exact ⟨0, by omega, rfl, by simp [Ex.highs], Below.refl _ _⟩
      case round =>
        obtain ⟨k, hk, rfl, rfl, hb⟩ := hrel
        have b0 := box_cell hb 0
        have b5 := box_cell hb 5
        have HB := Lib.hid (box_below hb)
        have HBX := Lib.hid hb; clear hb
        have HS1 := Ex.highs_part es k
        have HS2 := HSZ.out
        by_cases hlt : k < es.length
        · obtain ⟨b, off, x0, x1, x2, x3, x4, x5, rfl, hbl, hc0, hc1, hc2, hc3, hc4, hc5, ht⟩ := HAT.out k hlt
          have hg := Ex.bulk_get es k hlt
          have hg2 := Ex.high_le es[k]
          have hg3 := Ex.highs_part es (k + 1)
          have e0 : wr.cell? ⟨b, off + k * 6, none⟩ = some x0 := by rw [HB.out.cell (p := ⟨b, off + k * 6, none⟩) hbl]; exact hc0
          have e1 : wr.cell? ⟨b, off + k * 6 + 1, none⟩ = some x1 := by rw [HB.out.cell (p := ⟨b, off + k * 6 + 1, none⟩) hbl]; exact hc1
          have e2 : wr.cell? ⟨b, off + k * 6 + 2, none⟩ = some x2 := by rw [HB.out.cell (p := ⟨b, off + k * 6 + 2, none⟩) hbl]; exact hc2
          have e3 : wr.cell? ⟨b, off + k * 6 + 3, none⟩ = some x3 := by rw [HB.out.cell (p := ⟨b, off + k * 6 + 3, none⟩) hbl]; exact hc3
          have e4 : wr.cell? ⟨b, off + k * 6 + 4, none⟩ = some x4 := by rw [HB.out.cell (p := ⟨b, off + k * 6 + 4, none⟩) hbl]; exact hc4
          have e5 : wr.cell? ⟨b, off + k * 6 + 5, none⟩ = some x5 := by rw [HB.out.cell (p := ⟨b, off + k * 6 + 5, none⟩) hbl]; exact hc5
          have HT := Lib.hid (ht.below HB.out)
          have HPX := Lib.hid HBX.out
          clear ht hc0 hc1 hc2 hc3 hc4 hc5
          go_wp2_with fail
          refine (IH.out _ _ _ HT.out (by omega)).mono ?_
          rintro e w' ⟨rfl, hb1⟩
          have HN := Lib.hid (box_next HPX.out hb1); clear hb1
          have HT2 := Lib.hid (Ex.highs_take es k hlt)
          have hg4 : es[k].high ≤ 1048577 := by rw [HT2.out] at hg3; omega
          clear hg3
          go_wp2_with fail
          refine (specMax _ _ w').mono ?_
          rintro e w2 ⟨rfl, rfl⟩
          go_wp2_with fail
          exact ⟨⟨k + 1, by omega, by go_num, by rw [HT2.out]; go_num, HN.out⟩, by simp [intOf]; omega⟩
        · obtain rfl : k = es.length := by omega
          rw [List.take_length] at HS1 ⊢
          go_wp2_with fail
          refine (specBit _ _).mono ?_
          rintro e w9 ⟨rfl, rfl⟩
          go_wp2_with fail
          go_ret
          refine ⟨?_, HB.out⟩
          rw [HFIN.out]
          (first | rfl | (simp; done) | (simp; omega))
    · have qb : (kd == 14) = false := by simp [q]
      have HFIN : Hid ((Ex.node kd nm n ty es).high = Ex.highs es + 1) := by show _ = _; simp [Ex.high, q]
      go_enter Tryd.func83, Tryd.ntmps83
      go_wp2_with fail
      go_loopw [3, 4] (fun m i wr => ∃ k : Nat, k ≤ es.length ∧ i = .int .i64 k ∧ m = .int .i64 ((Ex.highs (es.take k) : Int)) ∧ Below (w.heap.size + 1) (w.alloc (.cells #[.int .i64 kd, .string nm, .int .i64 n, .int .i64 tk, .slice ta tn tc, .slice a es.length cap] 37)) wr) (fun _ i _ => es.length - (intOf i).toNat)
      case atStart => exact ⟨0, by omega, rfl, by simp [Ex.highs], Below.refl _ _⟩
      case round =>
        obtain ⟨k, hk, rfl, rfl, hb⟩ := hrel
        have b0 := box_cell hb 0
        have b5 := box_cell hb 5
        have HB := Lib.hid (box_below hb)
        have HBX := Lib.hid hb; clear hb
        have HS1 := Ex.highs_part es k
        have HS2 := HSZ.out
        by_cases hlt : k < es.length
        · obtain ⟨b, off, x0, x1, x2, x3, x4, x5, rfl, hbl, hc0, hc1, hc2, hc3, hc4, hc5, ht⟩ := HAT.out k hlt
          have hg := Ex.bulk_get es k hlt
          have hg2 := Ex.high_le es[k]
          have hg3 := Ex.highs_part es (k + 1)
          have e0 : wr.cell? ⟨b, off + k * 6, none⟩ = some x0 := by rw [HB.out.cell (p := ⟨b, off + k * 6, none⟩) hbl]; exact hc0
          have e1 : wr.cell? ⟨b, off + k * 6 + 1, none⟩ = some x1 := by rw [HB.out.cell (p := ⟨b, off + k * 6 + 1, none⟩) hbl]; exact hc1
          have e2 : wr.cell? ⟨b, off + k * 6 + 2, none⟩ = some x2 := by rw [HB.out.cell (p := ⟨b, off + k * 6 + 2, none⟩) hbl]; exact hc2
          have e3 : wr.cell? ⟨b, off + k * 6 + 3, none⟩ = some x3 := by rw [HB.out.cell (p := ⟨b, off + k * 6 + 3, none⟩) hbl]; exact hc3
          have e4 : wr.cell? ⟨b, off + k * 6 + 4, none⟩ = some x4 := by rw [HB.out.cell (p := ⟨b, off + k * 6 + 4, none⟩) hbl]; exact hc4
          have e5 : wr.cell? ⟨b, off + k * 6 + 5, none⟩ = some x5 := by rw [HB.out.cell (p := ⟨b, off + k * 6 + 5, none⟩) hbl]; exact hc5
          have HT := Lib.hid (ht.below HB.out)
          have HPX := Lib.hid HBX.out
          clear ht hc0 hc1 hc2 hc3 hc4 hc5
          go_wp2_with fail
          refine (IH.out _ _ _ HT.out (by omega)).mono ?_
          rintro e w' ⟨rfl, hb1⟩
          have HN := Lib.hid (box_next HPX.out hb1); clear hb1
          have HT2 := Lib.hid (Ex.highs_take es k hlt)
          have hg4 : es[k].high ≤ 1048577 := by rw [HT2.out] at hg3; omega
          clear hg3
          go_wp2_with fail
          refine (specMax _ _ w').mono ?_
          rintro e w2 ⟨rfl, rfl⟩
          go_wp2_with fail
          exact ⟨⟨k + 1, by omega, by go_num, by rw [HT2.out]; go_num, HN.out⟩, by simp [intOf]; omega⟩
        · obtain rfl : k = es.length := by omega
          rw [List.take_length] at HS1 ⊢
          go_wp2_with fail
          refine (specBit _ _).mono ?_
          rintro e w9 ⟨rfl, rfl⟩
          go_wp2_with fail
          go_ret
          refine ⟨?_, HB.out⟩
          rw [HFIN.out]
          (first | rfl | (simp; done) | (simp; omega))
end Go.Proofs.YtmmnjdhmankieaaDoor
/-
  Proved: spec.IsValidExpr says whether an expression is valid; the memory that was there stays as it was.
-/
namespace Go.Proofs.YtmmnjdhmankieaaDoor
open Go.RowKit

theorem valid_left {t : Ex} {r : Int} (h : LeftsTo t 40 r) : t.valid = (decide (0 ≤ r) && (decide (t.high ≤ 12) && t.form)) := by
  obtain ⟨a0, a1, a2, a3⟩ := h
  by_cases hr : 0 ≤ r
  · have := a2 hr
    have hc : t.count ≤ 40 := by omega
    simp [Ex.valid, hc, hr]
  · cases hf : t.form with
    | false => simp [Ex.valid, hf]
    | true =>
      have hc : ¬ (t.count ≤ 40) := fun hc => hr (a3 hf (by omega))
      simp [Ex.valid, hc, hr]
set_option maxRecDepth 100000 in
set_option maxHeartbeats 2000000 in
theorem specExValid (d : Nat) (v : Value) (t : Ex) (w : World) (h : ExAt w d v t) (hsz : t.bulk ≤ 1048576) :
    Calls Tryd.prog 78 #[v] w fun e w' => e = .returned (.bool t.valid) ∧ Below w.heap.size w w' := by
  have HT := Lib.hid h
  obtain ⟨yk, ynm, yn, ytk, yta, ytn, ytc, ya, ym, yc, rfl⟩ := ex_parts h
  clear h
  have E0 : Below w.heap.size w (w.alloc (.cells #[.int .i64 yk, .string ynm, .int .i64 yn, .int .i64 ytk, .slice yta ytn ytc, .slice ya ym yc] 37)) := below_alloc _ _
  have HT0 := Lib.hid (HT.out.below E0)
  clear E0
  go_enter Tryd.func78, Tryd.ntmps78
  go_wp2_with fail
  refine (specExLeft d _ t 40 _ (by omega) (by omega) HT0.out hsz).mono ?_
  rintro e w1 ⟨r, rfl, hr, hb1⟩
  have B1 := Lib.hid (box_next (Below.refl _ _) hb1); clear hb1
  have hv := valid_left hr
  obtain ⟨hr0, hr1, _, _⟩ := hr
  have HV := Lib.hid hv; clear hv
  have c0 := box_cell B1.out 0
  have c1 := box_cell B1.out 1
  have c2 := box_cell B1.out 2
  have c3 := box_cell B1.out 3
  have c4 := box_cell B1.out 4
  have c5 := box_cell B1.out 5
  by_cases q1 : r < 0
  · go_wp2_with fail
    go_ret
    exact ⟨by rw [HV.out]; simp; omega, box_below B1.out⟩
  · go_wp2_with fail
    refine (specExDepth d _ t _ (HT.out.below (box_below B1.out)) hsz).mono ?_
    rintro e w2 ⟨rfl, hb2⟩
    have B2 := Lib.hid (box_next B1.out hb2); clear hb2 B1 c0 c1 c2 c3 c4 c5
    have c0 := box_cell B2.out 0
    have c1 := box_cell B2.out 1
    have c2 := box_cell B2.out 2
    have c3 := box_cell B2.out 3
    have c4 := box_cell B2.out 4
    have c5 := box_cell B2.out 5
    have hdl : t.high ≤ 1048577 := by have := t.high_le; omega
    by_cases q2 : t.high ≤ 12
    · go_wp2_with fail
      refine (specExForm d _ t _ (HT.out.below (box_below B2.out)) hsz).mono ?_
      rintro e w3 ⟨rfl, hb3⟩
      have B3 := Lib.hid (box_next B2.out hb3); clear hb3 B2 c0 c1 c2 c3 c4 c5
      go_wp2_with fail
      go_ret
      exact ⟨by rw [HV.out]; simp [q2, show 0 ≤ r by omega], box_below B3.out⟩
    · go_wp2_with fail
      go_ret
      exact ⟨by rw [HV.out]; simp [q2], box_below B2.out⟩
end Go.Proofs.YtmmnjdhmankieaaDoor
/-
  Proved: spec.l6Has says whether a kind occurs in an expression; the memory that was there stays as it was.
-/
namespace Go.Proofs.YtmmnjdhmankieaaDoor
open Go.RowKit

set_option maxRecDepth 100000 in
set_option maxHeartbeats 2000000 in
theorem specExHas (x : Int) : ∀ (d : Nat) (v : Value) (t : Ex) (w : World), ExAt w d v t → t.bulk ≤ 1048576 → Calls Tryd.prog 79 #[v, .int .i64 x] w fun e w' => e = .returned (.bool (t.has x)) ∧ Below w.heap.size w w'
  | 0, _, _, _, h, _ => h.elim
  | d + 1, v, .node kd nm n ty es, w, h, hsz => by
    have IH : Hid (∀ (v : Value) (t : Ex) (w : World), ExAt w d v t → t.bulk ≤ 1048576 → Calls Tryd.prog 79 #[v, .int .i64 x] w fun e w' => e = .returned (.bool (t.has x)) ∧ Below w.heap.size w w') := specExHas x d
    have HV := ex_parts h
    obtain ⟨c3, c4, sl, rfl, hk0, hk1, hn0, hn1, hnm, hty, a, cap, rfl, hcap, hcap2, hat⟩ := h
    obtain ⟨k', nm', n', tk, ta, tn, tc, sa, sn, sc, hv⟩ := HV
    injection hv with hv
    injection hv with hv
    simp at hv
    obtain ⟨rfl, rfl, rfl, rfl, rfl, rfl, rfl, rfl⟩ := hv
    have HAT := Lib.hid hat; clear hat
    have hbk : (Ex.node kd nm n ty es).bulk = nm.size + (ty.size - 1) + Ex.bulks es := rfl
    have HSZ : Hid (Ex.bulks es ≤ 1048576) := by show _ ≤ _; omega
    have HNM : Hid (nm.size ≤ 1048576) := by show _ ≤ _; omega
    have HTZ : Hid (ty.size ≤ 1048577) := by show _ ≤ _; omega
    have hlen : es.length ≤ 1048576 := by have := Ex.length_le es; omega
    clear hsz hbk hty
    go_enter Tryd.func79, Tryd.ntmps79
    go_wp2_with fail
    go_loopw [5] (fun i wr => ∃ k : Nat, k ≤ es.length ∧ i = .int .i64 k ∧ Ex.hass x (es.take k) = false ∧ Below (w.heap.size + 1) (w.alloc (.cells #[.int .i64 kd, .string nm, .int .i64 n, .int .i64 tk, .slice ta tn tc, .slice a es.length cap] 37)) wr) (fun i _ => es.length - (intOf i).toNat)
    case atStart => exact ⟨0, by omega, rfl, by simp [Ex.hass], Below.refl _ _⟩
    case round =>
      obtain ⟨k, hk, rfl, hf, hb⟩ := hrel
      have HF := Lib.hid hf; clear hf
      have b0 := box_cell hb 0
      have b1 := box_cell hb 1
      have b2 := box_cell hb 2
      have b3 := box_cell hb 3
      have b4 := box_cell hb 4
      have b5 := box_cell hb 5
      have HB := Lib.hid (box_below hb)
      have HBX := Lib.hid hb; clear hb
      have HS2 := HSZ.out
      by_cases hlt : k < es.length
      · obtain ⟨b, off, x0, x1, x2, x3, x4, x5, rfl, hbl, hc0, hc1, hc2, hc3, hc4, hc5, ht⟩ := HAT.out k hlt
        have hg := Ex.bulk_get es k hlt
        have e0 : wr.cell? ⟨b, off + k * 6, none⟩ = some (x0) := by rw [HB.out.cell (p := ⟨b, off + k * 6, none⟩) hbl]; exact hc0
        have e1 : wr.cell? ⟨b, off + k * 6 + 1, none⟩ = some (x1) := by rw [HB.out.cell (p := ⟨b, off + k * 6 + 1, none⟩) hbl]; exact hc1
        have e2 : wr.cell? ⟨b, off + k * 6 + 2, none⟩ = some (x2) := by rw [HB.out.cell (p := ⟨b, off + k * 6 + 2, none⟩) hbl]; exact hc2
        have e3 : wr.cell? ⟨b, off + k * 6 + 3, none⟩ = some (x3) := by rw [HB.out.cell (p := ⟨b, off + k * 6 + 3, none⟩) hbl]; exact hc3
        have e4 : wr.cell? ⟨b, off + k * 6 + 4, none⟩ = some (x4) := by rw [HB.out.cell (p := ⟨b, off + k * 6 + 4, none⟩) hbl]; exact hc4
        have e5 : wr.cell? ⟨b, off + k * 6 + 5, none⟩ = some (x5) := by rw [HB.out.cell (p := ⟨b, off + k * 6 + 5, none⟩) hbl]; exact hc5
        have HT := Lib.hid (ht.below HB.out)
        have HPX := Lib.hid HBX.out
        clear ht hc0 hc1 hc2 hc3 hc4 hc5
        go_wp2_with fail
        refine (IH.out _ _ _ HT.out (by omega)).mono ?_
        rintro e w' ⟨rfl, hb1⟩
        have HN := Lib.hid (box_next HPX.out hb1); clear hb1
        have HT2 := Lib.hid (Ex.hass_take x es k hlt)
        cases hfk : es[k].has x with
        | false =>
          have HFK := Lib.hid hfk; clear hfk
          go_wp2_with fail
          exact ⟨⟨k + 1, by omega, by go_num, by rw [HT2.out, HF.out, HFK.out]; rfl, HN.out⟩, by simp [intOf]; omega⟩
        | true =>
          have HFK := Lib.hid hfk; clear hfk
          go_wp2_with fail
          go_ret
          have e : Ex.hass x es = true := Ex.hass_true x es (k + 1) (by rw [HT2.out, HF.out, HFK.out]; rfl)
          exact ⟨by simp [Ex.has, e], box_below HN.out⟩
      · obtain rfl : k = es.length := by omega
        have HFT : Hid (Ex.hass x es = false) := by have := HF.out; rw [List.take_length] at this; exact this
        by_cases q : kd = x
        · subst q
          go_wp2_with fail
          go_ret
          exact ⟨by simp [Ex.has, HFT.out], HB.out⟩
        · have qb : (kd == x) = false := by simp [q]
          go_wp2_with fail
          go_ret
          exact ⟨by simp [Ex.has, HFT.out, q], HB.out⟩
end Go.Proofs.YtmmnjdhmankieaaDoor
/-
  Proved: spec.IsRaw says whether an expression is valid and has no marks; the memory that was there stays as it was.
-/
namespace Go.Proofs.YtmmnjdhmankieaaDoor
open Go.RowKit

set_option maxRecDepth 100000 in
set_option maxHeartbeats 2000000 in
theorem specExRaw (d : Nat) (v : Value) (t : Ex) (w : World) (h : ExAt w d v t) (hsz : t.bulk ≤ 1048576) :
    Calls Tryd.prog 70 #[v] w fun e w' => e = .returned (.bool (t.valid && !t.has 14)) ∧ Below w.heap.size w w' := by
  have HT := Lib.hid h
  obtain ⟨yk, ynm, yn, ytk, yta, ytn, ytc, ya, ym, yc, rfl⟩ := ex_parts h
  clear h
  have E0 := below_alloc w (.cells #[.int .i64 yk, .string ynm, .int .i64 yn, .int .i64 ytk, .slice yta ytn ytc, .slice ya ym yc] 37)
  have HT0 := Lib.hid (HT.out.below E0)
  clear E0
  go_enter Tryd.func70, Tryd.ntmps70
  go_wp2_with fail
  refine (specExValid d _ t _ HT0.out hsz).mono ?_
  rintro e w1 ⟨rfl, hb⟩
  have B1 := Lib.hid (box_next (Below.refl _ _) hb)
  clear hb
  have c0 := box_cell B1.out 0
  have c1 := box_cell B1.out 1
  have c2 := box_cell B1.out 2
  have c3 := box_cell B1.out 3
  have c4 := box_cell B1.out 4
  have c5 := box_cell B1.out 5
  cases hv0 : t.valid with
  | false =>
    go_wp2_with fail
    go_ret
    exact ⟨by simp [hv0], box_below B1.out⟩
  | true =>
    go_wp2_with fail
    refine (specExHas 14 d _ t _ (HT.out.below (box_below B1.out)) hsz).mono ?_
    rintro e w2 ⟨rfl, hb⟩
    have B2 := Lib.hid (box_next B1.out hb)
    clear hb B1 c0 c1 c2 c3 c4 c5
    go_wp2_with fail
    go_ret
    exact ⟨by simp [hv0], box_below B2.out⟩
end Go.Proofs.YtmmnjdhmankieaaDoor
/-
  Proved: spec.IsEdit says whether an edit is valid; it leaves the memory that was there as it was.
-/
namespace Go.Proofs.YtmmnjdhmankieaaDoor
open Go.RowKit

set_option maxRecDepth 100000 in
set_option maxHeartbeats 2000000 in
theorem specIsEdit (d : Nat) (v : Value) (t : Edi) (w : World) (h : EditAt w d v t) (hn : t.bulk ≤ 1048576) :
    Calls Tryd.prog 53 #[v] w fun e w' => e = .returned (.bool t.okB) ∧ Below w.heap.size w w' := by
  cases t with
  | mk ex ps =>
    obtain ⟨k, nm, n, tk, ta, tn, tc, sa, sn, sc, pa, pn, pc, rfl, he, hp, hl⟩ := h
    dsimp only at he hp hl ⊢
    have hbk : (Edi.mk ex ps).bulk = ex.bulk + ps.length := rfl
    have hn1 : ex.bulk ≤ 1048576 := by omega
    have hn2 : ps.length ≤ 1048576 := by omega
    have HQ : Hid ((Edi.mk ex ps).okB = ((ex.sub ps).isSome && (ex.valid && !ex.has 14))) := rfl
    clear hn hbk hl
    have B : Hid (Below w.heap.size w (w.alloc (.cells #[.int .i64 k, .string nm, .int .i64 n, .int .i64 tk, .slice ta tn tc, .slice sa sn sc, .slice pa pn pc] 39))) := below_alloc _ _
    have XA : Hid (BoxAt (w.alloc (.cells #[.int .i64 k, .string nm, .int .i64 n, .int .i64 tk, .slice ta tn tc, .slice sa sn sc, .slice pa pn pc] 39)) w.heap.size #[.int .i64 k, .string nm, .int .i64 n, .int .i64 tk, .slice ta tn tc, .slice sa sn sc, .slice pa pn pc]) := BoxAt.new _ _ _
    have HE := Lib.hid (he.below B.out)
    have HP := Lib.hid (hp.below B.out)
    clear he hp
    go_enter Tryd.func53, Tryd.ntmps53
    go_wp2_with fail
    refine (specSub d _ _ ex ps _ HE.out HP.out hn1 hn2).mono ?_
    rintro e w1 ⟨s, rfl, hs, hb⟩
    obtain ⟨yk, ynm, yn, ytk, yta, ytn, ytc, ya, ym, yc, rfl⟩ := ex_parts hs.at_
    clear hs
    replace B := Lib.hid (below_thru B.out (Nat.le_refl _) hb)
    replace XA := Lib.hid (XA.out.below hb)
    replace HE := Lib.hid (HE.out.below hb)
    replace HP := Lib.hid (HP.out.below hb)
    clear hb
    cases hq : (ex.sub ps).isSome with
    | false =>
      rw [hq] at HQ
      go_wp2_with fail
      go_ret
      exact ⟨by rw [HQ.out]; rfl, B.out.alloc B.out.size _⟩
    | true =>
      rw [hq] at HQ
      have hb : Below w1.heap.size w1 (w1.alloc (.cells #[.int .i64 yk, .string ynm, .int .i64 yn, .int .i64 ytk, .slice yta ytn ytc, .slice ya ym yc] 37)) := below_alloc _ _
      replace B := Lib.hid (below_thru B.out (Nat.le_refl _) hb)
      replace XA := Lib.hid (XA.out.below hb)
      replace HE := Lib.hid (HE.out.below hb)
      replace HP := Lib.hid (HP.out.below hb)
      clear hb
      have c0 := XA.out.2 0
      have c1 := XA.out.2 1
      have c2 := XA.out.2 2
      have c3 := XA.out.2 3
      have c4 := XA.out.2 4
      have c5 := XA.out.2 5
      go_wp2_with fail
      clear c0 c1 c2 c3 c4 c5
      refine (specExRaw d _ ex _ HE.out hn1).mono ?_
      rintro e w2 ⟨rfl, hb⟩
      replace B := Lib.hid (below_thru B.out (Nat.le_refl _) hb)
      replace XA := Lib.hid (XA.out.below hb)
      replace HE := Lib.hid (HE.out.below hb)
      replace HP := Lib.hid (HP.out.below hb)
      clear hb
      go_wp2_with fail
      go_ret
      exact ⟨by rw [HQ.out]; rfl, B.out⟩
end Go.Proofs.YtmmnjdhmankieaaDoor
/-
  Proved: what a move of the cursor gives; plain facts.
-/
namespace Go.Proofs.YtmmnjdhmankieaaDoor
open Go.RowKit

/-- The edit with the cursor at another path, if that is valid. -/
def Edi.to (t : Edi) (ps : List Int) : Edi × Bool := if t.okB && (Edi.mk t.ex ps).okB then (⟨t.ex, ps⟩, true) else (t, false)
def Edi.upB (t : Edi) : Edi × Bool := if t.path.length = 0 then (t, false) else t.to (t.path.take (t.path.length - 1))
/-- How a function ends that gives an edit in blocks of its own and a truth value. -/
def EdEnd (d : Nat) (r : Edi) (b : Bool) (w : World) (e : Ending) (w' : World) : Prop :=
  ∃ v, e = .returned (.tuple #[v, .bool b]) ∧ EditUp w.heap.size w' d v r ∧ Below w.heap.size w w'
theorem edit_ex {w : World} {d : Nat} {a : Edi} {k nm n tk ta tn tc sa sn sc pa pn pc} (h : EditAt w d (.agg #[.int .i64 k, .string nm, .int .i64 n, .int .i64 tk, .slice ta tn tc, .slice sa sn sc, .slice pa pn pc]) a) : ExAt w d (.agg #[.int .i64 k, .string nm, .int .i64 n, .int .i64 tk, .slice ta tn tc, .slice sa sn sc]) a.ex := by
  obtain ⟨k, nm, n, tk, ta, tn, tc, sa, sn, sc, pa, pn, pc, hv, he, hp, hl⟩ := h
  cases hv; exact he
theorem edit_path {w : World} {d : Nat} {a : Edi} {k nm n tk ta tn tc sa sn sc pa pn pc} (h : EditAt w d (.agg #[.int .i64 k, .string nm, .int .i64 n, .int .i64 tk, .slice ta tn tc, .slice sa sn sc, .slice pa pn pc]) a) : Ints w (.slice pa pn pc) a.path := by
  obtain ⟨k, nm, n, tk, ta, tn, tc, sa, sn, sc, pa, pn, pc, hv, he, hp, hl⟩ := h
  cases hv; exact hp
theorem EditUp.mono {B B' : Nat} {w : World} {d : Nat} {v : Value} {a : Edi} (h : EditUp B' w d v a) (hB : B ≤ B') : EditUp B w d v a :=
  fun w2 hs hk => h w2 hs fun b hb hl => hk b (Nat.le_trans hB hb) hl
/-- An append in a list of operations. -/
theorem wpList_append_any {P : Program} {w : World} {ops : Array Oper} {rest : List Oper} {o : Oper} {a : Act} {Q : Exit → Act → World → Prop} (hgd : o.guard = none) (s x : Operand) (t : TypeId)
    (ho : o.op = .call { callee := .builtin .append, args := #[s, x], argTypes := #[t, t] }) (v xv : Value) (hs : a.eval s = v) (hx : a.eval x = xv) {R : Value → World → Prop}
    (hr : ∃ v' w', (Builtin.append_ #[t, t] o.type #[v, xv]).run P w = .ok v' w' ∧ R v' w') (h : ∀ v' w', R v' w' → wpList P ops Q rest (a.put o.dst v') w') : wpList P ops Q (o :: rest) a w :=
  wpList_plain hgd fun _ hK => by
    obtain ⟨v', w', hr, hR⟩ := hr
    unfold Oper.wp execOp
    simp only [ho, resolve, invoke, builtin, Sem.run_bind, Sem.run_pure, Result.andThen_ok, List.map_toArray, List.map_cons, List.map_nil, hs, hx, hr]
    exact hK _ _ (h v' w' hR)
end Go.Proofs.YtmmnjdhmankieaaDoor
/-
  Proved: spec.l14To gives an edit at another path, or the edit itself.
-/
namespace Go.Proofs.YtmmnjdhmankieaaDoor
open Go.RowKit

set_option maxRecDepth 100000 in
set_option maxHeartbeats 8000000 in
theorem specTo (d : Nat) (v pv : Value) (t : Edi) (ps : List Int) (w : World) (h : EditAt w d v t) (hp2 : Ints w pv ps) (hsz : t.bulk ≤ 1048576) (hn : t.ex.bulk + ps.length ≤ 1048576) :
    Calls Tryd.prog 28 #[v, pv] w (EdEnd d (t.to ps).1 (t.to ps).2 w) := by
  obtain ⟨xk, xnm, xn, xtk, xta, xtn, xtc, xsa, xsn, xsc, xpa, xpn, xpc, rfl⟩ := edit_parts h
  obtain ⟨pa, pc, rfl, hpc, hpat⟩ := hp2
  have hp2 : Ints w (.slice pa ps.length pc) ps := ⟨pa, pc, rfl, hpc, hpat⟩
  clear hpc hpat
  have hn1 : t.ex.bulk ≤ 1048576 := by omega
  have hn2 : ps.length ≤ 1048576 := by omega
  have B : Hid (Below w.heap.size w ((w.alloc (.cells #[.int .i64 xk, .string xnm, .int .i64 xn, .int .i64 xtk, .slice xta xtn xtc, .slice xsa xsn xsc, .slice xpa xpn xpc] 39)).alloc (.cells #[.int .i64 0, .string ⟨#[]⟩, .int .i64 0, .int .i64 0, .slice none 0 0, .slice none 0 0, .slice none 0 0] 39))) := ((Below.refl _ _).alloc (Nat.le_refl _) _).alloc (by simp) _
  have XA : Hid (BoxAt ((w.alloc (.cells #[.int .i64 xk, .string xnm, .int .i64 xn, .int .i64 xtk, .slice xta xtn xtc, .slice xsa xsn xsc, .slice xpa xpn xpc] 39)).alloc (.cells #[.int .i64 0, .string ⟨#[]⟩, .int .i64 0, .int .i64 0, .slice none 0 0, .slice none 0 0, .slice none 0 0] 39)) w.heap.size #[.int .i64 xk, .string xnm, .int .i64 xn, .int .i64 xtk, .slice xta xtn xtc, .slice xsa xsn xsc, .slice xpa xpn xpc]) := (BoxAt.new _ _ _).below (below_alloc _ _)
  have XR : Hid (BoxAt ((w.alloc (.cells #[.int .i64 xk, .string xnm, .int .i64 xn, .int .i64 xtk, .slice xta xtn xtc, .slice xsa xsn xsc, .slice xpa xpn xpc] 39)).alloc (.cells #[.int .i64 0, .string ⟨#[]⟩, .int .i64 0, .int .i64 0, .slice none 0 0, .slice none 0 0, .slice none 0 0] 39)) (w.heap.size + 1) #[.int .i64 0, .string ⟨#[]⟩, .int .i64 0, .int .i64 0, .slice none 0 0, .slice none 0 0, .slice none 0 0]) := box_at (BoxAt.new _ _ _) (by simp)
  have FR : Hid (FreeAt ((w.alloc (.cells #[.int .i64 xk, .string xnm, .int .i64 xn, .int .i64 xtk, .slice xta xtn xtc, .slice xsa xsn xsc, .slice xpa xpn xpc] 39)).alloc (.cells #[.int .i64 0, .string ⟨#[]⟩, .int .i64 0, .int .i64 0, .slice none 0 0, .slice none 0 0, .slice none 0 0] 39)) (w.heap.size + 1)) := free_at (FreeAt.new _ _ _) (by simp)
  have hz0 : ((w.alloc (.cells #[.int .i64 xk, .string xnm, .int .i64 xn, .int .i64 xtk, .slice xta xtn xtc, .slice xsa xsn xsc, .slice xpa xpn xpc] 39)).alloc (.cells #[.int .i64 0, .string ⟨#[]⟩, .int .i64 0, .int .i64 0, .slice none 0 0, .slice none 0 0, .slice none 0 0] 39)).heap.size = w.heap.size + 2 := by simp
  have HA := Lib.hid (h.below B.out)
  have HP := Lib.hid (hp2.below B.out)
  clear h hp2
  have x0 := XA.out.2 0
  have x1 := XA.out.2 1
  have x2 := XA.out.2 2
  have x3 := XA.out.2 3
  have x4 := XA.out.2 4
  have x5 := XA.out.2 5
  go_enter Tryd.func28, Tryd.ntmps28
  go_wp2_with fail
  clear x0 x1 x2 x3 x4 x5
  refine (specExCopy d _ t.ex _ hn1 (edit_ex HA.out)).mono ?_
  rintro e w1 ⟨v1, fp, rfl, ht, hfp, hb⟩
  obtain ⟨yk, ynm, yn, ytk, yta, ytn, ytc, ysa, ysn, ysc, rfl⟩ := ex_parts ht.at_
  have hz1 := hb.size
  rw [hz0] at hz1 hfp
  replace B := Lib.hid (below_thru B.out (Nat.le_refl _) hb)
  replace XA := Lib.hid (XA.out.below hb)
  replace XR := Lib.hid (XR.out.below hb)
  replace FR := Lib.hid (FR.out.below hb)
  replace HA := Lib.hid (HA.out.below hb)
  replace HP := Lib.hid (HP.out.below hb)
  have HO : Hid (ExIn w1 d (.agg #[.int .i64 yk, .string ynm, .int .i64 yn, .int .i64 ytk, .slice yta ytn ytc, .slice ysa ysn ysc]) t.ex (w.heap.size + 2) w1.heap.size) := ⟨fp, ht, hfp, Nat.le_refl _⟩
  clear ht hfp hb hz0
  go_upto_region 2 with (at_builtin; refine wpList_append_any rfl (.tmp 10) (.tmp 11) 28 rfl (.slice (some ⟨_, 0, none⟩) 0 0) (.slice pa ps.length pc) rfl rfl (path_append _ _ _ _ ps (HP.out.below (below_alloc _ _)) hn2) ?_; rintro _ w2 ⟨⟨ga, gc, rfl⟩, hgi, hgb⟩; have hb := below_thru (below_alloc w1 (.cells #[] 3)) (Nat.le_refl _) hgb; have hz2 := hb.size; have hz2b := hgb.size; have HG := Lib.hid hgi; have hzA : (w1.alloc (.cells #[] 3)).heap.size = w1.heap.size + 1 := (by simp); clear hgi hgb)
  have HU : Hid (EditUp (w.heap.size + 2) w2 d (.agg #[.int .i64 yk, .string ynm, .int .i64 yn, .int .i64 ytk, .slice yta ytn ytc, .slice ysa ysn ysc, .slice ga ps.length gc]) ⟨t.ex, ps⟩) := by
    obtain ⟨fp, ht, hf, _⟩ := HO.out
    exact fun W hs hk => ⟨_, _, _, _, _, _, _, _, _, _, _, _, _, rfl, (ht.kept (Nat.le_trans hz2 hs) fun b hbf => by
      have h1 := hf.2 b hbf
      rw [hk b (by omega) (by omega), hb.block b h1.2]).at_, HG.out W (fun b h1 h2 => hk b (by omega) h2), by dsimp only; omega⟩
  replace HU := Lib.hid (HU.out.below (below_alloc w2 (.cells #[.int .i64 yk, .string ynm, .int .i64 yn, .int .i64 ytk, .slice yta ytn ytc, .slice ysa ysn ysc, .slice ga ps.length gc] 39)))
  replace hb := below_thru hb (Nat.le_refl _) (below_alloc w2 (.cells #[.int .i64 yk, .string ynm, .int .i64 yn, .int .i64 ytk, .slice yta ytn ytc, .slice ysa ysn ysc, .slice ga ps.length gc] 39))
  replace B := Lib.hid (below_thru B.out (Nat.le_refl _) hb)
  replace XA := Lib.hid (XA.out.below hb)
  replace XR := Lib.hid (XR.out.below hb)
  replace FR := Lib.hid (FR.out.below hb)
  replace HA := Lib.hid (HA.out.below hb)
  have XC : Hid (BoxAt (w2.alloc (.cells #[.int .i64 yk, .string ynm, .int .i64 yn, .int .i64 ytk, .slice yta ytn ytc, .slice ysa ysn ysc, .slice ga ps.length gc] 39)) w2.heap.size #[.int .i64 yk, .string ynm, .int .i64 yn, .int .i64 ytk, .slice yta ytn ytc, .slice ysa ysn ysc, .slice ga ps.length gc]) := BoxAt.new _ _ _
  have hz3 : (w2.alloc (.cells #[.int .i64 yk, .string ynm, .int .i64 yn, .int .i64 ytk, .slice yta ytn ytc, .slice ysa ysn ysc, .slice ga ps.length gc] 39)).heap.size = w2.heap.size + 1 := by simp
  clear hb HO HG HP hz2b hzA
  generalize (w2.alloc (.cells #[.int .i64 yk, .string ynm, .int .i64 yn, .int .i64 ytk, .slice yta ytn ytc, .slice ysa ysn ysc, .slice ga ps.length gc] 39)) = w3 at B XA XR FR HA HU XC hz3 ⊢
  have x0 := XA.out.2 0
  have x1 := XA.out.2 1
  have x2 := XA.out.2 2
  have x3 := XA.out.2 3
  have x4 := XA.out.2 4
  have x5 := XA.out.2 5
  have x6 := XA.out.2 6
  go_wp2_with fail
  clear x0 x1 x2 x3 x4 x5 x6
  refine (specIsEdit d _ t _ HA.out hsz).mono ?_
  rintro e w4 ⟨he1, hb⟩
  have hz4 := hb.size
  replace B := Lib.hid (below_thru B.out (Nat.le_refl _) hb)
  replace XA := Lib.hid (XA.out.below hb)
  replace XR := Lib.hid (XR.out.below hb)
  replace FR := Lib.hid (FR.out.below hb)
  replace HA := Lib.hid (HA.out.below hb)
  replace XC := Lib.hid (XC.out.below hb)
  replace HU := Lib.hid (HU.out.below hb)
  clear hb
  cases hq : t.okB with
  | false =>
    rw [hq] at he1
    subst he1
    have HQ : Hid (t.to ps = (t, false)) := by show _ = _; unfold Edi.to; rw [hq]; rfl
    clear hq
    have x0 := XA.out.2 0
    have x1 := XA.out.2 1
    have x2 := XA.out.2 2
    have x3 := XA.out.2 3
    have x4 := XA.out.2 4
    have x5 := XA.out.2 5
    have x6 := XA.out.2 6
    go_wp2_with fail
    clear x0 x1 x2 x3 x4 x5 x6
    refine (specCopyEdit d _ t _ HA.out hsz).mono ?_
    rintro e w5 ⟨v5, rfl, hv, hb⟩
    obtain ⟨zk, znm, zn, ztk, zta, ztn, ztc, zsa, zsn, zsc, zpa, zpn, zpc, rfl⟩ := hv.parts
    have HV := Lib.hid hv
    have hz5 := hb.size
    replace B := Lib.hid (below_thru B.out (Nat.le_refl _) hb)
    replace XA := Lib.hid (XA.out.below hb)
    replace XR := Lib.hid (XR.out.below hb)
    replace FR := Lib.hid (FR.out.below hb)
    replace HA := Lib.hid (HA.out.below hb)
    clear hv hb
    have r0 := XR.out.2 0
    have s0 := FR.out.2 0
    have r1 := XR.out.2 1
    have s1 := FR.out.2 1
    have r2 := XR.out.2 2
    have s2 := FR.out.2 2
    have r3 := XR.out.2 3
    have s3 := FR.out.2 3
    have r4 := XR.out.2 4
    have s4 := FR.out.2 4
    have r5 := XR.out.2 5
    have s5 := FR.out.2 5
    have r6 := XR.out.2 6
    have s6 := FR.out.2 6
    go_wp2_with fail
    have XRF : BoxAt (((((((w5.setCell ⟨w.heap.size + 1, 0, none⟩ (.int .i64 zk)).setCell ⟨w.heap.size + 1, 1, none⟩ (.string znm)).setCell ⟨w.heap.size + 1, 2, none⟩ (.int .i64 zn)).setCell ⟨w.heap.size + 1, 3, none⟩ (.int .i64 ztk)).setCell ⟨w.heap.size + 1, 4, none⟩ (.slice zta ztn ztc)).setCell ⟨w.heap.size + 1, 5, none⟩ (.slice zsa zsn zsc)).setCell ⟨w.heap.size + 1, 6, none⟩ (.slice zpa zpn zpc)) (w.heap.size + 1) #[.int .i64 zk, .string znm, .int .i64 zn, .int .i64 ztk, .slice zta ztn ztc, .slice zsa zsn zsc, .slice zpa zpn zpc] := by
      have := (((((((XR.out.put (j := 0) (u := .int .i64 zk) (by simp)).put (j := 1) (u := .string znm) (by simp)).put (j := 2) (u := .int .i64 zn) (by simp)).put (j := 3) (u := .int .i64 ztk) (by simp)).put (j := 4) (u := .slice zta ztn ztc) (by simp)).put (j := 5) (u := .slice zsa zsn zsc) (by simp)).put (j := 6) (u := .slice zpa zpn zpc) (by simp))
      exact this
    have hBF : Below w.heap.size w (((((((w5.setCell ⟨w.heap.size + 1, 0, none⟩ (.int .i64 zk)).setCell ⟨w.heap.size + 1, 1, none⟩ (.string znm)).setCell ⟨w.heap.size + 1, 2, none⟩ (.int .i64 zn)).setCell ⟨w.heap.size + 1, 3, none⟩ (.int .i64 ztk)).setCell ⟨w.heap.size + 1, 4, none⟩ (.slice zta ztn ztc)).setCell ⟨w.heap.size + 1, 5, none⟩ (.slice zsa zsn zsc)).setCell ⟨w.heap.size + 1, 6, none⟩ (.slice zpa zpn zpc)) := (((((((B.out.setCell (by simp) _).setCell (by simp) _).setCell (by simp) _).setCell (by simp) _).setCell (by simp) _).setCell (by simp) _).setCell (by simp) _)
    have hsz : (((((((w5.setCell ⟨w.heap.size + 1, 0, none⟩ (.int .i64 zk)).setCell ⟨w.heap.size + 1, 1, none⟩ (.string znm)).setCell ⟨w.heap.size + 1, 2, none⟩ (.int .i64 zn)).setCell ⟨w.heap.size + 1, 3, none⟩ (.int .i64 ztk)).setCell ⟨w.heap.size + 1, 4, none⟩ (.slice zta ztn ztc)).setCell ⟨w.heap.size + 1, 5, none⟩ (.slice zsa zsn zsc)).setCell ⟨w.heap.size + 1, 6, none⟩ (.slice zpa zpn zpc)).heap.size = w5.heap.size := by simp
    have hkf : ∀ b, b ≠ w.heap.size + 1 → (((((((w5.setCell ⟨w.heap.size + 1, 0, none⟩ (.int .i64 zk)).setCell ⟨w.heap.size + 1, 1, none⟩ (.string znm)).setCell ⟨w.heap.size + 1, 2, none⟩ (.int .i64 zn)).setCell ⟨w.heap.size + 1, 3, none⟩ (.int .i64 ztk)).setCell ⟨w.heap.size + 1, 4, none⟩ (.slice zta ztn ztc)).setCell ⟨w.heap.size + 1, 5, none⟩ (.slice zsa zsn zsc)).setCell ⟨w.heap.size + 1, 6, none⟩ (.slice zpa zpn zpc)).heap[b]? = w5.heap[b]? := fun b hb => by
      rw [heap_setCell_other _ _ _ _ (by simp; omega), heap_setCell_other _ _ _ _ (by simp; omega), heap_setCell_other _ _ _ _ (by simp; omega), heap_setCell_other _ _ _ _ (by simp; omega), heap_setCell_other _ _ _ _ (by simp; omega), heap_setCell_other _ _ _ _ (by simp; omega), heap_setCell_other _ _ _ _ (by simp; omega)]
    generalize (((((((w5.setCell ⟨w.heap.size + 1, 0, none⟩ (.int .i64 zk)).setCell ⟨w.heap.size + 1, 1, none⟩ (.string znm)).setCell ⟨w.heap.size + 1, 2, none⟩ (.int .i64 zn)).setCell ⟨w.heap.size + 1, 3, none⟩ (.int .i64 ztk)).setCell ⟨w.heap.size + 1, 4, none⟩ (.slice zta ztn ztc)).setCell ⟨w.heap.size + 1, 5, none⟩ (.slice zsa zsn zsc)).setCell ⟨w.heap.size + 1, 6, none⟩ (.slice zpa zpn zpc)) = WX at XRF hBF hsz hkf ⊢
    have HVX : EditUp w.heap.size WX d (.agg #[.int .i64 zk, .string znm, .int .i64 zn, .int .i64 ztk, .slice zta ztn ztc, .slice zsa zsn zsc, .slice zpa zpn zpc]) t := (HV.out.kept (by rw [hsz]; exact Nat.le_refl _) fun b hb _ => hkf b (by omega)).mono (by omega)
    have h0 := XRF.2 0
    have h1 := XRF.2 1
    have h2 := XRF.2 2
    have h3 := XRF.2 3
    have h4 := XRF.2 4
    have h5 := XRF.2 5
    have h6 := XRF.2 6
    refine bodyPost_ret (v := .tuple #[.agg #[.int .i64 zk, .string znm, .int .i64 zn, .int .i64 ztk, .slice zta ztn ztc, .slice zsa zsn zsc, .slice zpa zpn zpc], .bool false]) (by simp [results, Tryd.results28, go_sem, h0, h1, h2, h3, h4, h5, h6]) rfl ?_
    rw [HQ.out]
    exact ⟨_, rfl, HVX, hBF⟩
  | true =>
    rw [hq] at he1
    subst he1
    have c0 := XC.out.2 0
    have c1 := XC.out.2 1
    have c2 := XC.out.2 2
    have c3 := XC.out.2 3
    have c4 := XC.out.2 4
    have c5 := XC.out.2 5
    have c6 := XC.out.2 6
    go_wp2_with fail
    clear c0 c1 c2 c3 c4 c5 c6
    refine (specIsEdit d _ ⟨t.ex, ps⟩ _ HU.out.at_ hn).mono ?_
    rintro e w6 ⟨he1, hb⟩
    have hz6 := hb.size
    replace B := Lib.hid (below_thru B.out (Nat.le_refl _) hb)
    replace XA := Lib.hid (XA.out.below hb)
    replace XR := Lib.hid (XR.out.below hb)
    replace FR := Lib.hid (FR.out.below hb)
    replace HA := Lib.hid (HA.out.below hb)
    replace XC := Lib.hid (XC.out.below hb)
    replace HU := Lib.hid (HU.out.below hb)
    clear hb
    cases hq2 : (Edi.mk t.ex ps).okB with
    | false =>
      rw [hq2] at he1
      subst he1
      have HQ : Hid (t.to ps = (t, false)) := by show _ = _; unfold Edi.to; rw [hq, hq2]; rfl
      clear hq hq2
      have x0 := XA.out.2 0
      have x1 := XA.out.2 1
      have x2 := XA.out.2 2
      have x3 := XA.out.2 3
      have x4 := XA.out.2 4
      have x5 := XA.out.2 5
      have x6 := XA.out.2 6
      go_wp2_with fail
      clear x0 x1 x2 x3 x4 x5 x6
      refine (specCopyEdit d _ t _ HA.out hsz).mono ?_
      rintro e w5 ⟨v5, rfl, hv, hb⟩
      obtain ⟨zk, znm, zn, ztk, zta, ztn, ztc, zsa, zsn, zsc, zpa, zpn, zpc, rfl⟩ := hv.parts
      have HV := Lib.hid hv
      have hz5 := hb.size
      replace B := Lib.hid (below_thru B.out (Nat.le_refl _) hb)
      replace XA := Lib.hid (XA.out.below hb)
      replace XR := Lib.hid (XR.out.below hb)
      replace FR := Lib.hid (FR.out.below hb)
      replace HA := Lib.hid (HA.out.below hb)
      clear hv hb
      have r0 := XR.out.2 0
      have s0 := FR.out.2 0
      have r1 := XR.out.2 1
      have s1 := FR.out.2 1
      have r2 := XR.out.2 2
      have s2 := FR.out.2 2
      have r3 := XR.out.2 3
      have s3 := FR.out.2 3
      have r4 := XR.out.2 4
      have s4 := FR.out.2 4
      have r5 := XR.out.2 5
      have s5 := FR.out.2 5
      have r6 := XR.out.2 6
      have s6 := FR.out.2 6
      go_wp2_with fail
      have XRF : BoxAt (((((((w5.setCell ⟨w.heap.size + 1, 0, none⟩ (.int .i64 zk)).setCell ⟨w.heap.size + 1, 1, none⟩ (.string znm)).setCell ⟨w.heap.size + 1, 2, none⟩ (.int .i64 zn)).setCell ⟨w.heap.size + 1, 3, none⟩ (.int .i64 ztk)).setCell ⟨w.heap.size + 1, 4, none⟩ (.slice zta ztn ztc)).setCell ⟨w.heap.size + 1, 5, none⟩ (.slice zsa zsn zsc)).setCell ⟨w.heap.size + 1, 6, none⟩ (.slice zpa zpn zpc)) (w.heap.size + 1) #[.int .i64 zk, .string znm, .int .i64 zn, .int .i64 ztk, .slice zta ztn ztc, .slice zsa zsn zsc, .slice zpa zpn zpc] := by
        have := (((((((XR.out.put (j := 0) (u := .int .i64 zk) (by simp)).put (j := 1) (u := .string znm) (by simp)).put (j := 2) (u := .int .i64 zn) (by simp)).put (j := 3) (u := .int .i64 ztk) (by simp)).put (j := 4) (u := .slice zta ztn ztc) (by simp)).put (j := 5) (u := .slice zsa zsn zsc) (by simp)).put (j := 6) (u := .slice zpa zpn zpc) (by simp))
        exact this
      have hBF : Below w.heap.size w (((((((w5.setCell ⟨w.heap.size + 1, 0, none⟩ (.int .i64 zk)).setCell ⟨w.heap.size + 1, 1, none⟩ (.string znm)).setCell ⟨w.heap.size + 1, 2, none⟩ (.int .i64 zn)).setCell ⟨w.heap.size + 1, 3, none⟩ (.int .i64 ztk)).setCell ⟨w.heap.size + 1, 4, none⟩ (.slice zta ztn ztc)).setCell ⟨w.heap.size + 1, 5, none⟩ (.slice zsa zsn zsc)).setCell ⟨w.heap.size + 1, 6, none⟩ (.slice zpa zpn zpc)) := (((((((B.out.setCell (by simp) _).setCell (by simp) _).setCell (by simp) _).setCell (by simp) _).setCell (by simp) _).setCell (by simp) _).setCell (by simp) _)
      have hsz : (((((((w5.setCell ⟨w.heap.size + 1, 0, none⟩ (.int .i64 zk)).setCell ⟨w.heap.size + 1, 1, none⟩ (.string znm)).setCell ⟨w.heap.size + 1, 2, none⟩ (.int .i64 zn)).setCell ⟨w.heap.size + 1, 3, none⟩ (.int .i64 ztk)).setCell ⟨w.heap.size + 1, 4, none⟩ (.slice zta ztn ztc)).setCell ⟨w.heap.size + 1, 5, none⟩ (.slice zsa zsn zsc)).setCell ⟨w.heap.size + 1, 6, none⟩ (.slice zpa zpn zpc)).heap.size = w5.heap.size := by simp
      have hkf : ∀ b, b ≠ w.heap.size + 1 → (((((((w5.setCell ⟨w.heap.size + 1, 0, none⟩ (.int .i64 zk)).setCell ⟨w.heap.size + 1, 1, none⟩ (.string znm)).setCell ⟨w.heap.size + 1, 2, none⟩ (.int .i64 zn)).setCell ⟨w.heap.size + 1, 3, none⟩ (.int .i64 ztk)).setCell ⟨w.heap.size + 1, 4, none⟩ (.slice zta ztn ztc)).setCell ⟨w.heap.size + 1, 5, none⟩ (.slice zsa zsn zsc)).setCell ⟨w.heap.size + 1, 6, none⟩ (.slice zpa zpn zpc)).heap[b]? = w5.heap[b]? := fun b hb => by
        rw [heap_setCell_other _ _ _ _ (by simp; omega), heap_setCell_other _ _ _ _ (by simp; omega), heap_setCell_other _ _ _ _ (by simp; omega), heap_setCell_other _ _ _ _ (by simp; omega), heap_setCell_other _ _ _ _ (by simp; omega), heap_setCell_other _ _ _ _ (by simp; omega), heap_setCell_other _ _ _ _ (by simp; omega)]
      generalize (((((((w5.setCell ⟨w.heap.size + 1, 0, none⟩ (.int .i64 zk)).setCell ⟨w.heap.size + 1, 1, none⟩ (.string znm)).setCell ⟨w.heap.size + 1, 2, none⟩ (.int .i64 zn)).setCell ⟨w.heap.size + 1, 3, none⟩ (.int .i64 ztk)).setCell ⟨w.heap.size + 1, 4, none⟩ (.slice zta ztn ztc)).setCell ⟨w.heap.size + 1, 5, none⟩ (.slice zsa zsn zsc)).setCell ⟨w.heap.size + 1, 6, none⟩ (.slice zpa zpn zpc)) = WX at XRF hBF hsz hkf ⊢
      have HVX : EditUp w.heap.size WX d (.agg #[.int .i64 zk, .string znm, .int .i64 zn, .int .i64 ztk, .slice zta ztn ztc, .slice zsa zsn zsc, .slice zpa zpn zpc]) t := (HV.out.kept (by rw [hsz]; exact Nat.le_refl _) fun b hb _ => hkf b (by omega)).mono (by omega)
      have h0 := XRF.2 0
      have h1 := XRF.2 1
      have h2 := XRF.2 2
      have h3 := XRF.2 3
      have h4 := XRF.2 4
      have h5 := XRF.2 5
      have h6 := XRF.2 6
      refine bodyPost_ret (v := .tuple #[.agg #[.int .i64 zk, .string znm, .int .i64 zn, .int .i64 ztk, .slice zta ztn ztc, .slice zsa zsn zsc, .slice zpa zpn zpc], .bool false]) (by simp [results, Tryd.results28, go_sem, h0, h1, h2, h3, h4, h5, h6]) rfl ?_
      rw [HQ.out]
      exact ⟨_, rfl, HVX, hBF⟩
    | true =>
      rw [hq2] at he1
      subst he1
      have HQ : Hid (t.to ps = (⟨t.ex, ps⟩, true)) := by show _ = _; unfold Edi.to; rw [hq, hq2]; rfl
      clear hq hq2
      have c0 := XC.out.2 0
      have c1 := XC.out.2 1
      have c2 := XC.out.2 2
      have c3 := XC.out.2 3
      have c4 := XC.out.2 4
      have c5 := XC.out.2 5
      have c6 := XC.out.2 6
      have r0 := XR.out.2 0
      have s0 := FR.out.2 0
      have r1 := XR.out.2 1
      have s1 := FR.out.2 1
      have r2 := XR.out.2 2
      have s2 := FR.out.2 2
      have r3 := XR.out.2 3
      have s3 := FR.out.2 3
      have r4 := XR.out.2 4
      have s4 := FR.out.2 4
      have r5 := XR.out.2 5
      have s5 := FR.out.2 5
      have r6 := XR.out.2 6
      have s6 := FR.out.2 6
      go_wp2_with fail
      have XRF : BoxAt (((((((w6.setCell ⟨w.heap.size + 1, 0, none⟩ (.int .i64 yk)).setCell ⟨w.heap.size + 1, 1, none⟩ (.string ynm)).setCell ⟨w.heap.size + 1, 2, none⟩ (.int .i64 yn)).setCell ⟨w.heap.size + 1, 3, none⟩ (.int .i64 ytk)).setCell ⟨w.heap.size + 1, 4, none⟩ (.slice yta ytn ytc)).setCell ⟨w.heap.size + 1, 5, none⟩ (.slice ysa ysn ysc)).setCell ⟨w.heap.size + 1, 6, none⟩ (.slice ga ps.length gc)) (w.heap.size + 1) #[.int .i64 yk, .string ynm, .int .i64 yn, .int .i64 ytk, .slice yta ytn ytc, .slice ysa ysn ysc, .slice ga ps.length gc] := by
        have := (((((((XR.out.put (j := 0) (u := .int .i64 yk) (by simp)).put (j := 1) (u := .string ynm) (by simp)).put (j := 2) (u := .int .i64 yn) (by simp)).put (j := 3) (u := .int .i64 ytk) (by simp)).put (j := 4) (u := .slice yta ytn ytc) (by simp)).put (j := 5) (u := .slice ysa ysn ysc) (by simp)).put (j := 6) (u := .slice ga ps.length gc) (by simp))
        exact this
      have hBF : Below w.heap.size w (((((((w6.setCell ⟨w.heap.size + 1, 0, none⟩ (.int .i64 yk)).setCell ⟨w.heap.size + 1, 1, none⟩ (.string ynm)).setCell ⟨w.heap.size + 1, 2, none⟩ (.int .i64 yn)).setCell ⟨w.heap.size + 1, 3, none⟩ (.int .i64 ytk)).setCell ⟨w.heap.size + 1, 4, none⟩ (.slice yta ytn ytc)).setCell ⟨w.heap.size + 1, 5, none⟩ (.slice ysa ysn ysc)).setCell ⟨w.heap.size + 1, 6, none⟩ (.slice ga ps.length gc)) := (((((((B.out.setCell (by simp) _).setCell (by simp) _).setCell (by simp) _).setCell (by simp) _).setCell (by simp) _).setCell (by simp) _).setCell (by simp) _)
      have hsz : (((((((w6.setCell ⟨w.heap.size + 1, 0, none⟩ (.int .i64 yk)).setCell ⟨w.heap.size + 1, 1, none⟩ (.string ynm)).setCell ⟨w.heap.size + 1, 2, none⟩ (.int .i64 yn)).setCell ⟨w.heap.size + 1, 3, none⟩ (.int .i64 ytk)).setCell ⟨w.heap.size + 1, 4, none⟩ (.slice yta ytn ytc)).setCell ⟨w.heap.size + 1, 5, none⟩ (.slice ysa ysn ysc)).setCell ⟨w.heap.size + 1, 6, none⟩ (.slice ga ps.length gc)).heap.size = w6.heap.size := by simp
      have hkf : ∀ b, b ≠ w.heap.size + 1 → (((((((w6.setCell ⟨w.heap.size + 1, 0, none⟩ (.int .i64 yk)).setCell ⟨w.heap.size + 1, 1, none⟩ (.string ynm)).setCell ⟨w.heap.size + 1, 2, none⟩ (.int .i64 yn)).setCell ⟨w.heap.size + 1, 3, none⟩ (.int .i64 ytk)).setCell ⟨w.heap.size + 1, 4, none⟩ (.slice yta ytn ytc)).setCell ⟨w.heap.size + 1, 5, none⟩ (.slice ysa ysn ysc)).setCell ⟨w.heap.size + 1, 6, none⟩ (.slice ga ps.length gc)).heap[b]? = w6.heap[b]? := fun b hb => by
        rw [heap_setCell_other _ _ _ _ (by simp; omega), heap_setCell_other _ _ _ _ (by simp; omega), heap_setCell_other _ _ _ _ (by simp; omega), heap_setCell_other _ _ _ _ (by simp; omega), heap_setCell_other _ _ _ _ (by simp; omega), heap_setCell_other _ _ _ _ (by simp; omega), heap_setCell_other _ _ _ _ (by simp; omega)]
      generalize (((((((w6.setCell ⟨w.heap.size + 1, 0, none⟩ (.int .i64 yk)).setCell ⟨w.heap.size + 1, 1, none⟩ (.string ynm)).setCell ⟨w.heap.size + 1, 2, none⟩ (.int .i64 yn)).setCell ⟨w.heap.size + 1, 3, none⟩ (.int .i64 ytk)).setCell ⟨w.heap.size + 1, 4, none⟩ (.slice yta ytn ytc)).setCell ⟨w.heap.size + 1, 5, none⟩ (.slice ysa ysn ysc)).setCell ⟨w.heap.size + 1, 6, none⟩ (.slice ga ps.length gc)) = WX at XRF hBF hsz hkf ⊢
      have HVX : EditUp w.heap.size WX d (.agg #[.int .i64 yk, .string ynm, .int .i64 yn, .int .i64 ytk, .slice yta ytn ytc, .slice ysa ysn ysc, .slice ga ps.length gc]) ⟨t.ex, ps⟩ := (HU.out.kept (by rw [hsz]; exact Nat.le_refl _) fun b hb _ => hkf b (by omega)).mono (by omega)
      have h0 := XRF.2 0
      have h1 := XRF.2 1
      have h2 := XRF.2 2
      have h3 := XRF.2 3
      have h4 := XRF.2 4
      have h5 := XRF.2 5
      have h6 := XRF.2 6
      refine bodyPost_ret (v := .tuple #[.agg #[.int .i64 yk, .string ynm, .int .i64 yn, .int .i64 ytk, .slice yta ytn ytc, .slice ysa ysn ysc, .slice ga ps.length gc], .bool true]) (by simp [results, Tryd.results28, go_sem, h0, h1, h2, h3, h4, h5, h6]) rfl ?_
      rw [HQ.out]
      exact ⟨_, rfl, HVX, hBF⟩
end Go.Proofs.YtmmnjdhmankieaaDoor
/-
  Proved: plain facts on a path without its last step.
-/
namespace Go.Proofs.YtmmnjdhmankieaaDoor
open Go.RowKit

theorem edit_len {w : World} {d : Nat} {a : Edi} {k nm n tk ta tn tc sa sn sc pa pn pc} (h : EditAt w d (.agg #[.int .i64 k, .string nm, .int .i64 n, .int .i64 tk, .slice ta tn tc, .slice sa sn sc, .slice pa pn pc]) a) : pn = a.path.length := by
  obtain ⟨a, c, hv, _⟩ := edit_path h
  cases hv; rfl
theorem path_some {w : World} {pa : Option Addr} {pc n : Nat} {ps : List Int} (h : Ints w (.slice pa n pc) ps) (h0 : 0 < ps.length) : ∃ b off, pa = some ⟨b, off, none⟩ ∧ ps.length ≤ pc := by
  obtain ⟨a, c, hv, hc, hat⟩ := h
  cases hv
  obtain ⟨b, off, rfl, _⟩ := hat 0 h0
  exact ⟨b, off, rfl, hc⟩
theorem path_cut {w : World} {b off pc n : Nat} {ps : List Int} (h : Ints w (.slice (some ⟨b, off, none⟩) n pc) ps) (k : Nat) (hk : k ≤ ps.length) : Ints w (.slice (some ⟨b, off, none⟩) k pc) (ps.take k) := by
  obtain ⟨a, c, hv, hc, hat⟩ := h
  cases hv
  have hl : (ps.take k).length = k := by simp; omega
  refine ⟨_, _, by rw [hl], by omega, fun j hj => ?_⟩
  obtain ⟨b', off', he, hb, hcell⟩ := hat j (by omega)
  exact ⟨b', off', he, hb, by rw [hcell]; simp⟩
end Go.Proofs.YtmmnjdhmankieaaDoor
/-
  Proved: plain facts on a variable that holds a new edit: its block was made before or after the edit's blocks.
-/
namespace Go.Proofs.YtmmnjdhmankieaaDoor
open Go.RowKit

theorem up_cell {w wx : World} {b j : Nat} {u : Value} (h : Below w.heap.size w wx) (hb : w.heap.size ≤ b) : Below w.heap.size w (wx.setCell ⟨b, j, none⟩ u) := h.setCell hb _
theorem box7 {w : World} {p : Nat} {a0 a1 a2 a3 a4 a5 a6 : Value} (h : BoxAt w p #[a0, a1, a2, a3, a4, a5, a6]) :
    w.cell? ⟨p, 0, none⟩ = some a0 ∧ w.cell? ⟨p, 1, none⟩ = some a1 ∧ w.cell? ⟨p, 2, none⟩ = some a2 ∧ w.cell? ⟨p, 3, none⟩ = some a3 ∧ w.cell? ⟨p, 4, none⟩ = some a4 ∧ w.cell? ⟨p, 5, none⟩ = some a5 ∧ w.cell? ⟨p, 6, none⟩ = some a6 :=
  ⟨h.2 0, h.2 1, h.2 2, h.2 3, h.2 4, h.2 5, h.2 6⟩
/-- The variable s holds the edit r.1, all of it made since w; the variable u says whether. -/
def UpAt (w : World) (d : Nat) (r : Edi × Bool) (s u : Value) (wx : World) : Prop :=
  ∃ p zk znm zn ztk zta ztn ztc zsa zsn zsc zpa zpn zpc, s = .pointer (some ⟨p, 0, none⟩) ∧ u = .bool r.2 ∧ w.heap.size ≤ p ∧ BoxAt wx p #[.int .i64 zk, .string znm, .int .i64 zn, .int .i64 ztk, .slice zta ztn ztc, .slice zsa zsn zsc, .slice zpa zpn zpc] ∧ EditUp w.heap.size wx d (.agg #[.int .i64 zk, .string znm, .int .i64 zn, .int .i64 ztk, .slice zta ztn ztc, .slice zsa zsn zsc, .slice zpa zpn zpc]) r.1 ∧ Below w.heap.size w wx
theorem up_new {w w8 : World} {d B : Nat} {r : Edi × Bool} {zk zn ztk : Int} {znm : ByteArray} {zta zsa zpa : Option Addr} {ztn ztc zsn zsc zpn zpc : Nat} {T : TypeId} (G : Below w.heap.size w w8) (Ho : EditUp B w8 d (.agg #[.int .i64 zk, .string znm, .int .i64 zn, .int .i64 ztk, .slice zta ztn ztc, .slice zsa zsn zsc, .slice zpa zpn zpc]) r.1) (hB : w.heap.size ≤ B) :
    UpAt w d r (.pointer (some ⟨w8.heap.size, 0, none⟩)) (.bool r.2) (w8.alloc (.cells #[.int .i64 zk, .string znm, .int .i64 zn, .int .i64 ztk, .slice zta ztn ztc, .slice zsa zsn zsc, .slice zpa zpn zpc] T)) :=
  ⟨w8.heap.size, _, _, _, _, _, _, _, _, _, _, _, _, _, rfl, rfl, G.size, BoxAt.new _ _ _, (Ho.below (below_alloc _ _)).mono hB, G.alloc G.size _⟩
theorem up_old {w w8 : World} {d B p : Nat} {r : Edi × Bool} {zk zn ztk : Int} {znm : ByteArray} {zta zsa zpa : Option Addr} {ztn ztc zsn zsc zpn zpc : Nat} (G : Below w.heap.size w w8) (Ho : EditUp B w8 d (.agg #[.int .i64 zk, .string znm, .int .i64 zn, .int .i64 ztk, .slice zta ztn ztc, .slice zsa zsn zsc, .slice zpa zpn zpc]) r.1) (hB : w.heap.size ≤ B) (hP : w.heap.size ≤ p) (hp : p < B) (X : BoxAt w8 p #[.int .i64 0, .string ⟨#[]⟩, .int .i64 0, .int .i64 0, .slice none 0 0, .slice none 0 0, .slice none 0 0]) :
    UpAt w d r (.pointer (some ⟨p, 0, none⟩)) (.bool r.2) (((((((w8.setCell ⟨p, 0, none⟩ (.int .i64 zk)).setCell ⟨p, 1, none⟩ (.string znm)).setCell ⟨p, 2, none⟩ (.int .i64 zn)).setCell ⟨p, 3, none⟩ (.int .i64 ztk)).setCell ⟨p, 4, none⟩ (.slice zta ztn ztc)).setCell ⟨p, 5, none⟩ (.slice zsa zsn zsc)).setCell ⟨p, 6, none⟩ (.slice zpa zpn zpc)) := by
  refine ⟨p, zk, znm, zn, ztk, zta, ztn, ztc, zsa, zsn, zsc, zpa, zpn, zpc, rfl, rfl, hP, ?_, ?_, (((((((G.setCell hP _).setCell hP _).setCell hP _).setCell hP _).setCell hP _).setCell hP _).setCell hP _)⟩
  · have := (((((((X.put (j := 0) (u := .int .i64 zk) (by simp)).put (j := 1) (u := .string znm) (by simp)).put (j := 2) (u := .int .i64 zn) (by simp)).put (j := 3) (u := .int .i64 ztk) (by simp)).put (j := 4) (u := .slice zta ztn ztc) (by simp)).put (j := 5) (u := .slice zsa zsn zsc) (by simp)).put (j := 6) (u := .slice zpa zpn zpc) (by simp))
    exact this
  · exact (((((((Ho.cell _ hp _).cell _ hp _).cell _ hp _).cell _ hp _).cell _ hp _).cell _ hp _).cell _ hp _).mono hB
end Go.Proofs.YtmmnjdhmankieaaDoor
/-
  Proved: impl.nodeAt finds the node at a path, or gives nil; the memory that was there stays as it was.
-/
namespace Go.Proofs.YtmmnjdhmankieaaDoor
open Go.RowKit

/-- In the world w the pointer s points at a node that reads as e. -/
def PtrAt (w : World) (d : Nat) (s : Value) (e : Ex) : Prop :=
  ∃ b off xk xnm xn xtk xta xtn xtc xa xm xc, s = .pointer (some ⟨b, off, none⟩) ∧ b < w.heap.size ∧ w.cell? ⟨b, off, none⟩ = some (.int .i64 xk) ∧ w.cell? ⟨b, off + 1, none⟩ = some (.string xnm) ∧ w.cell? ⟨b, off + 2, none⟩ = some (.int .i64 xn) ∧ w.cell? ⟨b, off + 3, none⟩ = some (.int .i64 xtk) ∧ w.cell? ⟨b, off + 4, none⟩ = some (.slice xta xtn xtc) ∧ w.cell? ⟨b, off + 5, none⟩ = some (.slice xa xm xc) ∧ ExAt w d (.agg #[.int .i64 xk, .string xnm, .int .i64 xn, .int .i64 xtk, .slice xta xtn xtc, .slice xa xm xc]) e
theorem PtrAt.below {w w' : World} {d : Nat} {s : Value} {e : Ex} (h : PtrAt w d s e) (hb : Below w.heap.size w w') : PtrAt w' d s e := by
  obtain ⟨b, off, xk, xnm, xn, xtk, xta, xtn, xtc, xa, xm, xc, hs, hl, h0, h1, h2, h3, h4, h5, he⟩ := h
  have hk : ∀ o, w'.cell? ⟨b, o, none⟩ = w.cell? ⟨b, o, none⟩ := fun o => hb.cell (p := ⟨b, o, none⟩) hl
  exact ⟨b, off, xk, xnm, xn, xtk, xta, xtn, xtc, xa, xm, xc, hs, Nat.lt_of_lt_of_le hl hb.size, (hk _).trans h0, (hk _).trans h1, (hk _).trans h2, (hk _).trans h3, (hk _).trans h4, (hk _).trans h5, he.below hb⟩
theorem ex_show {w : World} {d : Nat} {c0 c1 c2 c3 c4 c5 : Value} {e : Ex} (h : ExAt w d (.agg #[c0, c1, c2, c3, c4, c5]) e) : ∃ xk xnm xn xtk xta xtn xtc xa xm xc, c0 = .int .i64 xk ∧ c1 = .string xnm ∧ c2 = .int .i64 xn ∧ c3 = .int .i64 xtk ∧ c4 = .slice xta xtn xtc ∧ c5 = .slice xa xm xc := ex_cells h
def NodeAtEnd (d : Nat) (r : Option Ex) (w : World) (e : Ending) (w' : World) : Prop :=
  w' = w ∧ match r with | some x => ∃ s, e = .returned s ∧ PtrAt w d s x | none => e = .returned (.pointer none)
set_option maxRecDepth 100000 in
set_option maxHeartbeats 4000000 in
theorem implNodeAt (d : Nat) (s v : Value) (e : Ex) (ps : List Int) (w : World) (hs : PtrAt w d s e) (hp : Ints w v ps) (hn : ps.length ≤ 1048576) :
    Calls Tryd.prog 56 #[s, v] w (NodeAtEnd d (e.sub ps) w) := by
  obtain ⟨pa, pc, rfl, hpc, hpat⟩ := hp
  have HP := Lib.hid hpat; clear hpat
  obtain ⟨b0, off0, y0, y1, y2, y3, y4, y5, y6, y7, y8, y9, rfl, hbl0, h00⟩ := id hs
  clear h00 hbl0
  go_enter Tryd.func56, Tryd.ntmps56
  go_wp2_with fail
  go_loopw [0, 9] (fun q i wr => ∃ (k : Nat) (x : Ex) (b off : Nat), k ≤ ps.length ∧ i = .int .i64 k ∧ q = .pointer (some ⟨b, off, none⟩) ∧ PtrAt w d q x ∧ e.sub ps = x.sub (ps.drop k) ∧ wr = w) (fun _ i _ => ps.length - (intOf i).toNat)
  case atStart => exact ⟨0, e, b0, off0, by omega, rfl, rfl, hs, by simp, rfl⟩
  case round =>
    obtain ⟨k, x, b, off, hk, rfl, rfl, hx, hsub, hw⟩ := hrel
    subst hw
    have HSUB := Lib.hid hsub; clear hsub
    obtain ⟨b', off', xk, xnm, xn, xtk, xta, xtn, xtc, xa, xm, xc, hptr, hbl, e0, e1, e2, e3, e4, e5, hex⟩ := hx
    injection hptr with hptr
    injection hptr with hptr
    injection hptr with hb1 hb2
    subst hb1 hb2
    by_cases hlt : k < ps.length
    · obtain ⟨bp, offp, rfl, hblp, hcp⟩ := HP.out k hlt
      obtain ⟨rfl, hmc, hc2, hrow⟩ := ex_row hex
      have HROW := Lib.hid hrow; clear hrow
      have HDR := Lib.hid (drop_at ps k hlt)
      obtain ⟨p, hp⟩ : ∃ p, p = ps[k] := ⟨_, rfl⟩
      rw [← hp] at hcp HDR
      clear hp
      by_cases q1 : p < 0
      · have HN : Hid (e.sub ps = none) := by show _ = _; rw [HSUB.out, HDR.out]; exact sub_low q1
        go_wp2_with fail
        go_ret
        exact ⟨rfl, by rw [HN.out]; rfl⟩
      · by_cases q2 : (x.parts.length : Int) ≤ p
        · have HN : Hid (e.sub ps = none) := by show _ = _; rw [HSUB.out, HDR.out]; exact sub_high q2
          go_wp2_with fail
          go_ret
          exact ⟨rfl, by rw [HN.out]; rfl⟩
        · obtain ⟨m, rfl⟩ : ∃ m : Nat, p = m := ⟨p.toNat, by omega⟩
          have hm : m < x.parts.length := by omega
          have HN : Hid (e.sub ps = (x.parts[m]).sub (ps.drop (k + 1))) := by
            show _ = _
            rw [HSUB.out, HDR.out]
            exact sub_step (by omega) (by simpa using hm)
          obtain ⟨bn, offn, z0, z1, z2, z3, z4, z5, rfl, hbn, f0, f1, f2, f3, f4, f5, hz⟩ := HROW.out m hm
          obtain ⟨zk, znm, zn, ztk, zta, ztn, ztc, za, zm, zc, rfl, rfl, rfl, rfl, rfl, rfl⟩ := ex_show hz
          have HX2 : Hid (PtrAt wr d (.pointer (some ⟨bn, offn + m * 6, none⟩)) x.parts[m]) := ⟨bn, offn + m * 6, _, _, _, _, _, _, _, _, _, _, rfl, hbn, f0, f1, f2, f3, f4, f5, hz⟩
          clear f0 f1 f2 f3 f4 f5 hz
          go_wp2_with fail
          exact ⟨⟨k + 1, x.parts[m], bn, offn + m * 6, by omega, by go_num, rfl, HX2.out, HN.out, (by first | trivial | rfl)⟩, by simp [intOf]; omega⟩
    · obtain rfl : k = ps.length := by omega
      have HN : Hid (e.sub ps = some x) := by show _ = _; rw [HSUB.out, List.drop_length]; exact sub_nil x
      have HX2 : Hid (PtrAt wr d (.pointer (some ⟨b, off, none⟩)) x) := ⟨b, off, _, _, _, _, _, _, _, _, _, _, rfl, hbl, e0, e1, e2, e3, e4, e5, hex⟩
      go_wp2_with fail
      go_ret
      refine ⟨rfl, ?_⟩
      rw [HN.out]
      exact ⟨_, rfl, HX2.out⟩
end Go.Proofs.YtmmnjdhmankieaaDoor
/-
  Proved: impl.isWord says whether a text is one of the three words; the memory that was there stays as it was.
-/
namespace Go.Proofs.YtmmnjdhmankieaaDoor
open Go.RowKit

set_option maxRecDepth 100000 in
theorem implWord (s : ByteArray) (w : World) : Calls Tryd.prog 99 #[.string s] w fun e w' => e = .returned (.bool (wordB s)) ∧ w = w' := by
  cases h1 : (s.toList == [105, 102]) with
  | true =>
    go_enter Tryd.func99, Tryd.ntmps99
    go_wp2_with fail
    go_ret
    exact ⟨by simp [wordB, h1], rfl⟩
  | false =>
    cases h2 : (s.toList == [102, 115, 116]) with
    | true =>
      go_enter Tryd.func99, Tryd.ntmps99
      go_wp2_with fail
      go_ret
      exact ⟨by simp [wordB, h1, h2], rfl⟩
    | false =>
      cases h3 : (s.toList == [115, 110, 100]) with
      | true =>
        go_enter Tryd.func99, Tryd.ntmps99
        go_wp2_with fail
        go_ret
        exact ⟨by simp [wordB, h1, h2, h3], rfl⟩
      | false =>
        go_enter Tryd.func99, Tryd.ntmps99
        go_wp2_with fail
        go_ret
        exact ⟨by simp [wordB, h1, h2, h3], rfl⟩
end Go.Proofs.YtmmnjdhmankieaaDoor
/-
  Proved: impl.IsName says whether a text is a name; the memory that was there stays as it was.
-/
namespace Go.Proofs.YtmmnjdhmankieaaDoor
open Go.RowKit

theorem below_iter (w : World) (s : ByteArray) (k : Nat) : Below w.heap.size w (w.iter s k) := (Below.refl _ _).alloc (Nat.le_refl _) _
set_option maxRecDepth 100000 in
set_option maxHeartbeats 4000000 in
theorem implName (s : ByteArray) (w : World) (hs : s.size ≤ 9223372036854775807) : Calls Tryd.prog 95 #[.string s] w fun e w' => e = .returned (.bool (nameB s)) ∧ Below w.heap.size w w' := by
  by_cases r1 : 1 ≤ s.size
  case neg =>
    have hz : s.size = 0 := by omega
    have hl : s.toList = [] := List.eq_nil_of_length_eq_zero (by rw [size_of_toList]; exact hz)
    have h1 : (s.toList == []) = true := by rw [hl]; rfl
    have h2 : s.toList.isEmpty = true := by rw [hl]; rfl
    have HR := Lib.hid r1
    clear hz hl r1
    go_enter Tryd.func95, Tryd.ntmps95
    go_wp2_with fail
    go_ret
    exact ⟨by simp [nameB, HR.out], Below.refl _ _⟩
  have h1 : (s.toList == []) = false := toList_some r1
  have h2 : s.toList.isEmpty = false := by cases hh : s.toList with | nil => rw [hh] at h1; cases h1 | cons a r => rfl
  by_cases r2 : s.size ≤ 5
  case neg =>
    have i2 : (5 : Int) < (s.size : Int) := by omega
    go_enter Tryd.func95, Tryd.ntmps95
    go_wp2_with fail
    go_ret
    exact ⟨by simp [nameB, r2], Below.refl _ _⟩
  have i2 : ¬ ((5 : Int) < (s.size : Int)) := by omega
  cases hw : wordB s with
  | true =>
    go_enter Tryd.func95, Tryd.ntmps95
    go_wp2_with fail
    refine (implWord s w).mono ?_
    rintro e w1 ⟨rfl, rfl⟩
    go_wp2_with fail
    go_ret
    exact ⟨by simp [nameB, hw], Below.refl _ _⟩
  | false =>
    have HNB : Hid (nameB s = okB s s.size) := by show _ = _; simp [nameB, hw, r1, r2]
    go_enter Tryd.func95, Tryd.ntmps95
    go_wp2_with fail
    refine (implWord s w).mono ?_
    rintro e w1 ⟨rfl, rfl⟩
    go_wp2_with fail
    go_loopw [3] (fun _ wr => ∃ k : Nat, wr = w.iter s k ∧ k ≤ s.size ∧ okB s k = true) (fun _ wr => s.size - wr.iterPos w.heap.size)
    case atStart => exact ⟨0, rfl, by omega, rfl⟩
    case round =>
      obtain ⟨k, rfl, hk, hf⟩ := hrel
      have HF := Lib.hid hf; clear hf
      by_cases hlt : k < s.size
      · have HSUC := Lib.hid (okB_succ s k hlt)
        by_cases hasc : (s[k]'hlt).toNat < 128
        · have hnx : ∀ ty, (Instr.next (.pointer (some ⟨w.heap.size, 0, none⟩)) true ty).run Tryd.prog (w.iter s k) = _ := fun ty => run_next_ascii w s k ty hlt hasc
          by_cases l1 : 97 ≤ (s[k]'hlt).toNat ∧ (s[k]'hlt).toNat ≤ 122
          · have OK := Lib.hid (okAt_letter (k := k) l1.1 l1.2)
            obtain ⟨l1a, l1b⟩ := l1
            have l1d : decide ((97 : Int) ≤ ((s[k]'hlt).toNat : Int)) = true := by simpa using (by omega : (97 : Int) ≤ ((s[k]'hlt).toNat : Int))
            have l2d : decide (((s[k]'hlt).toNat : Int) ≤ 122) = true := by simpa using (by omega : ((s[k]'hlt).toNat : Int) ≤ 122)
            clear l1a l1b
            go_wp2_with fail
            all_goals exact ⟨⟨k + 1, rfl, hlt, by rw [HSUC.out, HF.out, OK.out]; rfl⟩, by simp; omega⟩
          · by_cases l3 : 97 ≤ (s[k]'hlt).toNat
            · skip
              by_cases z : k = 0
              · have OK := Lib.hid (okAt_bad (c := (s[k]'hlt).toNat) (k := k) (by omega) (Or.inl z))
                have l1d : decide ((97 : Int) ≤ ((s[k]'hlt).toNat : Int)) = true := by simpa using (by omega : (97 : Int) ≤ ((s[k]'hlt).toNat : Int))
                have l2d : decide (((s[k]'hlt).toNat : Int) ≤ 122) = false := by simpa using (by omega : (122 : Int) < ((s[k]'hlt).toNat : Int))
                have zb : ((k : Int) == 0) = true := by simp [z]
                clear l1 l3 z
                go_wp2_with fail
                all_goals go_ret
                all_goals exact ⟨by rw [HNB.out, okB_false s (k + 1) s.size (by rw [HSUC.out, HF.out, OK.out]; rfl) hlt]; rfl, below_iter _ _ _⟩
              · have zb : ((k : Int) == 0) = false := by simpa using z
                have z1 : 1 ≤ k := by omega
                by_cases g1 : 48 ≤ (s[k]'hlt).toNat ∧ (s[k]'hlt).toNat ≤ 57
                · have OK := Lib.hid (okAt_digit (k := k) z1 g1.1 g1.2)
                  obtain ⟨g1a, g1b⟩ := g1
                  have l1d : decide ((97 : Int) ≤ ((s[k]'hlt).toNat : Int)) = true := by simpa using (by omega : (97 : Int) ≤ ((s[k]'hlt).toNat : Int))
                  have l2d : decide (((s[k]'hlt).toNat : Int) ≤ 122) = false := by simpa using (by omega : (122 : Int) < ((s[k]'hlt).toNat : Int))
                  have g1d : decide ((48 : Int) ≤ ((s[k]'hlt).toNat : Int)) = true := by simpa using (by omega : (48 : Int) ≤ ((s[k]'hlt).toNat : Int))
                  have g2d : decide (((s[k]'hlt).toNat : Int) ≤ 57) = true := by simpa using (by omega : ((s[k]'hlt).toNat : Int) ≤ 57)
                  clear z l1 l3 g1a g1b
                  go_wp2_with fail
                  all_goals exact ⟨⟨k + 1, rfl, hlt, by rw [HSUC.out, HF.out, OK.out]; rfl⟩, by simp; omega⟩
                · have OK := Lib.hid (okAt_bad (c := (s[k]'hlt).toNat) (k := k) (by omega) (Or.inr (by omega)))
                  by_cases g2 : 48 ≤ (s[k]'hlt).toNat
                  · skip
                    have l1d : decide ((97 : Int) ≤ ((s[k]'hlt).toNat : Int)) = true := by simpa using (by omega : (97 : Int) ≤ ((s[k]'hlt).toNat : Int))
                    have l2d : decide (((s[k]'hlt).toNat : Int) ≤ 122) = false := by simpa using (by omega : (122 : Int) < ((s[k]'hlt).toNat : Int))
                    have g1d : decide ((48 : Int) ≤ ((s[k]'hlt).toNat : Int)) = true := by simpa using (by omega : (48 : Int) ≤ ((s[k]'hlt).toNat : Int))
                    have g2d : decide (((s[k]'hlt).toNat : Int) ≤ 57) = false := by simpa using (by omega : (57 : Int) < ((s[k]'hlt).toNat : Int))
                    clear z l1 l3 g1 g2
                    go_wp2_with fail
                    all_goals go_ret
                    all_goals exact ⟨by rw [HNB.out, okB_false s (k + 1) s.size (by rw [HSUC.out, HF.out, OK.out]; rfl) hlt]; rfl, below_iter _ _ _⟩
                  · skip
                    have l1d : decide ((97 : Int) ≤ ((s[k]'hlt).toNat : Int)) = true := by simpa using (by omega : (97 : Int) ≤ ((s[k]'hlt).toNat : Int))
                    have l2d : decide (((s[k]'hlt).toNat : Int) ≤ 122) = false := by simpa using (by omega : (122 : Int) < ((s[k]'hlt).toNat : Int))
                    have g1d : decide ((48 : Int) ≤ ((s[k]'hlt).toNat : Int)) = false := by simpa using (by omega : ((s[k]'hlt).toNat : Int) < 48)
                    clear z l1 l3 g1 g2
                    go_wp2_with fail
                    all_goals go_ret
                    all_goals exact ⟨by rw [HNB.out, okB_false s (k + 1) s.size (by rw [HSUC.out, HF.out, OK.out]; rfl) hlt]; rfl, below_iter _ _ _⟩
            · skip
              by_cases z : k = 0
              · have OK := Lib.hid (okAt_bad (c := (s[k]'hlt).toNat) (k := k) (by omega) (Or.inl z))
                have l1d : decide ((97 : Int) ≤ ((s[k]'hlt).toNat : Int)) = false := by simpa using (by omega : ((s[k]'hlt).toNat : Int) < 97)
                have zb : ((k : Int) == 0) = true := by simp [z]
                clear l1 l3 z
                go_wp2_with fail
                all_goals go_ret
                all_goals exact ⟨by rw [HNB.out, okB_false s (k + 1) s.size (by rw [HSUC.out, HF.out, OK.out]; rfl) hlt]; rfl, below_iter _ _ _⟩
              · have zb : ((k : Int) == 0) = false := by simpa using z
                have z1 : 1 ≤ k := by omega
                by_cases g1 : 48 ≤ (s[k]'hlt).toNat ∧ (s[k]'hlt).toNat ≤ 57
                · have OK := Lib.hid (okAt_digit (k := k) z1 g1.1 g1.2)
                  obtain ⟨g1a, g1b⟩ := g1
                  have l1d : decide ((97 : Int) ≤ ((s[k]'hlt).toNat : Int)) = false := by simpa using (by omega : ((s[k]'hlt).toNat : Int) < 97)
                  have g1d : decide ((48 : Int) ≤ ((s[k]'hlt).toNat : Int)) = true := by simpa using (by omega : (48 : Int) ≤ ((s[k]'hlt).toNat : Int))
                  have g2d : decide (((s[k]'hlt).toNat : Int) ≤ 57) = true := by simpa using (by omega : ((s[k]'hlt).toNat : Int) ≤ 57)
                  clear z l1 l3 g1a g1b
                  go_wp2_with fail
                  all_goals exact ⟨⟨k + 1, rfl, hlt, by rw [HSUC.out, HF.out, OK.out]; rfl⟩, by simp; omega⟩
                · have OK := Lib.hid (okAt_bad (c := (s[k]'hlt).toNat) (k := k) (by omega) (Or.inr (by omega)))
                  by_cases g2 : 48 ≤ (s[k]'hlt).toNat
                  · skip
                    have l1d : decide ((97 : Int) ≤ ((s[k]'hlt).toNat : Int)) = false := by simpa using (by omega : ((s[k]'hlt).toNat : Int) < 97)
                    have g1d : decide ((48 : Int) ≤ ((s[k]'hlt).toNat : Int)) = true := by simpa using (by omega : (48 : Int) ≤ ((s[k]'hlt).toNat : Int))
                    have g2d : decide (((s[k]'hlt).toNat : Int) ≤ 57) = false := by simpa using (by omega : (57 : Int) < ((s[k]'hlt).toNat : Int))
                    clear z l1 l3 g1 g2
                    go_wp2_with fail
                    all_goals go_ret
                    all_goals exact ⟨by rw [HNB.out, okB_false s (k + 1) s.size (by rw [HSUC.out, HF.out, OK.out]; rfl) hlt]; rfl, below_iter _ _ _⟩
                  · skip
                    have l1d : decide ((97 : Int) ≤ ((s[k]'hlt).toNat : Int)) = false := by simpa using (by omega : ((s[k]'hlt).toNat : Int) < 97)
                    have g1d : decide ((48 : Int) ≤ ((s[k]'hlt).toNat : Int)) = false := by simpa using (by omega : ((s[k]'hlt).toNat : Int) < 48)
                    clear z l1 l3 g1 g2
                    go_wp2_with fail
                    all_goals go_ret
                    all_goals exact ⟨by rw [HNB.out, okB_false s (k + 1) s.size (by rw [HSUC.out, HF.out, OK.out]; rfl) hlt]; rfl, below_iter _ _ _⟩
        · have hnx : ∀ ty, (Instr.next (.pointer (some ⟨w.heap.size, 0, none⟩)) true ty).run Tryd.prog (w.iter s k) = _ := fun ty => run_next_any w s k ty hlt
          have hd := (decode_high s k hlt (by omega)).1
          have OK : Hid (okAt (s[k]'hlt).toNat k = false) := okAt_bad (by omega) (Or.inr (by omega))
          have m1 : decide ((97 : Int) ≤ ((Utf8.decode s k).1 : Int)) = true := by simpa using (by omega : (97 : Int) ≤ ((Utf8.decode s k).1 : Int))
          have m2 : decide (((Utf8.decode s k).1 : Int) ≤ 122) = false := by simpa using (by omega : (122 : Int) < ((Utf8.decode s k).1 : Int))
          have m3 : decide ((48 : Int) ≤ ((Utf8.decode s k).1 : Int)) = true := by simpa using (by omega : (48 : Int) ≤ ((Utf8.decode s k).1 : Int))
          have m4 : decide (((Utf8.decode s k).1 : Int) ≤ 57) = false := by simpa using (by omega : (57 : Int) < ((Utf8.decode s k).1 : Int))
          by_cases z : k = 0
          · have zb : ((k : Int) == 0) = true := by simp [z]
            clear z
            go_wp2_with fail
            go_ret
            exact ⟨by rw [HNB.out, okB_false s (k + 1) s.size (by rw [HSUC.out, HF.out, OK.out]; rfl) hlt]; rfl, below_iter _ _ _⟩
          · have zb : ((k : Int) == 0) = false := by simpa using z
            clear z
            go_wp2_with fail
            go_ret
            exact ⟨by rw [HNB.out, okB_false s (k + 1) s.size (by rw [HSUC.out, HF.out, OK.out]; rfl) hlt]; rfl, below_iter _ _ _⟩
      · have hnx : ∀ ty, (Instr.next (.pointer (some ⟨w.heap.size, 0, none⟩)) true ty).run Tryd.prog (w.iter s k) = _ := fun ty => run_next_end w s k ty hlt
        have hks : k = s.size := by omega
        have HK := Lib.hid hks
        clear hks
        go_wp2_with fail
        go_ret
        exact ⟨by rw [HNB.out, ← HK.out, HF.out]; rfl, below_iter _ _ _⟩
end Go.Proofs.YtmmnjdhmankieaaDoor
/-
  Proved: impl.nodeOf says which of the five kinds a type's root has (nil if it has none of their forms), and leaves the memory that was there as it was.
-/
namespace Go.Proofs.YtmmnjdhmankieaaDoor
open Go.RowKit

theorem below_drewN {B : Nat} {a w : World} (h : Below B a w) (n : Nat) : Below B a (w.drewN n) := ⟨h.os, h.tape, h.output, h.size, h.block⟩
/-- What nodeOf gives for a root of kind k with the parts ts. -/
def NodeAt (w : World) (d : Nat) (n : Value) (k : Int) (ts : List Ty) : Prop :=
  (kindOk k ts.length = false ∧ n = .nilIface) ∨
  (kindOk k ts.length = true ∧ ts = [] ∧ ((k = 1 ∧ n = .iface 104 (.agg #[])) ∨ (k = 2 ∧ n = .iface 105 (.agg #[])) ∨ (k = 3 ∧ n = .iface 106 (.agg #[])))) ∨
  (kindOk k ts.length = true ∧ ∃ t1 t2 k1 s1 k2 s2, ts = [t1, t2] ∧ TyAt w d (.agg #[.int .i64 k1, s1]) t1 ∧ TyAt w d (.agg #[.int .i64 k2, s2]) t2 ∧
    ((k = 4 ∧ n = .iface 108 (.agg #[.int .i64 k1, s1, .int .i64 k2, s2])) ∨ (k = 5 ∧ n = .iface 110 (.agg #[.int .i64 k1, s1, .int .i64 k2, s2]))))
def NodeEnd (w0 w : World) (d : Nat) (k : Int) (ts : List Ty) (e : Ending) (w' : World) : Prop :=
  ∃ n, e = .returned n ∧ NodeAt w0 d n k ts ∧ Below w.heap.size w w'
theorem node_bad {w0 w w' : World} {d : Nat} {k : Int} {ts : List Ty} (h : kindOk k ts.length = false) (hb : Below w.heap.size w w') : NodeEnd w0 w d k ts (.returned .nilIface) w' :=
  ⟨_, rfl, Or.inl ⟨h, rfl⟩, hb⟩
theorem two_of {d : Nat} {w : World} {ts : List Ty} {a : Option Addr} (hl : ts.length = 2)
    (hat : ∀ j (h : j < ts.length), ∃ b off c0 c1, a = some ⟨b, off, none⟩ ∧ b < w.heap.size ∧ w.cell? ⟨b, off + j * 2, none⟩ = some c0 ∧ w.cell? ⟨b, off + j * 2 + 1, none⟩ = some c1 ∧ TyAt w d (.agg #[c0, c1]) ts[j]) :
    ∃ t1 t2 k1 s1 n1 c1 k2 s2 n2 c2 b off, ts = [t1, t2] ∧ a = some ⟨b, off, none⟩ ∧ b < w.heap.size ∧ w.cell? ⟨b, off, none⟩ = some (.int .i64 k1) ∧ w.cell? ⟨b, off + 1, none⟩ = some (.slice s1 n1 c1) ∧ w.cell? ⟨b, off + 2, none⟩ = some (.int .i64 k2) ∧ w.cell? ⟨b, off + 3, none⟩ = some (.slice s2 n2 c2) ∧
      TyAt w d (.agg #[.int .i64 k1, .slice s1 n1 c1]) t1 ∧ TyAt w d (.agg #[.int .i64 k2, .slice s2 n2 c2]) t2 := by
  match ts, hl, hat with
  | [t1, t2], _, hat =>
    obtain ⟨b, off, x0, x1, rfl, hbl, h0, h1, ht1⟩ := hat 0 (by simp)
    obtain ⟨b', off', y0, y1, he, _, h2, h3, ht2⟩ := hat 1 (by simp)
    cases he
    obtain ⟨k1, s1, n1, c1, rfl, rfl⟩ := at_parts ht1
    obtain ⟨k2, s2, n2, c2, rfl, rfl⟩ := at_parts ht2
    exact ⟨t1, t2, k1, s1, n1, c1, k2, s2, n2, c2, b, off, rfl, rfl, hbl, by simpa using h0, by simpa using h1, by simpa using h2, by simpa [Nat.add_assoc] using h3, ht1, ht2⟩

set_option maxRecDepth 100000 in
set_option maxHeartbeats 2000000 in
theorem implNode (w0 : World) (d : Nat) (v : Value) (kd : Int) (ts : List Ty) (w : World) (h : TyAt w0 (d + 1) v (.node kd ts)) (hw : Below w0.heap.size w0 w) (hsz : ts.length ≤ 1152921504606846976) :
    Calls Tryd.prog 76 #[v] w (NodeEnd w0 w d kd ts) := by
  have HW := Lib.hid hw; clear hw
  obtain ⟨sl, rfl, hk0, hk1, a, cap, rfl, hcap, hcap2, hat⟩ := h
  have HAT := Lib.hid hat; clear hat
  obtain ⟨n, hn⟩ : ∃ n, n = ts.length := ⟨_, rfl⟩
  have HN := Lib.hid hn
  rw [← hn] at hcap hsz ⊢
  clear hn
  by_cases q1 : kd = 1
  · subst q1
    by_cases z : n = 0
    · subst z
      go_enter Tryd.func76, Tryd.ntmps76
      go_wp2_with fail
      go_ret
      have hts : ts = [] := List.eq_nil_of_length_eq_zero HN.out.symm
      exact ⟨_, rfl, Or.inr (Or.inl ⟨by rw [hts]; rfl, hts, Or.inl ⟨rfl, rfl⟩⟩), below_alloc _ _⟩
    · have z2 : ¬ ((n : Int) = 0) := by omega
      go_enter Tryd.func76, Tryd.ntmps76
      go_wp2_with fail
      go_ret
      exact node_bad (by rw [← HN.out]; simp [kindOk, z]) (below_alloc _ _)
  by_cases q2 : kd = 2
  · subst q2
    by_cases z : n = 0
    · subst z
      go_enter Tryd.func76, Tryd.ntmps76
      go_wp2_with fail
      go_ret
      have hts : ts = [] := List.eq_nil_of_length_eq_zero HN.out.symm
      exact ⟨_, rfl, Or.inr (Or.inl ⟨by rw [hts]; rfl, hts, Or.inr (Or.inl ⟨rfl, rfl⟩)⟩), below_alloc _ _⟩
    · have z2 : ¬ ((n : Int) = 0) := by omega
      go_enter Tryd.func76, Tryd.ntmps76
      go_wp2_with fail
      go_ret
      exact node_bad (by rw [← HN.out]; simp [kindOk, z]) (below_alloc _ _)
  by_cases q3 : kd = 3
  · subst q3
    by_cases z : n = 0
    · subst z
      go_enter Tryd.func76, Tryd.ntmps76
      go_wp2_with fail
      go_ret
      have hts : ts = [] := List.eq_nil_of_length_eq_zero HN.out.symm
      exact ⟨_, rfl, Or.inr (Or.inl ⟨by rw [hts]; rfl, hts, Or.inr (Or.inr ⟨rfl, rfl⟩)⟩), below_alloc _ _⟩
    · have z2 : ¬ ((n : Int) = 0) := by omega
      go_enter Tryd.func76, Tryd.ntmps76
      go_wp2_with fail
      go_ret
      exact node_bad (by rw [← HN.out]; simp [kindOk, z]) (below_alloc _ _)
  by_cases q4 : kd = 4
  · subst q4
    by_cases z : n = 2
    · subst z
      obtain ⟨t1, t2, k1, s1, n1, c1, k2, s2, n2, c2, b, off, hts, rfl, hbl0, g0, g1, g2, g3, ht1, ht2⟩ := two_of HN.out.symm HAT.out
      have HTS := Lib.hid hts
      have H1 := Lib.hid ht1
      have H2 := Lib.hid ht2
      clear hts ht1 ht2 HAT
      have hbl := Nat.lt_of_lt_of_le hbl0 HW.out.size
      have h0 := (HW.out.cell (p := ⟨b, off, none⟩) hbl0).trans g0
      have h1 := (HW.out.cell (p := ⟨b, off + 1, none⟩) hbl0).trans g1
      have h2 := (HW.out.cell (p := ⟨b, off + 2, none⟩) hbl0).trans g2
      have h3 := (HW.out.cell (p := ⟨b, off + 3, none⟩) hbl0).trans g3
      clear g0 g1 g2 g3
      have hb2 : ¬ (b = w.heap.size) := by omega
      go_enter Tryd.func76, Tryd.ntmps76
      go_wp2_with fail
      go_quiet (fail)
      go_wp2_with fail
      go_ret
      have X : ∀ nq, Below w.heap.size w ((w.alloc (.cells #[.int .i64 4, .slice (some ⟨b, off, none⟩) 2 cap] 34)).drewN nq) := fun nq => below_drewN (below_alloc _ _) nq
      exact ⟨_, rfl, Or.inr (Or.inr ⟨by rw [HTS.out]; rfl, t1, t2, k1, _, k2, _, HTS.out, H1.out, H2.out, Or.inl ⟨rfl, rfl⟩⟩), X _⟩
    · have z2 : ¬ ((n : Int) = 2) := by omega
      go_enter Tryd.func76, Tryd.ntmps76
      go_wp2_with fail
      go_ret
      exact node_bad (by rw [← HN.out]; simp [kindOk, z]) (below_alloc _ _)
  by_cases q5 : kd = 5
  · subst q5
    by_cases z : n = 2
    · subst z
      obtain ⟨t1, t2, k1, s1, n1, c1, k2, s2, n2, c2, b, off, hts, rfl, hbl0, g0, g1, g2, g3, ht1, ht2⟩ := two_of HN.out.symm HAT.out
      have HTS := Lib.hid hts
      have H1 := Lib.hid ht1
      have H2 := Lib.hid ht2
      clear hts ht1 ht2 HAT
      have hbl := Nat.lt_of_lt_of_le hbl0 HW.out.size
      have h0 := (HW.out.cell (p := ⟨b, off, none⟩) hbl0).trans g0
      have h1 := (HW.out.cell (p := ⟨b, off + 1, none⟩) hbl0).trans g1
      have h2 := (HW.out.cell (p := ⟨b, off + 2, none⟩) hbl0).trans g2
      have h3 := (HW.out.cell (p := ⟨b, off + 3, none⟩) hbl0).trans g3
      clear g0 g1 g2 g3
      have hb2 : ¬ (b = w.heap.size) := by omega
      go_enter Tryd.func76, Tryd.ntmps76
      go_wp2_with fail
      go_quiet (fail)
      go_wp2_with fail
      go_ret
      have X : ∀ nq, Below w.heap.size w ((w.alloc (.cells #[.int .i64 5, .slice (some ⟨b, off, none⟩) 2 cap] 34)).drewN nq) := fun nq => below_drewN (below_alloc _ _) nq
      exact ⟨_, rfl, Or.inr (Or.inr ⟨by rw [HTS.out]; rfl, t1, t2, k1, _, k2, _, HTS.out, H1.out, H2.out, Or.inr ⟨rfl, rfl⟩⟩), X _⟩
    · have z2 : ¬ ((n : Int) = 2) := by omega
      go_enter Tryd.func76, Tryd.ntmps76
      go_wp2_with fail
      go_ret
      exact node_bad (by rw [← HN.out]; simp [kindOk, z]) (below_alloc _ _)
  go_enter Tryd.func76, Tryd.ntmps76
  go_wp2_with fail
  go_ret
  exact node_bad (by rw [← HN.out]; simp [kindOk, q1, q2, q3, q4, q5]) (below_alloc _ _)
end Go.Proofs.YtmmnjdhmankieaaDoor
/-
  Proved: the method parts of each of the five nodes gives the parts of a type (none for the first three), and leaves the memory that was there as it was; which function a call of parts through the interface runs.
-/
namespace Go.Proofs.YtmmnjdhmankieaaDoor
open Go.RowKit

theorem meth_unknown (n : Nat) (w : World) : (method (n + 1) 104 (.agg #[]) "loop.example/g00585/impl.parts").run Tryd.prog w = .ok (115, .agg #[]) w := by kernel_rfl
theorem meth_num (n : Nat) (w : World) : (method (n + 1) 105 (.agg #[]) "loop.example/g00585/impl.parts").run Tryd.prog w = .ok (116, .agg #[]) w := by kernel_rfl
theorem meth_bool (n : Nat) (w : World) : (method (n + 1) 106 (.agg #[]) "loop.example/g00585/impl.parts").run Tryd.prog w = .ok (117, .agg #[]) w := by kernel_rfl
theorem meth_arrow (n : Nat) (w : World) (a b c d : Value) : (method (n + 1) 108 (.agg #[a, b, c, d]) "loop.example/g00585/impl.parts").run Tryd.prog w = .ok (118, .agg #[a, b, c, d]) w := by kernel_rfl
theorem meth_pair (n : Nat) (w : World) (a b c d : Value) : (method (n + 1) 110 (.agg #[a, b, c, d]) "loop.example/g00585/impl.parts").run Tryd.prog w = .ok (119, .agg #[a, b, c, d]) w := by kernel_rfl

set_option maxRecDepth 100000 in
theorem parts_unknown (w : World) : Calls Tryd.prog 115 #[.agg #[]] w fun e w' => e = .returned (.slice none 0 0) ∧ Below w.heap.size w w' := by
  go_enter Tryd.func115, Tryd.ntmps115
  go_wp2_with fail
  go_ret
  exact ⟨rfl, below_alloc _ _⟩
set_option maxRecDepth 100000 in
theorem parts_num (w : World) : Calls Tryd.prog 116 #[.agg #[]] w fun e w' => e = .returned (.slice none 0 0) ∧ Below w.heap.size w w' := by
  go_enter Tryd.func116, Tryd.ntmps116
  go_wp2_with fail
  go_ret
  exact ⟨rfl, below_alloc _ _⟩
set_option maxRecDepth 100000 in
theorem parts_bool (w : World) : Calls Tryd.prog 117 #[.agg #[]] w fun e w' => e = .returned (.slice none 0 0) ∧ Below w.heap.size w w' := by
  go_enter Tryd.func117, Tryd.ntmps117
  go_wp2_with fail
  go_ret
  exact ⟨rfl, below_alloc _ _⟩
def PartsEnd (w0 : World) (d : Nat) (t1 t2 : Ty) (w : World) (e : Ending) (w' : World) : Prop :=
  ∃ b, e = .returned (.slice (some ⟨b, 0, none⟩) 2 2) ∧ RowIn (TyAt w0 d) w' w.heap.size (.slice (some ⟨b, 0, none⟩) 2 2) [t1, t2] ∧ Below w.heap.size w w'
theorem tys_two {w0 w : World} {d b lo : Nat} {t1 t2 : Ty} {k1 k2 : Int} {s1 s2 : Value} (hlo : lo ≤ b) (hb : b < w.heap.size) (h0 : w.cell? ⟨b, 0, none⟩ = some (.int .i64 k1)) (h1 : w.cell? ⟨b, 1, none⟩ = some s1) (h2 : w.cell? ⟨b, 2, none⟩ = some (.int .i64 k2)) (h3 : w.cell? ⟨b, 3, none⟩ = some s2)
    (ht1 : TyAt w0 d (.agg #[.int .i64 k1, s1]) t1) (ht2 : TyAt w0 d (.agg #[.int .i64 k2, s2]) t2) : RowIn (TyAt w0 d) w lo (.slice (some ⟨b, 0, none⟩) 2 2) [t1, t2] := by
  refine ⟨_, _, rfl, Nat.le_refl _, by simp, fun j hj => ?_⟩
  match j, hj with
  | 0, _ => exact ⟨b, 0, _, _, rfl, hlo, hb, by simpa using h0, by simpa using h1, ht1⟩
  | 1, _ => exact ⟨b, 0, _, _, rfl, hlo, hb, by simpa using h2, by simpa using h3, ht2⟩
theorem box_four {w : World} {a b c d : Value} {T : TypeId} : BoxAt ((w.alloc (.cells #[a, b, c, d] T)).alloc (.cells #[a, b, c, d] 34)) (w.heap.size + 1) #[a, b, c, d] := by
  have h := BoxAt.new (w.alloc (.cells #[a, b, c, d] T)) #[a, b, c, d] 34
  rw [show (w.alloc (.cells #[a, b, c, d] T)).heap.size = w.heap.size + 1 from by simp] at h
  exact h
set_option maxRecDepth 100000 in
set_option maxHeartbeats 1000000 in
theorem parts_arrow (w0 : World) (d : Nat) (t1 t2 : Ty) (k1 k2 : Int) (v1 v2 : Value) (w : World) (h1 : TyAt w0 d (.agg #[.int .i64 k1, v1]) t1) (h2 : TyAt w0 d (.agg #[.int .i64 k2, v2]) t2) :
    Calls Tryd.prog 118 #[.agg #[.int .i64 k1, v1, .int .i64 k2, v2]] w (PartsEnd w0 d t1 t2 w) := by
  obtain ⟨_, s1, n1, c1, _, rfl⟩ := at_parts h1
  obtain ⟨_, s2, n2, c2, _, rfl⟩ := at_parts h2
  have H1 := Lib.hid h1
  have H2 := Lib.hid h2
  clear h1 h2
  go_enter Tryd.func118, Tryd.ntmps118
  go_wp2_with fail
  go_ret
  have X := ((Below.refl w.heap.size w).alloc (Nat.le_refl _) (.cells #[.int .i64 k1, .slice s1 n1 c1, .int .i64 k2, .slice s2 n2 c2] 108)).alloc (by simp) (.cells #[.int .i64 k1, .slice s1 n1 c1, .int .i64 k2, .slice s2 n2 c2] 34)
  have Y := box_four (w := w) (a := .int .i64 k1) (b := .slice s1 n1 c1) (c := .int .i64 k2) (d := .slice s2 n2 c2) (T := 108)
  exact ⟨_, rfl, tys_two (by omega) Y.1 (Y.2 0) (Y.2 1) (Y.2 2) (Y.2 3) H1.out H2.out, X⟩
set_option maxRecDepth 100000 in
set_option maxHeartbeats 1000000 in
theorem parts_pair (w0 : World) (d : Nat) (t1 t2 : Ty) (k1 k2 : Int) (v1 v2 : Value) (w : World) (h1 : TyAt w0 d (.agg #[.int .i64 k1, v1]) t1) (h2 : TyAt w0 d (.agg #[.int .i64 k2, v2]) t2) :
    Calls Tryd.prog 119 #[.agg #[.int .i64 k1, v1, .int .i64 k2, v2]] w (PartsEnd w0 d t1 t2 w) := by
  obtain ⟨_, s1, n1, c1, _, rfl⟩ := at_parts h1
  obtain ⟨_, s2, n2, c2, _, rfl⟩ := at_parts h2
  have H1 := Lib.hid h1
  have H2 := Lib.hid h2
  clear h1 h2
  go_enter Tryd.func119, Tryd.ntmps119
  go_wp2_with fail
  go_ret
  have X := ((Below.refl w.heap.size w).alloc (Nat.le_refl _) (.cells #[.int .i64 k1, .slice s1 n1 c1, .int .i64 k2, .slice s2 n2 c2] 110)).alloc (by simp) (.cells #[.int .i64 k1, .slice s1 n1 c1, .int .i64 k2, .slice s2 n2 c2] 34)
  have Y := box_four (w := w) (a := .int .i64 k1) (b := .slice s1 n1 c1) (c := .int .i64 k2) (d := .slice s2 n2 c2) (T := 110)
  exact ⟨_, rfl, tys_two (by omega) Y.1 (Y.2 0) (Y.2 1) (Y.2 2) (Y.2 3) H1.out H2.out, X⟩
end Go.Proofs.YtmmnjdhmankieaaDoor
/-
  Proved: impl.typeWithin says whether a type's tree has the form of a type and fits into the room and the depth that are left; it counts the room down, and touches nothing else.
-/
namespace Go.Proofs.YtmmnjdhmankieaaDoor
open Go.RowKit

def within (t : Ty) (r dp : Int) : Bool := decide ((t.size : Int) ≤ r) && decide ((t.depth : Int) ≤ dp) && t.form
def WithinEnd (p : Nat) (r dp : Int) (t : Ty) (w : World) (e : Ending) (w' : World) : Prop :=
  ∃ r' : Int, e = .returned (.bool (within t r dp)) ∧ w'.cell? ⟨p, 0, none⟩ = some (.int .i64 r') ∧ w'.frozen? ⟨p, 0, none⟩ = false ∧ r - t.size ≤ r' ∧ r' ≤ r ∧ (within t r dp = true → r' = r - t.size) ∧
    Below p w w' ∧ (∀ b, b < w.heap.size → b ≠ p → w'.heap[b]? = w.heap[b]?)
/-- What the count leaves of memory: below p nothing has changed, nor any old block but p; the room holds r. -/
def Room (p : Nat) (r : Int) (w w' : World) : Prop :=
  w'.cell? ⟨p, 0, none⟩ = some (.int .i64 r) ∧ w'.frozen? ⟨p, 0, none⟩ = false ∧ Below p w w' ∧ (∀ b, b < w.heap.size → b ≠ p → w'.heap[b]? = w.heap[b]?)
theorem Room.stored {p : Nat} {r : Int} {x : Value} {w w2 : World} (hp : p < w.heap.size) (hb : Below w.heap.size w w2) (e0 : w2.cell? ⟨p, 0, none⟩ = some x) (e1 : w2.frozen? ⟨p, 0, none⟩ = false) : Room p r w (w2.setCell ⟨p, 0, none⟩ (.int .i64 r)) := by
  refine ⟨by simp [go_sem, e0], by simp [go_sem, e1], (hb.mono (Nat.le_of_lt hp)).setCell (Nat.le_refl _) _, fun b h1 h2 => ?_⟩
  rw [heap_setCell_other _ _ _ _ h2]
  exact hb.block b h1
theorem Room.below {p : Nat} {r : Int} {w w1 w2 : World} (hp : p < w.heap.size) (h : Room p r w w1) (hb : Below w1.heap.size w1 w2) : Room p r w w2 := by
  obtain ⟨h0, h1, h2, h3⟩ := h
  have hz := h2.size
  refine ⟨(hb.cell (p := ⟨p, 0, none⟩) (Nat.lt_of_lt_of_le hp hz)).trans h0, (hb.frozen (p := ⟨p, 0, none⟩) (Nat.lt_of_lt_of_le hp hz)).trans h1, h2.trans (hb.mono (by omega)), fun b hb1 hb2 => ?_⟩
  rw [hb.block b (by omega)]
  exact h3 b hb1 hb2
theorem Room.on {p : Nat} {r r2 : Int} {w w1 w2 : World} (h : Room p r w w1) (h2 : Room p r2 w1 w2) : Room p r2 w w2 := by
  obtain ⟨_, _, g2, g3⟩ := h
  obtain ⟨k0, k1, k2, k3⟩ := h2
  refine ⟨k0, k1, g2.trans k2, fun b hb1 hb2 => ?_⟩
  rw [k3 b (by have := g2.size; omega) hb2]
  exact g3 b hb1 hb2
theorem WithinEnd.of {p : Nat} {r dp r' : Int} {t : Ty} {w w' : World} {b : Bool} (hb : within t r dp = b) (hr : Room p r' w w') (h1 : r - t.size ≤ r') (h2 : r' ≤ r) (h3 : b = true → r' = r - t.size) : WithinEnd p r dp t w (.returned (.bool b)) w' := by
  subst hb
  exact ⟨r', rfl, hr.1, hr.2.1, h1, h2, h3, hr.2.2.1, hr.2.2.2⟩
theorem WithinEnd.room {p : Nat} {r dp : Int} {t : Ty} {w w' : World} {e : Ending} (h : WithinEnd p r dp t w e w') : ∃ r', e = .returned (.bool (within t r dp)) ∧ Room p r' w w' ∧ r - t.size ≤ r' ∧ r' ≤ r ∧ (within t r dp = true → r' = r - t.size) := by
  obtain ⟨r', h0, h1, h2, h3, h4, h5, h6, h7⟩ := h
  exact ⟨r', h0, ⟨h1, h2, h6, h7⟩, h3, h4, h5⟩
theorem Ty.depths_get (ts : List Ty) (k : Nat) (h : k < ts.length) : ts[k].depth ≤ Ty.depths ts := by
  induction ts generalizing k with
  | nil => simp at h
  | cons s r ih =>
    cases k with
    | zero => simp only [List.getElem_cons_zero, Ty.depths]; omega
    | succ k => simp only [List.getElem_cons_succ, Ty.depths]; have := ih k (by simpa using h); omega
theorem within_true {t : Ty} {r dp : Int} (h : within t r dp = true) : (t.size : Int) ≤ r ∧ (t.depth : Int) ≤ dp ∧ t.form = true := by
  simp only [within, Bool.and_eq_true, decide_eq_true_eq] at h
  exact ⟨h.1.1, h.1.2, h.2⟩
theorem within_sub {kd r dp r2 : Int} {ts : List Ty} {k : Nat} (h : k < ts.length) (hr : r2 = r - 1 - Ty.sizes (ts.take k)) (hf : within ts[k] r2 (dp - 1) = false) : within (.node kd ts) r dp = false := by
  cases hw : within (.node kd ts) r dp with
  | false => rfl
  | true =>
    obtain ⟨w1, w2, w3⟩ := within_true hw
    simp only [Ty.size, Ty.depth, Ty.form, Bool.and_eq_true] at w1 w2 w3
    have h1 := Ty.sizes_take ts k h
    have h2 := Ty.sizes_le ts (k + 1)
    have h3 := Ty.depths_get ts k h
    have h4 : ts[k].form = true := by
      have e := Ty.forms_take ts k h
      cases hfk : ts[k].form with
      | true => rfl
      | false =>
        rw [hfk, Bool.and_false] at e
        have := Ty.forms_false ts (k + 1) e
        rw [this] at w3; exact absurd w3.1 (by simp)
    have : within ts[k] r2 (dp - 1) = true := by
      simp only [within, Bool.and_eq_true, decide_eq_true_eq]
      exact ⟨⟨by omega, by omega⟩, h4⟩
    rw [this] at hf; cases hf
theorem within_mk {t : Ty} {r dp : Int} (h1 : (t.size : Int) ≤ r) (h2 : (t.depth : Int) ≤ dp) (h3 : t.form = true) : within t r dp = true := by
  simp only [within, Bool.and_eq_true, decide_eq_true_eq]
  exact ⟨⟨h1, h2⟩, h3⟩
set_option maxRecDepth 100000 in
set_option maxHeartbeats 4000000 in
theorem implWithin (w0 : World) : ∀ (d : Nat) (v : Value) (t : Ty) (p : Nat) (r dp : Int) (w : World), TyAt w0 d v t → Below w0.heap.size w0 w → w0.heap.size ≤ p → t.size ≤ 1048577 → p < w.heap.size → 0 ≤ r → r ≤ 1048576 → 0 ≤ dp → dp ≤ 100 →
    w.cell? ⟨p, 0, none⟩ = some (.int .i64 r) → w.frozen? ⟨p, 0, none⟩ = false →
    Calls Tryd.prog 66 #[v, .pointer (some ⟨p, 0, none⟩), .int .i64 dp] w (WithinEnd p r dp t w)
  | 0, _, _, _, _, _, _, h, _, _, _, _, _, _, _, _, _, _ => h.elim
  | d + 1, v, .node kd ts, p, r, dp, w, h, hw0, hp0, hsz, hp, hr0, hr1, hd0, hd1, hcell, hfroz => by
    have IH : Hid (∀ (v : Value) (t : Ty) (p : Nat) (r dp : Int) (w : World), TyAt w0 d v t → Below w0.heap.size w0 w → w0.heap.size ≤ p → t.size ≤ 1048577 → p < w.heap.size → 0 ≤ r → r ≤ 1048576 → 0 ≤ dp → dp ≤ 100 →
      w.cell? ⟨p, 0, none⟩ = some (.int .i64 r) → w.frozen? ⟨p, 0, none⟩ = false →
      Calls Tryd.prog 66 #[v, .pointer (some ⟨p, 0, none⟩), .int .i64 dp] w (WithinEnd p r dp t w)) := implWithin w0 d
    have hlen : ts.length ≤ 1152921504606846976 := by have := Ty.length_le ts; simp [Ty.size] at hsz; omega
    have HSZ : Hid (1 + Ty.sizes ts ≤ 1048577) := by simp [Ty.size] at hsz; show _ ≤ _; omega
    have hszi : (Ty.node kd ts).size = 1 + Ty.sizes ts := rfl
    have HSI := Lib.hid hszi
    clear hsz hszi
    have HT := Lib.hid h
    obtain ⟨sk, sa, sn, sc, rfl⟩ := agg_parts h
    clear h
    have HW0 := Lib.hid hw0; clear hw0
    have hb := HW0.out.alloc HW0.out.size (.cells #[.int .i64 sk, .slice sa sn sc] 34)
    have HW1 := Lib.hid hb; clear hb
    have hpw : ¬ (p = w.heap.size) := by omega
    go_enter Tryd.func66, Tryd.ntmps66
    go_wp2_with fail
    refine (implNode w0 d _ kd ts _ HT.out HW1.out hlen).mono ?_
    rintro e w2 ⟨n, rfl, hnode, hb⟩
    have B2 := Lib.hid (below_on (below_alloc w _) hb (by simp)); clear hb HW1
    have e0 := (B2.out.cell (p := ⟨p, 0, none⟩) hp).trans hcell
    have e1 := (B2.out.frozen (p := ⟨p, 0, none⟩) hp).trans hfroz
    have R2 := Lib.hid (Room.stored (r := r - 1) hp B2.out e0 e1)
    clear hcell hfroz
    have fin : ∀ b, within (.node kd ts) r dp = b → b = false → WithinEnd p r dp (.node kd ts) w (.returned (.bool b)) (w2.setCell ⟨p, 0, none⟩ (.int .i64 (r - 1))) := fun b h1 h2 =>
      WithinEnd.of h1 R2.out (by rw [HSI.out]; omega) (by omega) (fun h => by rw [h2] at h; cases h)
    have FIN := Lib.hid fin; clear fin
    have HSG : Hid (Ty.size (.node kd ts) = 1 + Ty.sizes ts) := HSI.out
    by_cases hkb : kindOk kd ts.length = false
    · have hn : n = .nilIface := by
        rcases hnode with ⟨_, h⟩ | ⟨h, _⟩ | ⟨h, _⟩
        · exact h
        · rw [hkb] at h; cases h
        · rw [hkb] at h; cases h
      subst hn
      go_wp2_with fail
      go_ret
      exact FIN.out _ (by simp [within, Ty.form, hkb]) rfl
    have hko : kindOk kd ts.length = true := by simpa using hkb
    have HKO := Lib.hid hko; clear hko hkb
    have early : r < 1 ∨ dp = 0 → within (.node kd ts) r dp = false := fun h => by
      cases hw : within (.node kd ts) r dp with
      | false => rfl
      | true =>
        obtain ⟨w1, w2, w3⟩ := within_true hw
        simp only [Ty.size, Ty.depth] at w1 w2
        omega
    have EARLY := Lib.hid early; clear early
    by_cases hr : r < 1
    · rcases hnode with ⟨h, _⟩ | ⟨_, rfl, ⟨rfl, rfl⟩ | ⟨rfl, rfl⟩ | ⟨rfl, rfl⟩⟩ | ⟨_, t1, t2, k1, s1, k2, s2, rfl, ht1, ht2, ⟨rfl, rfl⟩ | ⟨rfl, rfl⟩⟩
      · rw [HKO.out] at h; cases h
      all_goals (go_wp2_with fail; go_ret; exact FIN.out _ (EARLY.out (Or.inl hr)) rfl)
    by_cases hd : dp = 0
    · have hdb : (dp == 0) = true := by simp [hd]
      rcases hnode with ⟨h, _⟩ | ⟨_, rfl, ⟨rfl, rfl⟩ | ⟨rfl, rfl⟩ | ⟨rfl, rfl⟩⟩ | ⟨_, t1, t2, k1, s1, k2, s2, rfl, ht1, ht2, ⟨rfl, rfl⟩ | ⟨rfl, rfl⟩⟩
      · rw [HKO.out] at h; cases h
      all_goals (go_wp2_with fail; go_ret; exact FIN.out _ (EARLY.out (Or.inr hd)) rfl)
    have hdb : (dp == 0) = false := by simp [hd]
    clear FIN EARLY
    rcases hnode with ⟨h, _⟩ | ⟨_, rfl, ⟨rfl, rfl⟩ | ⟨rfl, rfl⟩ | ⟨rfl, rfl⟩⟩ | ⟨_, t1, t2, k1, s1, k2, s2, rfl, ht1, ht2, ⟨rfl, rfl⟩ | ⟨rfl, rfl⟩⟩
    · rw [HKO.out] at h; cases h
    · have hm := meth_unknown
      go_wp2_with fail
      refine (parts_unknown _).mono ?_
      rintro e w4 ⟨rfl, hb⟩
      have R4 := Lib.hid (R2.out.below hp hb)
      have HZ : Hid (w.heap.size ≤ w2.heap.size) := B2.out.size
      have hz4 := hb.size
      rw [World.size_setCell] at hz4
      clear hb R2 e0 e1 B2 hm
      have hz2 : w.heap.size ≤ w2.heap.size := HZ.out
      clear HZ
      go_wp2_with fail
      go_loopw [32] (fun i wr => ∃ k : Nat, k ≤ 0 ∧ i = .int .i64 k ∧ 0 ≤ r - 1 - (Ty.sizes (List.take k []) : Int) ∧ (Ty.depths (List.take k []) : Int) ≤ dp - 1 ∧ Ty.forms (List.take k []) = true ∧ Room p (r - 1 - Ty.sizes (List.take k [])) w wr ∧ w4.heap.size ≤ wr.heap.size ∧ (∀ b, b < w4.heap.size → b ≠ p → wr.heap[b]? = w4.heap[b]?)) (fun i _ => 0 - (intOf i).toNat)
      case atStart => exact ⟨0, by omega, rfl, by simp [Ty.sizes]; omega, by simp [Ty.depths]; omega, by simp [Ty.forms], by simpa [Ty.sizes] using R4.out, Nat.le_refl _, fun _ _ _ => rfl⟩
      case round =>
        obtain ⟨k, hk, rfl, hs, hds, hf, hroom, hz, hkeep⟩ := hrel
        have HS := Lib.hid hs
        have HD := Lib.hid hds
        have HF := Lib.hid hf
        have HR := Lib.hid hroom
        have HK := Lib.hid hkeep
        clear hs hds hf hroom hkeep
        obtain rfl : k = 0 := by omega
        have hfin : within (.node 1 []) r dp = true := by
          have h1 : 0 ≤ r - 1 - (Ty.sizes [] : Int) := HS.out
          have h2 : (Ty.depths [] : Int) ≤ dp - 1 := HD.out
          have h3 : Ty.forms [] = true := HF.out
          have h4 := HKO.out
          exact within_mk (show ((1 + Ty.sizes [] : Nat) : Int) ≤ r by omega) (show ((1 + Ty.depths [] : Nat) : Int) ≤ dp by omega) (by simp only [Ty.form, h3, h4, Bool.and_self])
        have HFIN := Lib.hid hfin; clear hfin
        have h1 : 0 ≤ r - 1 - (Ty.sizes [] : Int) := HS.out
        have hlo : r - ↑(1 + Ty.sizes []) ≤ r - 1 - ↑(Ty.sizes []) := by omega
        have HLO := Lib.hid hlo; clear hlo h1
        go_wp2_with fail
        go_ret
        exact WithinEnd.of (r' := r - 1 - ↑(Ty.sizes [])) HFIN.out HR.out (by rw [HSG.out]; exact HLO.out) (by omega) (fun _ => by rw [HSG.out]; omega)
    · have hm := meth_num
      go_wp2_with fail
      refine (parts_num _).mono ?_
      rintro e w4 ⟨rfl, hb⟩
      have R4 := Lib.hid (R2.out.below hp hb)
      have HZ : Hid (w.heap.size ≤ w2.heap.size) := B2.out.size
      have hz4 := hb.size
      rw [World.size_setCell] at hz4
      clear hb R2 e0 e1 B2 hm
      have hz2 : w.heap.size ≤ w2.heap.size := HZ.out
      clear HZ
      go_wp2_with fail
      go_loopw [32] (fun i wr => ∃ k : Nat, k ≤ 0 ∧ i = .int .i64 k ∧ 0 ≤ r - 1 - (Ty.sizes (List.take k []) : Int) ∧ (Ty.depths (List.take k []) : Int) ≤ dp - 1 ∧ Ty.forms (List.take k []) = true ∧ Room p (r - 1 - Ty.sizes (List.take k [])) w wr ∧ w4.heap.size ≤ wr.heap.size ∧ (∀ b, b < w4.heap.size → b ≠ p → wr.heap[b]? = w4.heap[b]?)) (fun i _ => 0 - (intOf i).toNat)
      case atStart => exact ⟨0, by omega, rfl, by simp [Ty.sizes]; omega, by simp [Ty.depths]; omega, by simp [Ty.forms], by simpa [Ty.sizes] using R4.out, Nat.le_refl _, fun _ _ _ => rfl⟩
      case round =>
        obtain ⟨k, hk, rfl, hs, hds, hf, hroom, hz, hkeep⟩ := hrel
        have HS := Lib.hid hs
        have HD := Lib.hid hds
        have HF := Lib.hid hf
        have HR := Lib.hid hroom
        have HK := Lib.hid hkeep
        clear hs hds hf hroom hkeep
        obtain rfl : k = 0 := by omega
        have hfin : within (.node 2 []) r dp = true := by
          have h1 : 0 ≤ r - 1 - (Ty.sizes [] : Int) := HS.out
          have h2 : (Ty.depths [] : Int) ≤ dp - 1 := HD.out
          have h3 : Ty.forms [] = true := HF.out
          have h4 := HKO.out
          exact within_mk (show ((1 + Ty.sizes [] : Nat) : Int) ≤ r by omega) (show ((1 + Ty.depths [] : Nat) : Int) ≤ dp by omega) (by simp only [Ty.form, h3, h4, Bool.and_self])
        have HFIN := Lib.hid hfin; clear hfin
        have h1 : 0 ≤ r - 1 - (Ty.sizes [] : Int) := HS.out
        have hlo : r - ↑(1 + Ty.sizes []) ≤ r - 1 - ↑(Ty.sizes []) := by omega
        have HLO := Lib.hid hlo; clear hlo h1
        go_wp2_with fail
        go_ret
        exact WithinEnd.of (r' := r - 1 - ↑(Ty.sizes [])) HFIN.out HR.out (by rw [HSG.out]; exact HLO.out) (by omega) (fun _ => by rw [HSG.out]; omega)
    · have hm := meth_bool
      go_wp2_with fail
      refine (parts_bool _).mono ?_
      rintro e w4 ⟨rfl, hb⟩
      have R4 := Lib.hid (R2.out.below hp hb)
      have HZ : Hid (w.heap.size ≤ w2.heap.size) := B2.out.size
      have hz4 := hb.size
      rw [World.size_setCell] at hz4
      clear hb R2 e0 e1 B2 hm
      have hz2 : w.heap.size ≤ w2.heap.size := HZ.out
      clear HZ
      go_wp2_with fail
      go_loopw [32] (fun i wr => ∃ k : Nat, k ≤ 0 ∧ i = .int .i64 k ∧ 0 ≤ r - 1 - (Ty.sizes (List.take k []) : Int) ∧ (Ty.depths (List.take k []) : Int) ≤ dp - 1 ∧ Ty.forms (List.take k []) = true ∧ Room p (r - 1 - Ty.sizes (List.take k [])) w wr ∧ w4.heap.size ≤ wr.heap.size ∧ (∀ b, b < w4.heap.size → b ≠ p → wr.heap[b]? = w4.heap[b]?)) (fun i _ => 0 - (intOf i).toNat)
      case atStart => exact ⟨0, by omega, rfl, by simp [Ty.sizes]; omega, by simp [Ty.depths]; omega, by simp [Ty.forms], by simpa [Ty.sizes] using R4.out, Nat.le_refl _, fun _ _ _ => rfl⟩
      case round =>
        obtain ⟨k, hk, rfl, hs, hds, hf, hroom, hz, hkeep⟩ := hrel
        have HS := Lib.hid hs
        have HD := Lib.hid hds
        have HF := Lib.hid hf
        have HR := Lib.hid hroom
        have HK := Lib.hid hkeep
        clear hs hds hf hroom hkeep
        obtain rfl : k = 0 := by omega
        have hfin : within (.node 3 []) r dp = true := by
          have h1 : 0 ≤ r - 1 - (Ty.sizes [] : Int) := HS.out
          have h2 : (Ty.depths [] : Int) ≤ dp - 1 := HD.out
          have h3 : Ty.forms [] = true := HF.out
          have h4 := HKO.out
          exact within_mk (show ((1 + Ty.sizes [] : Nat) : Int) ≤ r by omega) (show ((1 + Ty.depths [] : Nat) : Int) ≤ dp by omega) (by simp only [Ty.form, h3, h4, Bool.and_self])
        have HFIN := Lib.hid hfin; clear hfin
        have h1 : 0 ≤ r - 1 - (Ty.sizes [] : Int) := HS.out
        have hlo : r - ↑(1 + Ty.sizes []) ≤ r - 1 - ↑(Ty.sizes []) := by omega
        have HLO := Lib.hid hlo; clear hlo h1
        go_wp2_with fail
        go_ret
        exact WithinEnd.of (r' := r - 1 - ↑(Ty.sizes [])) HFIN.out HR.out (by rw [HSG.out]; exact HLO.out) (by omega) (fun _ => by rw [HSG.out]; omega)
    · have H1 := Lib.hid ht1
      have H2 := Lib.hid ht2
      clear ht1 ht2
      have hm := fun (n : Nat) (w : World) => meth_arrow n w (.int .i64 k1) s1 (.int .i64 k2) s2
      go_wp2_with fail
      refine (parts_arrow w0 d t1 t2 k1 k2 s1 s2 _ H1.out H2.out).mono ?_
      rintro e w4 ⟨bb, rfl, hrow, hb⟩
      have R4 := Lib.hid (R2.out.below hp hb)
      have HZ : Hid (w.heap.size ≤ w2.heap.size) := B2.out.size
      have hz4 := hb.size
      rw [World.size_setCell] at hz4
      clear hb R2 e0 e1 B2 hm
      have hz2 : w.heap.size ≤ w2.heap.size := HZ.out
      clear HZ
      have HROW : Hid (∀ j (h : j < 2), ∃ x0 x1, p < bb ∧ bb < w4.heap.size ∧ w4.cell? ⟨bb, j * 2, none⟩ = some x0 ∧ w4.cell? ⟨bb, j * 2 + 1, none⟩ = some x1 ∧ TyAt w0 d (.agg #[x0, x1]) ([t1, t2][j]'h)) := fun j hj => by
        obtain ⟨a9, c9, he, _, _, hat⟩ := hrow
        obtain ⟨b9, o9, x0, x1, ha, h1, h2, h3, h4, h5⟩ := hat j hj
        simp only [Value.slice.injEq] at he
        obtain ⟨rfl, _⟩ := he
        injection ha with ha
        injection ha with ha1 ha2
        subst ha1 ha2
        rw [World.size_setCell] at h1
        exact ⟨x0, x1, by omega, h2, by simpa using h3, by simpa using h4, h5⟩
      clear hrow H1 H2
      go_wp2_with fail
      go_loopw [32] (fun i wr => ∃ k : Nat, k ≤ 2 ∧ i = .int .i64 k ∧ 0 ≤ r - 1 - (Ty.sizes (List.take k [t1, t2]) : Int) ∧ (Ty.depths (List.take k [t1, t2]) : Int) ≤ dp - 1 ∧ Ty.forms (List.take k [t1, t2]) = true ∧ Room p (r - 1 - Ty.sizes (List.take k [t1, t2])) w wr ∧ w4.heap.size ≤ wr.heap.size ∧ (∀ b, b < w4.heap.size → b ≠ p → wr.heap[b]? = w4.heap[b]?)) (fun i _ => 2 - (intOf i).toNat)
      case atStart => exact ⟨0, by omega, rfl, by simp [Ty.sizes]; omega, by simp [Ty.depths]; omega, by simp [Ty.forms], by simpa [Ty.sizes] using R4.out, Nat.le_refl _, fun _ _ _ => rfl⟩
      case round =>
        obtain ⟨k, hk, rfl, hs, hds, hf, hroom, hz, hkeep⟩ := hrel
        have HS := Lib.hid hs
        have HD := Lib.hid hds
        have HF := Lib.hid hf
        have HR := Lib.hid hroom
        have HK := Lib.hid hkeep
        clear hs hds hf hroom hkeep
        by_cases hlt : k < 2
        · obtain ⟨x0, x1, hpb, hbl, hc0, hc1, ht⟩ := HROW.out k hlt
          obtain ⟨yk, ya, yn, yc, rfl, rfl⟩ := at_parts ht
          have x0 : wr.cell? ⟨bb, k * 2, none⟩ = some (.int .i64 yk) := by rw [World.cell?_of_block (HK.out bb hbl (by omega))]; exact hc0
          have x1 : wr.cell? ⟨bb, k * 2 + 1, none⟩ = some (.slice ya yn yc) := by rw [World.cell?_of_block (HK.out bb hbl (by omega))]; exact hc1
          have hpp := below_alloc wr (.cells #[.int .i64 yk, .slice ya yn yc] 34)
          have HTK := Lib.hid ht
          have HRP := Lib.hid (HR.out.below hp hpp)
          have HWP : Hid (Below w0.heap.size w0 (wr.alloc (.cells #[.int .i64 yk, .slice ya yn yc] 34))) := HW0.out.trans (HRP.out.2.2.1.mono hp0)
          have hg := Ty.size_get [t1, t2] k hlt
          have hzk : Ty.size ([t1, t2][k]'hlt) ≤ 1048577 := by have := HSZ.out; omega
          have hpk : p < (wr.alloc (.cells #[.int .i64 yk, .slice ya yn yc] 34)).heap.size := by simp; omega
          obtain ⟨rr, hrr⟩ : ∃ rr, rr = r - 1 - (Ty.sizes (List.take k [t1, t2]) : Int) := ⟨_, rfl⟩
          rw [← hrr] at HRP HS
          have HRR := Lib.hid hrr; clear hrr
          have g0 : 0 ≤ rr := HS.out
          have g1 : rr ≤ 1048576 := by have := HRR.out; omega
          have gd : 0 ≤ dp - 1 := by omega
          clear ht hc0 hc1 hpp hg
          go_wp2_with fail
          refine (IH.out _ _ p rr (dp - 1) _ HTK.out HWP.out hp0 hzk hpk g0 g1 gd (by omega) HRP.out.1 HRP.out.2.1).mono ?_
          rintro e w6 hend
          obtain ⟨r6, rfl, hr6, h1, h2, h3⟩ := hend.room
          have HR6 := Lib.hid (HRP.out.on hr6)
          have HK6 : Hid (∀ b, b < w4.heap.size → b ≠ p → w6.heap[b]? = w4.heap[b]?) := fun b hb1 hb2 => by
            rw [hr6.2.2.2 b (by simp; omega) hb2, heap_alloc_old _ _ (by omega)]
            exact HK.out b hb1 hb2
          have hz6 : w4.heap.size ≤ w6.heap.size := by have := hr6.2.2.1.size; simp at this; omega
          clear hend hr6
          cases hw : within ([t1, t2][k]'hlt) rr (dp - 1) with
          | true =>
            have h4 := h3 hw
            obtain ⟨u1, u2, u3⟩ := within_true hw
            subst h4
            have HU3 := Lib.hid u3
            have T1 := Lib.hid (Ty.sizes_take [t1, t2] k hlt)
            have T2 := Lib.hid (Ty.depths_take [t1, t2] k hlt)
            have T3 := Lib.hid (Ty.forms_take [t1, t2] k hlt)
            have HW := Lib.hid hw
            have U2 := Lib.hid u2
            have U1 := Lib.hid u1
            clear h1 h2 h3 u3 u2 u1 hw
            have eq1 : Hid (rr - ↑(Ty.size ([t1, t2][k]'hlt)) = r - 1 - ↑(Ty.sizes (List.take (k + 1) [t1, t2]))) := by rw [T1.out]; have := HRR.out; show _ = _; omega
            go_wp2_with fail
            exact ⟨⟨k + 1, by omega, by go_num, by rw [← eq1.out]; have := U1.out; omega, by rw [T2.out]; have := HD.out; have := U2.out; omega, by rw [T3.out, HF.out, HU3.out]; rfl, by rw [← eq1.out]; exact HR6.out, hz6, HK6.out⟩, by simp [intOf]; omega⟩
          | false =>
            have hfin := within_sub (kd := 4) (r := r) (dp := dp) hlt HRR.out hw
            have HFIN := Lib.hid hfin
            have hsz1 := Ty.sizes_take [t1, t2] k hlt
            have hsz2 := Ty.sizes_le [t1, t2] (k + 1)
            have hq := HRR.out
            have hlo : r - ↑(1 + Ty.sizes [t1, t2]) ≤ r6 := by omega
            have hhi : r6 ≤ r := by omega
            clear hfin hw hsz1 hsz2 hq h1 h2 h3
            go_wp2_with fail
            go_ret
            exact WithinEnd.of HFIN.out HR6.out (by rw [HSG.out]; exact hlo) hhi (fun h => by cases h)
        · obtain rfl : k = 2 := by omega
          have hfin : within (.node 4 [t1, t2]) r dp = true := by
            have h1 : 0 ≤ r - 1 - (Ty.sizes [t1, t2] : Int) := HS.out
            have h2 : (Ty.depths [t1, t2] : Int) ≤ dp - 1 := HD.out
            have h3 : Ty.forms [t1, t2] = true := HF.out
            have h4 := HKO.out
            exact within_mk (show ((1 + Ty.sizes [t1, t2] : Nat) : Int) ≤ r by omega) (show ((1 + Ty.depths [t1, t2] : Nat) : Int) ≤ dp by omega) (by simp only [Ty.form, h3, h4, Bool.and_self])
          have HFIN := Lib.hid hfin; clear hfin
          have h1 : 0 ≤ r - 1 - (Ty.sizes [t1, t2] : Int) := HS.out
          have hlo : r - ↑(1 + Ty.sizes [t1, t2]) ≤ r - 1 - ↑(Ty.sizes [t1, t2]) := by omega
          have HLO := Lib.hid hlo; clear hlo h1
          go_wp2_with fail
          go_ret
          exact WithinEnd.of (r' := r - 1 - ↑(Ty.sizes [t1, t2])) HFIN.out HR.out (by rw [HSG.out]; exact HLO.out) (by omega) (fun _ => by rw [HSG.out]; omega)
    · have H1 := Lib.hid ht1
      have H2 := Lib.hid ht2
      clear ht1 ht2
      have hm := fun (n : Nat) (w : World) => meth_pair n w (.int .i64 k1) s1 (.int .i64 k2) s2
      go_wp2_with fail
      refine (parts_pair w0 d t1 t2 k1 k2 s1 s2 _ H1.out H2.out).mono ?_
      rintro e w4 ⟨bb, rfl, hrow, hb⟩
      have R4 := Lib.hid (R2.out.below hp hb)
      have HZ : Hid (w.heap.size ≤ w2.heap.size) := B2.out.size
      have hz4 := hb.size
      rw [World.size_setCell] at hz4
      clear hb R2 e0 e1 B2 hm
      have hz2 : w.heap.size ≤ w2.heap.size := HZ.out
      clear HZ
      have HROW : Hid (∀ j (h : j < 2), ∃ x0 x1, p < bb ∧ bb < w4.heap.size ∧ w4.cell? ⟨bb, j * 2, none⟩ = some x0 ∧ w4.cell? ⟨bb, j * 2 + 1, none⟩ = some x1 ∧ TyAt w0 d (.agg #[x0, x1]) ([t1, t2][j]'h)) := fun j hj => by
        obtain ⟨a9, c9, he, _, _, hat⟩ := hrow
        obtain ⟨b9, o9, x0, x1, ha, h1, h2, h3, h4, h5⟩ := hat j hj
        simp only [Value.slice.injEq] at he
        obtain ⟨rfl, _⟩ := he
        injection ha with ha
        injection ha with ha1 ha2
        subst ha1 ha2
        rw [World.size_setCell] at h1
        exact ⟨x0, x1, by omega, h2, by simpa using h3, by simpa using h4, h5⟩
      clear hrow H1 H2
      go_wp2_with fail
      go_loopw [32] (fun i wr => ∃ k : Nat, k ≤ 2 ∧ i = .int .i64 k ∧ 0 ≤ r - 1 - (Ty.sizes (List.take k [t1, t2]) : Int) ∧ (Ty.depths (List.take k [t1, t2]) : Int) ≤ dp - 1 ∧ Ty.forms (List.take k [t1, t2]) = true ∧ Room p (r - 1 - Ty.sizes (List.take k [t1, t2])) w wr ∧ w4.heap.size ≤ wr.heap.size ∧ (∀ b, b < w4.heap.size → b ≠ p → wr.heap[b]? = w4.heap[b]?)) (fun i _ => 2 - (intOf i).toNat)
      case atStart => exact ⟨0, by omega, rfl, by simp [Ty.sizes]; omega, by simp [Ty.depths]; omega, by simp [Ty.forms], by simpa [Ty.sizes] using R4.out, Nat.le_refl _, fun _ _ _ => rfl⟩
      case round =>
        obtain ⟨k, hk, rfl, hs, hds, hf, hroom, hz, hkeep⟩ := hrel
        have HS := Lib.hid hs
        have HD := Lib.hid hds
        have HF := Lib.hid hf
        have HR := Lib.hid hroom
        have HK := Lib.hid hkeep
        clear hs hds hf hroom hkeep
        by_cases hlt : k < 2
        · obtain ⟨x0, x1, hpb, hbl, hc0, hc1, ht⟩ := HROW.out k hlt
          obtain ⟨yk, ya, yn, yc, rfl, rfl⟩ := at_parts ht
          have x0 : wr.cell? ⟨bb, k * 2, none⟩ = some (.int .i64 yk) := by rw [World.cell?_of_block (HK.out bb hbl (by omega))]; exact hc0
          have x1 : wr.cell? ⟨bb, k * 2 + 1, none⟩ = some (.slice ya yn yc) := by rw [World.cell?_of_block (HK.out bb hbl (by omega))]; exact hc1
          have hpp := below_alloc wr (.cells #[.int .i64 yk, .slice ya yn yc] 34)
          have HTK := Lib.hid ht
          have HRP := Lib.hid (HR.out.below hp hpp)
          have HWP : Hid (Below w0.heap.size w0 (wr.alloc (.cells #[.int .i64 yk, .slice ya yn yc] 34))) := HW0.out.trans (HRP.out.2.2.1.mono hp0)
          have hg := Ty.size_get [t1, t2] k hlt
          have hzk : Ty.size ([t1, t2][k]'hlt) ≤ 1048577 := by have := HSZ.out; omega
          have hpk : p < (wr.alloc (.cells #[.int .i64 yk, .slice ya yn yc] 34)).heap.size := by simp; omega
          obtain ⟨rr, hrr⟩ : ∃ rr, rr = r - 1 - (Ty.sizes (List.take k [t1, t2]) : Int) := ⟨_, rfl⟩
          rw [← hrr] at HRP HS
          have HRR := Lib.hid hrr; clear hrr
          have g0 : 0 ≤ rr := HS.out
          have g1 : rr ≤ 1048576 := by have := HRR.out; omega
          have gd : 0 ≤ dp - 1 := by omega
          clear ht hc0 hc1 hpp hg
          go_wp2_with fail
          refine (IH.out _ _ p rr (dp - 1) _ HTK.out HWP.out hp0 hzk hpk g0 g1 gd (by omega) HRP.out.1 HRP.out.2.1).mono ?_
          rintro e w6 hend
          obtain ⟨r6, rfl, hr6, h1, h2, h3⟩ := hend.room
          have HR6 := Lib.hid (HRP.out.on hr6)
          have HK6 : Hid (∀ b, b < w4.heap.size → b ≠ p → w6.heap[b]? = w4.heap[b]?) := fun b hb1 hb2 => by
            rw [hr6.2.2.2 b (by simp; omega) hb2, heap_alloc_old _ _ (by omega)]
            exact HK.out b hb1 hb2
          have hz6 : w4.heap.size ≤ w6.heap.size := by have := hr6.2.2.1.size; simp at this; omega
          clear hend hr6
          cases hw : within ([t1, t2][k]'hlt) rr (dp - 1) with
          | true =>
            have h4 := h3 hw
            obtain ⟨u1, u2, u3⟩ := within_true hw
            subst h4
            have HU3 := Lib.hid u3
            have T1 := Lib.hid (Ty.sizes_take [t1, t2] k hlt)
            have T2 := Lib.hid (Ty.depths_take [t1, t2] k hlt)
            have T3 := Lib.hid (Ty.forms_take [t1, t2] k hlt)
            have HW := Lib.hid hw
            have U2 := Lib.hid u2
            have U1 := Lib.hid u1
            clear h1 h2 h3 u3 u2 u1 hw
            have eq1 : Hid (rr - ↑(Ty.size ([t1, t2][k]'hlt)) = r - 1 - ↑(Ty.sizes (List.take (k + 1) [t1, t2]))) := by rw [T1.out]; have := HRR.out; show _ = _; omega
            go_wp2_with fail
            exact ⟨⟨k + 1, by omega, by go_num, by rw [← eq1.out]; have := U1.out; omega, by rw [T2.out]; have := HD.out; have := U2.out; omega, by rw [T3.out, HF.out, HU3.out]; rfl, by rw [← eq1.out]; exact HR6.out, hz6, HK6.out⟩, by simp [intOf]; omega⟩
          | false =>
            have hfin := within_sub (kd := 5) (r := r) (dp := dp) hlt HRR.out hw
            have HFIN := Lib.hid hfin
            have hsz1 := Ty.sizes_take [t1, t2] k hlt
            have hsz2 := Ty.sizes_le [t1, t2] (k + 1)
            have hq := HRR.out
            have hlo : r - ↑(1 + Ty.sizes [t1, t2]) ≤ r6 := by omega
            have hhi : r6 ≤ r := by omega
            clear hfin hw hsz1 hsz2 hq h1 h2 h3
            go_wp2_with fail
            go_ret
            exact WithinEnd.of HFIN.out HR6.out (by rw [HSG.out]; exact hlo) hhi (fun h => by cases h)
        · obtain rfl : k = 2 := by omega
          have hfin : within (.node 5 [t1, t2]) r dp = true := by
            have h1 : 0 ≤ r - 1 - (Ty.sizes [t1, t2] : Int) := HS.out
            have h2 : (Ty.depths [t1, t2] : Int) ≤ dp - 1 := HD.out
            have h3 : Ty.forms [t1, t2] = true := HF.out
            have h4 := HKO.out
            exact within_mk (show ((1 + Ty.sizes [t1, t2] : Nat) : Int) ≤ r by omega) (show ((1 + Ty.depths [t1, t2] : Nat) : Int) ≤ dp by omega) (by simp only [Ty.form, h3, h4, Bool.and_self])
          have HFIN := Lib.hid hfin; clear hfin
          have h1 : 0 ≤ r - 1 - (Ty.sizes [t1, t2] : Int) := HS.out
          have hlo : r - ↑(1 + Ty.sizes [t1, t2]) ≤ r - 1 - ↑(Ty.sizes [t1, t2]) := by omega
          have HLO := Lib.hid hlo; clear hlo h1
          go_wp2_with fail
          go_ret
          exact WithinEnd.of (r' := r - 1 - ↑(Ty.sizes [t1, t2])) HFIN.out HR.out (by rw [HSG.out]; exact HLO.out) (by omega) (fun _ => by rw [HSG.out]; omega)
end Go.Proofs.YtmmnjdhmankieaaDoor
/-
  Proved: impl.IsNote says whether a type's tree is a note; it leaves the memory that was there as it was.
-/
namespace Go.Proofs.YtmmnjdhmankieaaDoor
open Go.RowKit

theorem within_note (t : Ty) : within t 15 5 = t.note := by
  have e1 : decide ((t.size : Int) ≤ 15) = decide (t.size ≤ 15) := decide_eq_decide.2 (by omega)
  have e2 : decide ((t.depth : Int) ≤ 5) = decide (t.depth ≤ 5) := decide_eq_decide.2 (by omega)
  unfold within Ty.note Ty.valid
  rw [e1, e2]
  by_cases h1 : t.size ≤ 15 <;> by_cases h2 : t.depth ≤ 5
  · have h3 : t.size ≤ 800 := by omega
    have h4 : t.depth ≤ 24 := by omega
    simp [h1, h2, h3, h4]
  · simp [h2]
  · simp [h1]
  · simp [h1]

set_option maxRecDepth 100000 in
set_option maxHeartbeats 1000000 in
theorem implNote (d : Nat) (v : Value) (t : Ty) (w : World) (h : TyAt w d v t) (hsz : t.size ≤ 1048577) :
    Calls Tryd.prog 96 #[v] w fun e w' => e = .returned (.bool t.note) ∧ Below w.heap.size w w' := by
  have HT := Lib.hid h
  obtain ⟨yk, ya, yn, yc, rfl⟩ := agg_parts h
  clear h
  have X : Hid (Below w.heap.size w ((w.alloc (.cells #[.int .i64 yk, .slice ya yn yc] 34)).alloc (.cells #[.int .i64 15] 3))) := ((Below.refl _ _).alloc (Nat.le_refl _) _).alloc (by simp) _
  go_enter Tryd.func96, Tryd.ntmps96
  go_wp2_with fail
  refine (implWithin w d _ t (w.heap.size + 1) 15 5 _ HT.out X.out (by omega) hsz (by simp) (by omega) (by omega) (by omega) (by omega) (by simp [go_sem]) (by simp [go_sem])).mono ?_
  intro e w' hend
  obtain ⟨r', rfl, hr, _⟩ := hend.room
  have HB := Lib.hid (X.out.trans (hr.2.2.1.mono (Nat.le_succ _)))
  clear hend hr
  go_wp2_with fail
  go_ret
  exact ⟨by rw [within_note]; rfl, HB.out⟩
end Go.Proofs.YtmmnjdhmankieaaDoor
/-
  Proved: impl.EqualType says whether two trees are equal, and leaves the memory that was there as it was.
-/
namespace Go.Proofs.YtmmnjdhmankieaaDoor
open Go.RowKit

set_option maxRecDepth 100000 in
set_option maxHeartbeats 2000000 in
theorem implEqual : ∀ (d : Nat) (v1 v2 : Value) (t1 t2 : Ty) (w : World), TyAt w d v1 t1 → TyAt w d v2 t2 →
    Calls Tryd.prog 97 #[v1, v2] w fun e w' => e = .returned (.bool (t1.beq t2)) ∧ Below w.heap.size w w'
  | 0, _, _, _, _, _, h, _ => h.elim
  | d + 1, v1, v2, .node k1 cs, .node k2 bs, w, h1, h2 => by
    have IH : Hid (∀ (v1 v2 : Value) (t1 t2 : Ty) (w : World), TyAt w d v1 t1 → TyAt w d v2 t2 → Calls Tryd.prog 97 #[v1, v2] w fun e w' => e = .returned (.bool (t1.beq t2)) ∧ Below w.heap.size w w') := implEqual d
    obtain ⟨s1, rfl, hk0, hk1, a1, cap1, rfl, hcap1, hm1, hat1⟩ := h1
    obtain ⟨s2, rfl, hk2, hk3, a2, cap2, rfl, hcap2, hm2, hat2⟩ := h2
    have HA1 := Lib.hid hat1; clear hat1
    have HA2 := Lib.hid hat2; clear hat2
    by_cases q1 : k1 = k2
    · subst q1
      by_cases q2 : bs.length = cs.length
      · have HFIN : Hid ((Ty.node k1 cs).beq (Ty.node k1 bs) = Ty.beqs cs bs) := by show _ = _; simp [Ty.beq]
        rw [q2]
        go_enter Tryd.func97, Tryd.ntmps97
        go_wp2_with fail
        go_loopw [23] (fun i wr => ∃ k : Nat, k ≤ cs.length ∧ i = .int .i64 k ∧ Ty.beqs (cs.take k) (bs.take k) = true ∧ Below (w.heap.size + 2) ((w.alloc (.cells #[.int .i64 k1, .slice a1 cs.length cap1] 34)).alloc (.cells #[.int .i64 k1, .slice a2 cs.length cap2] 34)) wr) (fun i _ => cs.length - (intOf i).toNat)
        case atStart => exact ⟨0, by omega, rfl, by simp [Ty.beqs], Below.refl _ _⟩
        case round =>
          obtain ⟨k, hk, rfl, hf, hb⟩ := hrel
          have HF := Lib.hid hf; clear hf
          have y1 := two_first hb 1
          have y2 := two_next hb 1
          have HB := Lib.hid (two_below hb)
          have HBX := Lib.hid hb; clear hb
          by_cases hlt : k < cs.length
          · have hlt2 : k < bs.length := by omega
            obtain ⟨b1, off1, x0, x1, rfl, hbl1, hc10, hc11, ht1⟩ := HA1.out k hlt
            obtain ⟨b2, off2, z0, z1, rfl, hbl2, hc20, hc21, ht2⟩ := HA2.out k hlt2
            have c10 : wr.cell? ⟨b1, off1 + k * 2, none⟩ = some x0 := by rw [HB.out.cell (p := ⟨b1, off1 + k * 2, none⟩) hbl1]; exact hc10
            have c11 : wr.cell? ⟨b1, off1 + k * 2 + 1, none⟩ = some x1 := by rw [HB.out.cell (p := ⟨b1, off1 + k * 2 + 1, none⟩) hbl1]; exact hc11
            have c20 : wr.cell? ⟨b2, off2 + k * 2, none⟩ = some z0 := by rw [HB.out.cell (p := ⟨b2, off2 + k * 2, none⟩) hbl2]; exact hc20
            have c21 : wr.cell? ⟨b2, off2 + k * 2 + 1, none⟩ = some z1 := by rw [HB.out.cell (p := ⟨b2, off2 + k * 2 + 1, none⟩) hbl2]; exact hc21
            have HT1 := Lib.hid (ht1.below HB.out.drew)
            have HT2 := Lib.hid (ht2.below HB.out.drew)
            clear ht1 ht2 hc10 hc11 hc20 hc21
            go_wp2_with fail
            go_still_tail 10, (by kernel_rfl)
            change wpList _ _ _ _ _ wr.drew
            go_wp2_with fail
            refine (IH.out _ _ _ _ wr.drew HT1.out HT2.out).mono ?_
            rintro e w' ⟨rfl, hb1⟩
            have HN := Lib.hid (two_on HBX.out.drew hb1); clear hb1
            have HTK := Lib.hid (Ty.beqs_take cs bs k hlt hlt2)
            cases hfk : cs[k].beq bs[k] with
            | true =>
              have HFK := Lib.hid hfk; clear hfk
              go_wp2_with fail
              exact ⟨⟨k + 1, by omega, by go_num, by rw [HTK.out, HF.out, HFK.out]; rfl, HN.out⟩, by simp [intOf]; omega⟩
            | false =>
              have HFK := Lib.hid hfk; clear hfk
              go_wp2_with fail
              go_ret
              have e : Ty.beqs cs bs = false := Ty.beqs_false cs bs (k + 1) (by rw [HTK.out, HF.out, HFK.out]; rfl) q2.symm
              exact ⟨by rw [HFIN.out, e]; rfl, two_below HN.out⟩
          · obtain rfl : k = cs.length := by omega
            have e : Hid (Ty.beqs cs bs = true) := by
              have := HF.out
              rw [List.take_length, ← q2, List.take_length] at this; exact this
            go_wp2_with fail
            go_ret
            exact ⟨by rw [HFIN.out, e.out]; rfl, HB.out⟩
      · have HFIN : Hid ((Ty.node k1 cs).beq (Ty.node k1 bs) = false) := by show _ = _; simp [Ty.beq, Ty.beqs_len cs bs (fun e => q2 e.symm)]
        have q3 : ¬ ((cs.length : Int) = (bs.length : Int)) := by omega
        go_enter Tryd.func97, Tryd.ntmps97
        go_wp2_with fail
        go_ret
        exact ⟨by rw [HFIN.out]; rfl, ((Below.refl _ _).alloc (Nat.le_refl _) _).alloc (by simp) _⟩
    · have HFIN : Hid ((Ty.node k1 cs).beq (Ty.node k2 bs) = false) := by show _ = _; simp [Ty.beq, q1]
      go_enter Tryd.func97, Tryd.ntmps97
      go_wp2_with fail
      go_ret
      exact ⟨by rw [HFIN.out]; rfl, ((Below.refl _ _).alloc (Nat.le_refl _) _).alloc (by simp) _⟩
end Go.Proofs.YtmmnjdhmankieaaDoor
/-
  Proved: plain facts on ground types; the memory that was there stays as it was.
-/
namespace Go.Proofs.YtmmnjdhmankieaaDoor
open Go.RowKit

/-- The ground type of a type's kind; the zero type for others. -/
def Ty.ground : Ty → Ty
  | .node k ts => if (Ty.node k ts).valid = true then (if k = 2 then .node 2 [] else if k = 3 then .node 3 [] else if k = 4 then .node 4 [.node 1 [], .node 1 []] else if k = 5 then .node 5 [.node 1 [], .node 1 []] else .node 0 []) else .node 0 []
theorem Ty.ground_size (t : Ty) : t.ground.size ≤ 3 := by
  cases t with
  | node k ts =>
    simp only [Ty.ground]
    (repeat' split) <;> decide
theorem own_zero (w : World) (d : Nat) (k : Int) (h0 : -9223372036854775808 ≤ k) (h1 : k ≤ 9223372036854775807) : TyOwn w (d + 1) (.agg #[.int .i64 k, .slice none 0 0]) (.node k []) [] :=
  ⟨_, rfl, h0, h1, none, 0, [], [], rfl, Nat.le_refl _, by omega, rfl, rfl, (fun b hb => by cases hb), fun j hj => by simp at hj⟩
end Go.Proofs.YtmmnjdhmankieaaDoor
namespace Go.Proofs.YtmmnjdhmankieaaDoor
open Go.RowKit

def TabAt (w : World) : Prop := Lib.TabIs Tryd.prog w "loop.example/g00585/impl.arities" .i64 arTab
theorem TabAt.below {w w' : World} (h : TabAt w) (hb : Below w.heap.size w w') : TabAt w' := Law.tab_below hb h
theorem implArityAt (n : Int) (w : World) (h : TabAt w) : Calls Tryd.prog 89 #[.int .i64 n] w fun e w' => e = .returned (.int .i64 (arity n)) ∧ Below w.heap.size w w' := implArity n w h
end Go.Proofs.YtmmnjdhmankieaaDoor
