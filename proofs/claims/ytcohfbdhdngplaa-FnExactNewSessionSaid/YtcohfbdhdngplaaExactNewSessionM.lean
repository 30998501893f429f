/-
  Proved: the law FnExactNewSession: impl.NewSession returns the same as the reference, in memory of its own.
-/
import Derived.Test.YtcohfbdhdngplaaExprArg
import Derived.Test.YtcohfbdhdngplaaInts
import Derived.Test.YtcohfbdhdngplaaToExpr
import Derived.Test.YtcohfbdhdngplaaHold
import Derived.Test.YtcohfbdhdngplaaPart
import Derived.Deep.AppendLies
import Derived.Test.YtcohfbdhdngplaaExIn
import Derived.Test.YtcohfbdhdngplaaPut
import Derived.BigQuiet
import Derived.Deep.QuietTactic
import Derived.Test.YtcohfbdhdngplaaEditIn
import Derived.Test.YtcohfbdhdngplaaCloneInts
import Derived.Test.YtcohfbdhdngplaaImplExCopy
import Derived.Test.YtcohfbdhdngplaaEditAt
import Derived.Test.YtcohfbdhdngplaaToTyD
import Derived.Deep.RegionLaw
import Derived.Deep.DeepCutAuto
import Derived.Deep.RegionHeld3
import Derived.Test.YtcohfbdhdngplaaTwo
import Derived.Test.YtcohfbdhdngplaaIntsRow
import Derived.Deep.Upon
import Derived.ArgAppend
import Derived.Test.YtcohfbdhdngplaaEqHis
import Derived.Test.YtcohfbdhdngplaaMarkEdit
import Derived.Test.YtcohfbdhdngplaaOwnIn
import Derived.Test.YtcohfbdhdngplaaRecBase
import Derived.Test.YtcohfbdhdngplaaAtHis
import Derived.StillTailTactics
import Derived.Deep.MidRow
import Derived.Deep.WholeRow
import Derived.Test.YtcohfbdhdngplaaLeafEdit
import Derived.Test.YtcohfbdhdngplaaStartEdit
import Derived.Test.YtcohfbdhdngplaaRows
import Derived.Test.YtcohfbdhdngplaaLaw
import Derived.Deep.DeepHandedRow
import Derived.Lib.LaidTab
import Derived.LaidMore
/-
  Proved: plain facts on the node at a path; no program.
-/
namespace Go.Proofs.Ytcohfbdhdngplaa
open Go.RowKit

/-- The parts of an expression's root. -/
def Ex.parts : Ex → List Ex
  | .node _ _ _ _ es => es
/-- The node at a path. -/
def Ex.sub : Ex → List Int → Option Ex
  | e, [] => some e
  | e, p :: r => if 0 ≤ p then (match e.parts[p.toNat]? with | some x => x.sub r | none => none) else none
theorem sub_nil (e : Ex) : e.sub [] = some e := by unfold Ex.sub; rfl
theorem sub_step {e : Ex} {p : Int} {r : List Int} (h0 : 0 ≤ p) (h1 : p.toNat < e.parts.length) : e.sub (p :: r) = (e.parts[p.toNat]).sub r := by
  conv => lhs; unfold Ex.sub
  rw [if_pos h0, List.getElem?_eq_getElem h1]
theorem sub_low {e : Ex} {p : Int} {r : List Int} (h : p < 0) : e.sub (p :: r) = none := by
  unfold Ex.sub
  rw [if_neg (by omega)]
theorem sub_high {e : Ex} {p : Int} {r : List Int} (h : (e.parts.length : Int) ≤ p) : e.sub (p :: r) = none := by
  unfold Ex.sub
  rw [if_pos (by omega), List.getElem?_eq_none (by omega)]
theorem drop_at (ps : List Int) (k : Nat) (h : k < ps.length) : ps.drop k = ps[k] :: ps.drop (k + 1) := List.drop_eq_getElem_cons h
theorem part_bulk {e : Ex} {k : Nat} (h : k < e.parts.length) : (e.parts[k]).bulk ≤ e.bulk := by
  cases e with
  | node kd nm n ty es =>
    have h1 : k < es.length := h
    have := Ex.bulk_get es k h1
    show es[k].bulk ≤ nm.size + (ty.size - 1) + Ex.bulks es
    omega
/-- The parts of an expression in memory, one by one. -/
theorem ex_row {w : World} {d : Nat} {c0 c1 c2 c3 c4 : Value} {a : Option Addr} {m c : Nat} {e : Ex} (h : ExAt w d (.agg #[c0, c1, c2, c3, c4, .slice a m c]) e) :
    m = e.parts.length ∧ m ≤ c ∧ c ≤ 9223372036854775807 ∧ ∀ j (h : j < e.parts.length), ∃ b off x0 x1 x2 x3 x4 x5, a = some ⟨b, off, none⟩ ∧ b < w.heap.size ∧ w.cell? ⟨b, off + j * 6, none⟩ = some x0 ∧ w.cell? ⟨b, off + j * 6 + 1, none⟩ = some x1 ∧ w.cell? ⟨b, off + j * 6 + 2, none⟩ = some x2 ∧
      w.cell? ⟨b, off + j * 6 + 3, none⟩ = some x3 ∧ w.cell? ⟨b, off + j * 6 + 4, none⟩ = some x4 ∧ w.cell? ⟨b, off + j * 6 + 5, none⟩ = some x5 ∧ ExAt w d (.agg #[x0, x1, x2, x3, x4, x5]) e.parts[j] := by
  cases d with
  | zero => exact h.elim
  | succ d =>
    cases e with
    | node kd nm n ty es =>
      obtain ⟨z3, z4, sl, hv, _, _, _, _, _, _, a', cap', hs, hc, hc2, hat⟩ := h
      injection hv with hv
      injection hv with hv
      simp at hv
      obtain ⟨_, _, _, _, _, hsl⟩ := hv
      rw [hs] at hsl
      injection hsl with e1 e2 e3
      subst e1 e2 e3
      refine ⟨rfl, hc, hc2, fun j hj => ?_⟩
      obtain ⟨b, off, x0, x1, x2, x3, x4, x5, ha, hb, h0, h1, h2, h3, h4, h5, hr⟩ := hat j hj
      exact ⟨b, off, x0, x1, x2, x3, x4, x5, ha, hb, h0, h1, h2, h3, h4, h5, hr.succ⟩
end Go.Proofs.Ytcohfbdhdngplaa
/-
  Proved: plain facts on a row of expressions that a call builds by append: each has blocks of its own, apart from the row's.
-/
namespace Go.Proofs.Ytcohfbdhdngplaa
open Go.RowKit

def ExRow (w : World) (base d : Nat) (v : Value) (ts : List Ex) : Prop :=
  ∃ cs fps, w.ownsRow base 36 6 v ts.length cs ∧ fps.length = ts.length ∧ Fp base w.heap.size (List.flatten fps) ∧ (∀ g, v.ownBlock = some g → g ∉ List.flatten fps) ∧
    ∀ j (h : j < ts.length), ∃ c0 c1 c2 c3 c4 c5 f, cs[j * 6]? = some c0 ∧ cs[j * 6 + 1]? = some c1 ∧ cs[j * 6 + 2]? = some c2 ∧ cs[j * 6 + 3]? = some c3 ∧ cs[j * 6 + 4]? = some c4 ∧ cs[j * 6 + 5]? = some c5 ∧ fps[j]? = some f ∧ ExOwn w d (.agg #[c0, c1, c2, c3, c4, c5]) ts[j] f
theorem ExRow.nil (w : World) (base d : Nat) : ExRow w base d (.slice none 0 0) [] :=
  ⟨[], [], World.ownsRow_nil _ _ _ _, rfl, Fp.nil _ _, fun g hg => by simp, fun j hj => by simp at hj⟩
theorem flat_mem {fps : List (List Nat)} {j b : Nat} {f : List Nat} (h : fps[j]? = some f) (hb : b ∈ f) : b ∈ fps.flatten := List.mem_flatten.2 ⟨f, List.mem_of_getElem? h, hb⟩
theorem ExRow.kept {w w' : World} {base d : Nat} {v : Value} {ts : List Ex} (h : ExRow w base d v ts) (hz : w.heap.size ≤ w'.heap.size) (hk : ∀ b, base ≤ b → b < w.heap.size → w'.heap[b]? = w.heap[b]?) : ExRow w' base d v ts := by
  obtain ⟨cs, fps, hown, hl, hf, hg, hat⟩ := h
  have hlt := hown.lt
  refine ⟨cs, fps, ⟨hown.1, ?_⟩, hl, hf.mono (Nat.le_refl _) hz, hg, fun j hj => ?_⟩
  · rcases hown.2 with h | ⟨g, cap, cur, rfl, r1, r2, r3⟩
    · exact Or.inl h
    · exact Or.inr ⟨g, cap, cur, rfl, r1, by rw [hk g (hlt g rfl).1 (hlt g rfl).2]; exact r2, r3⟩
  · obtain ⟨c0, c1, c2, c3, c4, c5, f, g0, g1, g2, g3, g4, g5, h2, h3⟩ := hat j hj
    exact ⟨c0, c1, c2, c3, c4, c5, f, g0, g1, g2, g3, g4, g5, h2, h3.kept hz fun b hb => by have := hf.2 b (flat_mem h2 hb); exact hk b this.1 this.2⟩
theorem ExRow.below {w w' : World} {base d : Nat} {v : Value} {ts : List Ex} (h : ExRow w base d v ts) (hb : Below w.heap.size w w') : ExRow w' base d v ts :=
  h.kept hb.size fun b _ hlt => hb.block b hlt
theorem ExRow.stored {w : World} {base d : Nat} {v : Value} {ts : List Ex} (h : ExRow w base d v ts) {p o : Nat} (hp : p < base) (u : Value) : ExRow (w.setCell ⟨p, o, none⟩ u) base d v ts :=
  h.kept (by simp) fun b hb _ => heap_setCell_other _ _ _ _ (by simp; omega)
theorem ExRow.form {w : World} {base d : Nat} {v : Value} {ts : List Ex} (h : ExRow w base d v ts) : ∃ a c, v = .slice a ts.length c := by
  obtain ⟨cs, fps, hown, _⟩ := h
  rcases hown.2 with ⟨h1, h2⟩ | ⟨g, cap, cur, h1, _⟩
  · exact ⟨none, 0, by rw [h1, h2]⟩
  · exact ⟨_, cap, h1⟩
/-- An element is appended: wr is the world ahead of the element, w' the one behind it, w1 the one behind the append. -/
theorem ExRow.append {wr w' : World} {base d : Nat} {v z0 z1 z2 z3 z4 z5 : Value} {ts : List Ex} {t : Ex} {f : List Nat} (h : ExRow wr base d v ts) (hb : Below wr.heap.size wr w') (hbase : base ≤ wr.heap.size)
    (ht : ExOwn w' d (.agg #[z0, z1, z2, z3, z4, z5]) t f) (hft : Fp wr.heap.size w'.heap.size f) :
    ∃ cs, w'.ownsRow base 36 6 v ts.length cs ∧ ∀ (o : Obj) (g cap : Nat) (w1 : World), w1.ownsRow base 36 6 (.slice (some ⟨g, 0, none⟩) (ts.length + 1) cap) (ts.length + 1) (cs ++ [z0, z1, z2, z3, z4, z5]) →
      (w'.alloc o).grownBy w1 v.ownBlock → (v.ownBlock = some g ∨ g = w'.heap.size + 1) → ExRow w1 base d (.slice (some ⟨g, 0, none⟩) (ts.length + 1) cap) (ts ++ [t]) := by
  obtain ⟨cs, fps, hown, hl, hf, hg, hat⟩ := h
  have hlt := hown.lt
  have hcs : cs.length = ts.length * 6 := hown.1
  have hz := hb.size
  refine ⟨cs, own_below hown hb, fun o g cap w1 hown1 hgrow hnew => ?_⟩
  have hza : (w'.alloc o).heap.size = w'.heap.size + 1 := by simp
  have hz1 := hgrow.size
  rw [hza] at hz1
  have hkeep : ∀ b, b < w'.heap.size → v.ownBlock ≠ some b → w1.heap[b]? = w'.heap[b]? := fun b h1 h2 => by
    rw [hgrow.block b (by rw [hza]; omega) (fun e => h2 e.symm), heap_alloc_old _ _ h1]
  refine ⟨_, fps ++ [f], by simpa using hown1, by simp [hl], ?_, ?_, fun j hj => ?_⟩
  · rw [List.flatten_append, List.flatten_cons, List.flatten_nil, List.append_nil]
    exact (hf.join hft hbase hz).mono (Nat.le_refl _) (by omega)
  · intro g' hg'
    simp only [Value.ownBlock, Option.some.injEq] at hg'
    subst hg'
    rw [List.flatten_append, List.flatten_cons, List.flatten_nil, List.append_nil]
    intro hm
    rcases List.mem_append.1 hm with hm | hm
    · rcases hnew with h | h
      · exact hg _ h hm
      · have := (hf.2 _ hm).2; omega
    · rcases hnew with h | h
      · have := (hlt _ h).2; have := (hft.2 _ hm).1; omega
      · have := (hft.2 _ hm).2; omega
  · by_cases hjn : j = ts.length
    · subst hjn
      refine ⟨z0, z1, z2, z3, z4, z5, f, ?_, ?_, ?_, ?_, ?_, ?_, ?_, ?_⟩
      · rw [List.getElem?_append_right (by omega), hcs]; simp
      · rw [List.getElem?_append_right (by omega), hcs]; simp
      · rw [List.getElem?_append_right (by omega), hcs]; simp
      · rw [List.getElem?_append_right (by omega), hcs]; simp
      · rw [List.getElem?_append_right (by omega), hcs]; simp
      · rw [List.getElem?_append_right (by omega), hcs]; simp
      · rw [List.getElem?_append_right (by omega), hl]; simp
      · rw [List.getElem_append_right (by omega)]
        simp only [Nat.sub_self, List.getElem_cons_zero]
        exact ht.kept (by omega) fun b hbf => hkeep b (hft.2 b hbf).2 (fun e => by have := (hlt b e).2; have := (hft.2 b hbf).1; omega)
    · have hj2 : j < ts.length := by simp at hj; omega
      obtain ⟨c0, c1, c2, c3, c4, c5, f', g0, g1, g2, g3, g4, g5, h2, h3⟩ := hat j hj2
      refine ⟨c0, c1, c2, c3, c4, c5, f', ?_, ?_, ?_, ?_, ?_, ?_, ?_, ?_⟩
      · rw [List.getElem?_append_left (by omega)]; exact g0
      · rw [List.getElem?_append_left (by omega)]; exact g1
      · rw [List.getElem?_append_left (by omega)]; exact g2
      · rw [List.getElem?_append_left (by omega)]; exact g3
      · rw [List.getElem?_append_left (by omega)]; exact g4
      · rw [List.getElem?_append_left (by omega)]; exact g5
      · rw [List.getElem?_append_left (by omega)]; exact h2
      · rw [List.getElem_append_left hj2]
        exact (h3.kept hb.size fun b hb3 => hb.block b (hf.2 b (flat_mem h2 hb3)).2).kept (by omega) fun b hbf => hkeep b (by have := (hf.2 b (flat_mem h2 hbf)).2; omega) (fun e => hg b e (flat_mem h2 hbf))
/-- The row is whole: the expression with this row has blocks of its own. -/
theorem ExRow.tree {w : World} {base mid d : Nat} {v c3 c4 : Value} {ts : List Ex} (h : ExRow w mid d v ts) (k : Int) (nm : ByteArray) (n : Int) (ty : Ty) (f1 : List Nat) (h0 : -9223372036854775808 ≤ k) (h1 : k ≤ 9223372036854775807) (h2 : -9223372036854775808 ≤ n) (h3 : n ≤ 9223372036854775807) (h4 : nm.size ≤ 9223372036854775807)
    (hty : TyOwn w d (.agg #[c3, c4]) ty f1) (hf1 : Fp base mid f1) (hbm : base ≤ mid) (hmw : mid ≤ w.heap.size) :
    ∃ fp, ExOwn w (d + 1) (.agg #[.int .i64 k, .string nm, .int .i64 n, c3, c4, v]) (.node k nm n ty ts) fp ∧ Fp base w.heap.size fp := by
  obtain ⟨cs, fps, hown, hl, hf, hg, hat⟩ := h
  have hcs : cs.length = ts.length * 6 := hown.1
  rcases hown.2 with ⟨rfl, hn⟩ | ⟨g, cap, cur, rfl, hbg, hgc, hnc, hm, hcur, htake⟩
  · have hts : ts = [] := List.eq_nil_of_length_eq_zero hn
    subst hts
    exact ⟨f1 ++ [], ⟨c3, c4, _, f1, [], rfl, h0, h1, h2, h3, h4, rfl, hty, none, 0, [], [], rfl, Nat.le_refl _, by omega, rfl, rfl, (fun b hb => by cases hb), fun j hj => by simp at hj⟩, by rw [List.append_nil]; exact hf1.mono (Nat.le_refl _) hmw⟩
  · have hlt := (hown.lt g rfl).2
    refine ⟨f1 ++ ([g] ++ fps.flatten), ⟨c3, c4, _, f1, [g] ++ fps.flatten, rfl, h0, h1, h2, h3, h4, rfl, hty, some ⟨g, 0, none⟩, cap, [g], fps, rfl, hnc, by unfold maxLen at hm; omega, hl, rfl, fun b hb => by cases List.mem_singleton.1 hb; exact hlt, fun j hj => ?_⟩, hf1.join ?_ hbm hmw⟩
    · obtain ⟨c0, c1, c2, c3, c4, c5, f, e0, e1, e2, e3, e4, e5, e6, e7⟩ := hat j hj
      exact ⟨g, 0, c0, c1, c2, c3, c4, c5, f, rfl, rfl, hlt, by rw [Nat.zero_add, hown.cellAt (j * 6) (by omega)]; exact e0, by rw [Nat.zero_add, hown.cellAt (j * 6 + 1) (by omega)]; exact e1, by rw [Nat.zero_add, hown.cellAt (j * 6 + 2) (by omega)]; exact e2,
        by rw [Nat.zero_add, hown.cellAt (j * 6 + 3) (by omega)]; exact e3, by rw [Nat.zero_add, hown.cellAt (j * 6 + 4) (by omega)]; exact e4, by rw [Nat.zero_add, hown.cellAt (j * 6 + 5) (by omega)]; exact e5, fun o => hown.frozenAt o, e6, e7⟩
    · refine ⟨?_, fun b hb => ?_⟩
      · rw [List.singleton_append, List.nodup_cons]
        exact ⟨hg g rfl, hf.1⟩
      · rcases List.mem_append.1 hb with hb | hb
        · cases List.mem_singleton.1 hb; exact ⟨hbg, hlt⟩
        · exact hf.2 b hb
end Go.Proofs.Ytcohfbdhdngplaa
/-
  Proved: spec.SubtermAt copies the node at a path; the memory that was there stays as it was.
-/
namespace Go.Proofs.Ytcohfbdhdngplaa
open Go.RowKit

def exNil : Ex := .node 0 ⟨#[]⟩ 0 (.node 0 []) []
/-- What the search for a node at a path gives: a copy of it, or an empty expression, and whether it is there. -/
def SubEnd (d : Nat) (r : Option Ex) (w : World) (e : Ending) (w' : World) : Prop :=
  ∃ s, e = .returned (.tuple #[s, .bool r.isSome]) ∧ ExIn w' d s (r.getD exNil) w.heap.size w'.heap.size ∧ Below w.heap.size w w'
theorem nil_own (w : World) (d : Nat) : ExOwn w (d + 2) (.agg #[.int .i64 0, .string ⟨#[]⟩, .int .i64 0, .int .i64 0, .slice none 0 0, .slice none 0 0]) exNil [] := by
  refine ⟨.int .i64 0, .slice none 0 0, .slice none 0 0, [], [], rfl, by omega, by omega, by omega, by omega, by decide, rfl, ?_, ?_⟩
  · exact ⟨_, rfl, by omega, by omega, none, 0, [], [], rfl, Nat.le_refl _, by omega, rfl, rfl, (fun b hb => by cases hb), fun j hj => by simp at hj⟩
  · exact ⟨none, 0, [], [], rfl, Nat.le_refl _, by omega, rfl, rfl, (fun b hb => by cases hb), fun j hj => by simp at hj⟩
theorem ex_deep {w : World} {d : Nat} {v : Value} {e : Ex} (h : ExAt w d v e) : ∃ c, d = c + 2 := by
  cases d with
  | zero => exact h.elim
  | succ d =>
    cases e with
    | node kd nm n ty es =>
      obtain ⟨c3, c4, sl, _, _, _, _, _, _, ht, _⟩ := h
      cases d with
      | zero => exact ht.elim
      | succ d => exact ⟨d, rfl⟩
theorem ExIn.stored {w : World} {d : Nat} {v : Value} {t : Ex} {lo hi q j : Nat} {u : Value} (h : ExIn w d v t lo hi) (hq : q < lo) : ExIn (w.setCell ⟨q, j, none⟩ u) d v t lo hi := by
  obtain ⟨fp, h, hf, hz⟩ := h
  refine ⟨fp, h.kept (by simp) fun b hb => ?_, hf, by simpa using hz⟩
  have := (hf.2 b hb).1
  exact heap_setCell_other _ _ _ _ (by simp; omega)
theorem ExIn.wide {w : World} {d : Nat} {v : Value} {t : Ex} {lo hi lo2 hi2 : Nat} (h : ExIn w d v t lo hi) (h1 : lo2 ≤ lo) (h2 : hi ≤ hi2) (h3 : hi2 ≤ w.heap.size) : ExIn w d v t lo2 hi2 := by
  obtain ⟨fp, h, hf, hz⟩ := h
  exact ⟨fp, h, hf.mono h1 h2, h3⟩
end Go.Proofs.Ytcohfbdhdngplaa
/-
  Proved: plain facts on cells that are written one after another.
-/
namespace Go.Proofs.Ytcohfbdhdngplaa
open Go.RowKit

/-- Cells written one after another into block p, from cell j on. -/
def putAll (p : Nat) : Nat → List Value → World → World
  | _, [], w => w
  | j, u :: r, w => putAll p (j + 1) r (w.setCell ⟨p, j, none⟩ u)
theorem BoxAt.puts {p : Nat} : ∀ (us old pre : List Value) (w : World), BoxAt w p (pre ++ old).toArray → us.length = old.length → BoxAt (putAll p pre.length us w) p (pre ++ us).toArray
  | [], [], pre, w, h, _ => h
  | [], _ :: _, _, _, _, h => by simp at h
  | _ :: _, [], _, _, _, h => by simp at h
  | u :: r, o :: s, pre, w, h, hl => by
    have h1 := h.put (j := pre.length) (u := u) (by simp)
    have e1 : (pre ++ o :: s).toArray.setIfInBounds pre.length u = ((pre ++ [u]) ++ s).toArray := by simp
    rw [e1] at h1
    have h2 := BoxAt.puts r s (pre ++ [u]) _ h1 (by simpa using hl)
    rw [List.append_assoc, List.length_append] at h2
    exact h2
end Go.Proofs.Ytcohfbdhdngplaa
/-
  Proved: impl.editAt and copyEdit copy an edit into new memory of its own; the memory that was there stays as it was.
-/
namespace Go.Proofs.Ytcohfbdhdngplaa
open Go.RowKit

theorem IntsIn.stored {w : World} {v : Value} {ns : List Int} {lo hi q j : Nat} {u : Value} (h : IntsIn w v ns lo hi) (hq : q < lo) : IntsIn (w.setCell ⟨q, j, none⟩ u) v ns lo hi :=
  ⟨own_keeps h.1 fun k hk => heap_setCell_other _ _ _ _ (by have := (h.1.lt k hk).1; simp; omega), h.2.1, by simpa using h.2.2⟩
theorem IntsIn.wide {w : World} {v : Value} {ns : List Int} {lo hi hi2 : Nat} (h : IntsIn w v ns lo hi) (h2 : hi ≤ hi2) (h3 : hi2 ≤ w.heap.size) : IntsIn w v ns lo hi2 :=
  ⟨h.1, fun k hk => Nat.lt_of_lt_of_le (h.2.1 k hk) h2, h3⟩
set_option maxRecDepth 100000 in
set_option maxHeartbeats 4000000 in
theorem implEditAt (d : Nat) (v1 v2 : Value) (t : Ex) (ps : List Int) (w : World) (h : ExAt w d v1 t) (hp : Ints w v2 ps) (hsz : t.bulk ≤ 1048576) (hn : ps.length ≤ 1048576) :
    Calls Try.prog 133 #[v1, v2] w fun e w' => ∃ v', e = .returned v' ∧ EditIn w' d v' ⟨t, ps⟩ w.heap.size w'.heap.size ∧ Below w.heap.size w w' := by
  obtain ⟨k, nm, n, tk, ta, tn, tc, sa, sn, sc, rfl⟩ := ex_parts h
  have B : Hid (Below w.heap.size w ((w.alloc (.cells #[.int .i64 k, .string nm, .int .i64 n, .int .i64 tk, .slice ta tn tc, .slice sa sn sc] 36)).alloc (.cells #[.int .i64 0, .string ⟨#[]⟩, .int .i64 0, .int .i64 0, .slice none 0 0, .slice none 0 0, .slice none 0 0] 53))) := ((Below.refl _ _).alloc (Nat.le_refl _) _).alloc (by simp) _
  have XR : Hid (BoxAt ((w.alloc (.cells #[.int .i64 k, .string nm, .int .i64 n, .int .i64 tk, .slice ta tn tc, .slice sa sn sc] 36)).alloc (.cells #[.int .i64 0, .string ⟨#[]⟩, .int .i64 0, .int .i64 0, .slice none 0 0, .slice none 0 0, .slice none 0 0] 53)) (w.heap.size + 1) #[.int .i64 0, .string ⟨#[]⟩, .int .i64 0, .int .i64 0, .slice none 0 0, .slice none 0 0, .slice none 0 0]) := box_at (BoxAt.new _ _ _) (by simp)
  have FR : Hid (FreeAt ((w.alloc (.cells #[.int .i64 k, .string nm, .int .i64 n, .int .i64 tk, .slice ta tn tc, .slice sa sn sc] 36)).alloc (.cells #[.int .i64 0, .string ⟨#[]⟩, .int .i64 0, .int .i64 0, .slice none 0 0, .slice none 0 0, .slice none 0 0] 53)) (w.heap.size + 1)) := free_at (FreeAt.new _ _ _) (by simp)
  have hz0 : ((w.alloc (.cells #[.int .i64 k, .string nm, .int .i64 n, .int .i64 tk, .slice ta tn tc, .slice sa sn sc] 36)).alloc (.cells #[.int .i64 0, .string ⟨#[]⟩, .int .i64 0, .int .i64 0, .slice none 0 0, .slice none 0 0, .slice none 0 0] 53)).heap.size = w.heap.size + 2 := by simp
  have HE := Lib.hid (h.below B.out)
  have HP := Lib.hid (hp.below B.out)
  obtain ⟨pa, pc, rfl, _, _⟩ := hp
  clear h
  go_enter Try.func133, Try.ntmps133
  go_wp2_with fail
  refine (implExCopy d _ t _ hsz HE.out).mono ?_
  rintro e1 w1 ⟨v1, fp, rfl, ht, hf, hb⟩
  obtain ⟨zk, znm, zn, ztk, zta, ztn, ztc, zsa, zsn, zsc, rfl⟩ := ex_parts ht.at_
  have hz1 := hb.size
  rw [hz0] at hz1 hf
  have HO : Hid (ExIn w1 d (.agg #[.int .i64 zk, .string znm, .int .i64 zn, .int .i64 ztk, .slice zta ztn ztc, .slice zsa zsn zsc]) t (w.heap.size + 2) w1.heap.size) := ⟨fp, ht, hf, Nat.le_refl _⟩
  replace B := Lib.hid (below_thru B.out (Nat.le_refl _) hb)
  replace HP := Lib.hid (HP.out.below hb)
  replace XR := Lib.hid (XR.out.below hb)
  replace FR := Lib.hid (FR.out.below hb)
  clear ht hf hb HE hz0
  go_wp2_with fail
  refine (cloneInts _ ps _ HP.out hn).mono ?_
  rintro e2 w2 ⟨qa, qc, rfl, hi, hb⟩
  have hz2 := hb.size
  have HI := Lib.hid hi
  replace HO := Lib.hid (HO.out.below hb)
  replace B := Lib.hid (below_thru B.out (Nat.le_refl _) hb)
  replace XR := Lib.hid (XR.out.below hb)
  replace FR := Lib.hid (FR.out.below hb)
  clear hi hb HP
  have r0 := XR.out.2 0
  have s0 := FR.out.2 0
  have r1 := XR.out.2 1
  have s1 := FR.out.2 1
  have r2 := XR.out.2 2
  have s2 := FR.out.2 2
  have r3 := XR.out.2 3
  have s3 := FR.out.2 3
  have r4 := XR.out.2 4
  have s4 := FR.out.2 4
  have r5 := XR.out.2 5
  have s5 := FR.out.2 5
  have r6 := XR.out.2 6
  have s6 := FR.out.2 6
  go_wp2_with fail
  have XRF : BoxAt (((((((w2.setCell ⟨w.heap.size + 1, 0, none⟩ (.int .i64 zk)).setCell ⟨w.heap.size + 1, 1, none⟩ (.string znm)).setCell ⟨w.heap.size + 1, 2, none⟩ (.int .i64 zn)).setCell ⟨w.heap.size + 1, 3, none⟩ (.int .i64 ztk)).setCell ⟨w.heap.size + 1, 4, none⟩ (.slice zta ztn ztc)).setCell ⟨w.heap.size + 1, 5, none⟩ (.slice zsa zsn zsc)).setCell ⟨w.heap.size + 1, 6, none⟩ (.slice qa ps.length qc)) (w.heap.size + 1) #[.int .i64 zk, .string znm, .int .i64 zn, .int .i64 ztk, .slice zta ztn ztc, .slice zsa zsn zsc, .slice qa ps.length qc] := by
    have := BoxAt.puts [.int .i64 zk, .string znm, .int .i64 zn, .int .i64 ztk, .slice zta ztn ztc, .slice zsa zsn zsc, .slice qa ps.length qc] [.int .i64 0, .string ⟨#[]⟩, .int .i64 0, .int .i64 0, .slice none 0 0, .slice none 0 0, .slice none 0 0] [] _ XR.out rfl
    exact this
  have hBF : Below w.heap.size w (((((((w2.setCell ⟨w.heap.size + 1, 0, none⟩ (.int .i64 zk)).setCell ⟨w.heap.size + 1, 1, none⟩ (.string znm)).setCell ⟨w.heap.size + 1, 2, none⟩ (.int .i64 zn)).setCell ⟨w.heap.size + 1, 3, none⟩ (.int .i64 ztk)).setCell ⟨w.heap.size + 1, 4, none⟩ (.slice zta ztn ztc)).setCell ⟨w.heap.size + 1, 5, none⟩ (.slice zsa zsn zsc)).setCell ⟨w.heap.size + 1, 6, none⟩ (.slice qa ps.length qc)) := (((((((B.out.setCell (by simp) _).setCell (by simp) _).setCell (by simp) _).setCell (by simp) _).setCell (by simp) _).setCell (by simp) _).setCell (by simp) _)
  have HOF : ExIn (((((((w2.setCell ⟨w.heap.size + 1, 0, none⟩ (.int .i64 zk)).setCell ⟨w.heap.size + 1, 1, none⟩ (.string znm)).setCell ⟨w.heap.size + 1, 2, none⟩ (.int .i64 zn)).setCell ⟨w.heap.size + 1, 3, none⟩ (.int .i64 ztk)).setCell ⟨w.heap.size + 1, 4, none⟩ (.slice zta ztn ztc)).setCell ⟨w.heap.size + 1, 5, none⟩ (.slice zsa zsn zsc)).setCell ⟨w.heap.size + 1, 6, none⟩ (.slice qa ps.length qc)) d (.agg #[.int .i64 zk, .string znm, .int .i64 zn, .int .i64 ztk, .slice zta ztn ztc, .slice zsa zsn zsc]) t (w.heap.size + 2) w1.heap.size := (((((((HO.out.stored (by omega)).stored (by omega)).stored (by omega)).stored (by omega)).stored (by omega)).stored (by omega)).stored (by omega))
  have HIF : IntsIn (((((((w2.setCell ⟨w.heap.size + 1, 0, none⟩ (.int .i64 zk)).setCell ⟨w.heap.size + 1, 1, none⟩ (.string znm)).setCell ⟨w.heap.size + 1, 2, none⟩ (.int .i64 zn)).setCell ⟨w.heap.size + 1, 3, none⟩ (.int .i64 ztk)).setCell ⟨w.heap.size + 1, 4, none⟩ (.slice zta ztn ztc)).setCell ⟨w.heap.size + 1, 5, none⟩ (.slice zsa zsn zsc)).setCell ⟨w.heap.size + 1, 6, none⟩ (.slice qa ps.length qc)) (.slice qa ps.length qc) ps w1.heap.size w2.heap.size := (((((((HI.out.stored (by omega)).stored (by omega)).stored (by omega)).stored (by omega)).stored (by omega)).stored (by omega)).stored (by omega))
  have hzF : (((((((w2.setCell ⟨w.heap.size + 1, 0, none⟩ (.int .i64 zk)).setCell ⟨w.heap.size + 1, 1, none⟩ (.string znm)).setCell ⟨w.heap.size + 1, 2, none⟩ (.int .i64 zn)).setCell ⟨w.heap.size + 1, 3, none⟩ (.int .i64 ztk)).setCell ⟨w.heap.size + 1, 4, none⟩ (.slice zta ztn ztc)).setCell ⟨w.heap.size + 1, 5, none⟩ (.slice zsa zsn zsc)).setCell ⟨w.heap.size + 1, 6, none⟩ (.slice qa ps.length qc)).heap.size = w2.heap.size := by simp
  have g0 := XRF.2 0
  have g1 := XRF.2 1
  have g2 := XRF.2 2
  have g3 := XRF.2 3
  have g4 := XRF.2 4
  have g5 := XRF.2 5
  have g6 := XRF.2 6
  clear XRF
  generalize (((((((w2.setCell ⟨w.heap.size + 1, 0, none⟩ (.int .i64 zk)).setCell ⟨w.heap.size + 1, 1, none⟩ (.string znm)).setCell ⟨w.heap.size + 1, 2, none⟩ (.int .i64 zn)).setCell ⟨w.heap.size + 1, 3, none⟩ (.int .i64 ztk)).setCell ⟨w.heap.size + 1, 4, none⟩ (.slice zta ztn ztc)).setCell ⟨w.heap.size + 1, 5, none⟩ (.slice zsa zsn zsc)).setCell ⟨w.heap.size + 1, 6, none⟩ (.slice qa ps.length qc)) = WX at g0 g1 g2 g3 g4 g5 g6 hBF HOF HIF hzF ⊢
  refine bodyPost_ret (v := .agg #[.int .i64 zk, .string znm, .int .i64 zn, .int .i64 ztk, .slice zta ztn ztc, .slice zsa zsn zsc, .slice qa ps.length qc]) (by simp [results, Try.results133, go_sem, g0, g1, g2, g3, g4, g5, g6]) rfl ?_
  exact ⟨_, rfl, ⟨_, _, _, _, _, _, _, _, _, _, _, _, _, w1.heap.size, rfl, HOF.wide (by omega) (Nat.le_refl _) (by omega), HIF.wide (by omega) (Nat.le_refl _), by omega, by omega, by show ps.length ≤ _; omega⟩, hBF⟩
set_option maxRecDepth 100000 in
set_option maxHeartbeats 4000000 in
theorem implCopyEdit (d : Nat) (v : Value) (t : Edi) (w : World) (h : EditAt w d v t) (hsz : t.bulk ≤ 1048576) :
    Calls Try.prog 120 #[v] w fun e w' => ∃ v', e = .returned v' ∧ EditIn w' d v' t w.heap.size w'.heap.size ∧ Below w.heap.size w w' := by
  cases t with
  | mk ex ps =>
    obtain ⟨k, nm, n, tk, ta, tn, tc, sa, sn, sc, pa, pn, pc, rfl, he, hp, hl⟩ := h
    dsimp only at he hp hl
    have hbk : (Edi.mk ex ps).bulk = ex.bulk + ps.length := rfl
    have hn1 : ex.bulk ≤ 1048576 := by omega
    have hn2 : ps.length ≤ 1048576 := by omega
    have B : Hid (Below w.heap.size w ((w.alloc (.cells #[.int .i64 k, .string nm, .int .i64 n, .int .i64 tk, .slice ta tn tc, .slice sa sn sc, .slice pa pn pc] 53)).alloc (.cells #[.int .i64 0, .string ⟨#[]⟩, .int .i64 0, .int .i64 0, .slice none 0 0, .slice none 0 0, .slice none 0 0] 53))) := ((Below.refl _ _).alloc (Nat.le_refl _) _).alloc (by simp) _
    have XR : Hid (BoxAt ((w.alloc (.cells #[.int .i64 k, .string nm, .int .i64 n, .int .i64 tk, .slice ta tn tc, .slice sa sn sc, .slice pa pn pc] 53)).alloc (.cells #[.int .i64 0, .string ⟨#[]⟩, .int .i64 0, .int .i64 0, .slice none 0 0, .slice none 0 0, .slice none 0 0] 53)) (w.heap.size + 1) #[.int .i64 0, .string ⟨#[]⟩, .int .i64 0, .int .i64 0, .slice none 0 0, .slice none 0 0, .slice none 0 0]) := box_at (BoxAt.new _ _ _) (by simp)
    have FR : Hid (FreeAt ((w.alloc (.cells #[.int .i64 k, .string nm, .int .i64 n, .int .i64 tk, .slice ta tn tc, .slice sa sn sc, .slice pa pn pc] 53)).alloc (.cells #[.int .i64 0, .string ⟨#[]⟩, .int .i64 0, .int .i64 0, .slice none 0 0, .slice none 0 0, .slice none 0 0] 53)) (w.heap.size + 1)) := free_at (FreeAt.new _ _ _) (by simp)
    have hz0 : ((w.alloc (.cells #[.int .i64 k, .string nm, .int .i64 n, .int .i64 tk, .slice ta tn tc, .slice sa sn sc, .slice pa pn pc] 53)).alloc (.cells #[.int .i64 0, .string ⟨#[]⟩, .int .i64 0, .int .i64 0, .slice none 0 0, .slice none 0 0, .slice none 0 0] 53)).heap.size = w.heap.size + 2 := by simp
    have HE := Lib.hid (he.below B.out)
    have HP := Lib.hid (hp.below B.out)
    clear he hp hbk hsz
    go_enter Try.func120, Try.ntmps120
    go_wp2_with fail
    refine (implEditAt d _ _ ex ps _ HE.out HP.out hn1 hn2).mono ?_
    rintro e1 w1 ⟨v1, rfl, hi, hb⟩
    have hz1 := hb.size
    rw [hz0] at hz1
    obtain ⟨zk, znm, zn, ztk, zta, ztn, ztc, zsa, zsn, zsc, zpa, zpn, zpc, mid, rfl, ho, hq, h1, h2, h3⟩ := hi
    rw [hz0] at h1 ho
    have HO := Lib.hid ho
    have HI := Lib.hid hq
    replace B := Lib.hid (below_thru B.out (Nat.le_refl _) hb)
    replace XR := Lib.hid (XR.out.below hb)
    replace FR := Lib.hid (FR.out.below hb)
    clear ho hq hb HE HP hz0
    have r0 := XR.out.2 0
    have s0 := FR.out.2 0
    have r1 := XR.out.2 1
    have s1 := FR.out.2 1
    have r2 := XR.out.2 2
    have s2 := FR.out.2 2
    have r3 := XR.out.2 3
    have s3 := FR.out.2 3
    have r4 := XR.out.2 4
    have s4 := FR.out.2 4
    have r5 := XR.out.2 5
    have s5 := FR.out.2 5
    have r6 := XR.out.2 6
    have s6 := FR.out.2 6
    go_wp2_with fail
    have XRF : BoxAt (((((((w1.setCell ⟨w.heap.size + 1, 0, none⟩ (.int .i64 zk)).setCell ⟨w.heap.size + 1, 1, none⟩ (.string znm)).setCell ⟨w.heap.size + 1, 2, none⟩ (.int .i64 zn)).setCell ⟨w.heap.size + 1, 3, none⟩ (.int .i64 ztk)).setCell ⟨w.heap.size + 1, 4, none⟩ (.slice zta ztn ztc)).setCell ⟨w.heap.size + 1, 5, none⟩ (.slice zsa zsn zsc)).setCell ⟨w.heap.size + 1, 6, none⟩ (.slice zpa zpn zpc)) (w.heap.size + 1) #[.int .i64 zk, .string znm, .int .i64 zn, .int .i64 ztk, .slice zta ztn ztc, .slice zsa zsn zsc, .slice zpa zpn zpc] := by
      have := BoxAt.puts [.int .i64 zk, .string znm, .int .i64 zn, .int .i64 ztk, .slice zta ztn ztc, .slice zsa zsn zsc, .slice zpa zpn zpc] [.int .i64 0, .string ⟨#[]⟩, .int .i64 0, .int .i64 0, .slice none 0 0, .slice none 0 0, .slice none 0 0] [] _ XR.out rfl
      exact this
    have hBF : Below w.heap.size w (((((((w1.setCell ⟨w.heap.size + 1, 0, none⟩ (.int .i64 zk)).setCell ⟨w.heap.size + 1, 1, none⟩ (.string znm)).setCell ⟨w.heap.size + 1, 2, none⟩ (.int .i64 zn)).setCell ⟨w.heap.size + 1, 3, none⟩ (.int .i64 ztk)).setCell ⟨w.heap.size + 1, 4, none⟩ (.slice zta ztn ztc)).setCell ⟨w.heap.size + 1, 5, none⟩ (.slice zsa zsn zsc)).setCell ⟨w.heap.size + 1, 6, none⟩ (.slice zpa zpn zpc)) := (((((((B.out.setCell (by simp) _).setCell (by simp) _).setCell (by simp) _).setCell (by simp) _).setCell (by simp) _).setCell (by simp) _).setCell (by simp) _)
    have HOF : ExIn (((((((w1.setCell ⟨w.heap.size + 1, 0, none⟩ (.int .i64 zk)).setCell ⟨w.heap.size + 1, 1, none⟩ (.string znm)).setCell ⟨w.heap.size + 1, 2, none⟩ (.int .i64 zn)).setCell ⟨w.heap.size + 1, 3, none⟩ (.int .i64 ztk)).setCell ⟨w.heap.size + 1, 4, none⟩ (.slice zta ztn ztc)).setCell ⟨w.heap.size + 1, 5, none⟩ (.slice zsa zsn zsc)).setCell ⟨w.heap.size + 1, 6, none⟩ (.slice zpa zpn zpc)) d (.agg #[.int .i64 zk, .string znm, .int .i64 zn, .int .i64 ztk, .slice zta ztn ztc, .slice zsa zsn zsc]) ex (w.heap.size + 2) mid := (((((((HO.out.stored (by omega)).stored (by omega)).stored (by omega)).stored (by omega)).stored (by omega)).stored (by omega)).stored (by omega))
    have HIF : IntsIn (((((((w1.setCell ⟨w.heap.size + 1, 0, none⟩ (.int .i64 zk)).setCell ⟨w.heap.size + 1, 1, none⟩ (.string znm)).setCell ⟨w.heap.size + 1, 2, none⟩ (.int .i64 zn)).setCell ⟨w.heap.size + 1, 3, none⟩ (.int .i64 ztk)).setCell ⟨w.heap.size + 1, 4, none⟩ (.slice zta ztn ztc)).setCell ⟨w.heap.size + 1, 5, none⟩ (.slice zsa zsn zsc)).setCell ⟨w.heap.size + 1, 6, none⟩ (.slice zpa zpn zpc)) (.slice zpa zpn zpc) ps mid w1.heap.size := (((((((HI.out.stored (by omega)).stored (by omega)).stored (by omega)).stored (by omega)).stored (by omega)).stored (by omega)).stored (by omega))
    have hzF : (((((((w1.setCell ⟨w.heap.size + 1, 0, none⟩ (.int .i64 zk)).setCell ⟨w.heap.size + 1, 1, none⟩ (.string znm)).setCell ⟨w.heap.size + 1, 2, none⟩ (.int .i64 zn)).setCell ⟨w.heap.size + 1, 3, none⟩ (.int .i64 ztk)).setCell ⟨w.heap.size + 1, 4, none⟩ (.slice zta ztn ztc)).setCell ⟨w.heap.size + 1, 5, none⟩ (.slice zsa zsn zsc)).setCell ⟨w.heap.size + 1, 6, none⟩ (.slice zpa zpn zpc)).heap.size = w1.heap.size := by simp
    have g0 := XRF.2 0
    have g1 := XRF.2 1
    have g2 := XRF.2 2
    have g3 := XRF.2 3
    have g4 := XRF.2 4
    have g5 := XRF.2 5
    have g6 := XRF.2 6
    clear XRF
    generalize (((((((w1.setCell ⟨w.heap.size + 1, 0, none⟩ (.int .i64 zk)).setCell ⟨w.heap.size + 1, 1, none⟩ (.string znm)).setCell ⟨w.heap.size + 1, 2, none⟩ (.int .i64 zn)).setCell ⟨w.heap.size + 1, 3, none⟩ (.int .i64 ztk)).setCell ⟨w.heap.size + 1, 4, none⟩ (.slice zta ztn ztc)).setCell ⟨w.heap.size + 1, 5, none⟩ (.slice zsa zsn zsc)).setCell ⟨w.heap.size + 1, 6, none⟩ (.slice zpa zpn zpc)) = WX at g0 g1 g2 g3 g4 g5 g6 hBF HOF HIF hzF ⊢
    refine bodyPost_ret (v := .agg #[.int .i64 zk, .string znm, .int .i64 zn, .int .i64 ztk, .slice zta ztn ztc, .slice zsa zsn zsc, .slice zpa zpn zpc]) (by simp [results, Try.results120, go_sem, g0, g1, g2, g3, g4, g5, g6]) rfl ?_
    exact ⟨_, rfl, ⟨_, _, _, _, _, _, _, _, _, _, _, _, _, mid, rfl, HOF.wide (by omega) (Nat.le_refl _) (by omega), HIF.wide (by omega) (Nat.le_refl _), by omega, by omega, hl⟩, hBF⟩
end Go.Proofs.Ytcohfbdhdngplaa
/-
  Proved: an edit that lies in blocks of its own, also after cells of older memory are set.
-/
namespace Go.Proofs.Ytcohfbdhdngplaa
open Go.RowKit

/-- In each later world that keeps the blocks from B to the size of w, the value v reads as the edit a. -/
def EditUp (B : Nat) (w : World) (d : Nat) (v : Value) (a : Edi) : Prop :=
  ∀ w2 : World, w.heap.size ≤ w2.heap.size → (∀ b, B ≤ b → b < w.heap.size → w2.heap[b]? = w.heap[b]?) → EditAt w2 d v a
theorem EditUp.at_ {B : Nat} {w : World} {d : Nat} {v : Value} {a : Edi} (h : EditUp B w d v a) : EditAt w d v a := h w (Nat.le_refl _) fun _ _ _ => rfl
theorem EditUp.kept {B : Nat} {w w' : World} {d : Nat} {v : Value} {a : Edi} (h : EditUp B w d v a) (hs : w.heap.size ≤ w'.heap.size) (hk : ∀ b, B ≤ b → b < w.heap.size → w'.heap[b]? = w.heap[b]?) : EditUp B w' d v a :=
  fun w2 h1 h2 => h w2 (Nat.le_trans hs h1) fun b hb hl => by rw [h2 b hb (Nat.lt_of_lt_of_le hl hs), hk b hb hl]
theorem EditUp.below {B : Nat} {w w' : World} {d : Nat} {v : Value} {a : Edi} (h : EditUp B w d v a) (hb : Below w.heap.size w w') : EditUp B w' d v a :=
  h.kept hb.size fun b _ hl => hb.block b hl
theorem EditUp.cell {B : Nat} {w : World} {d : Nat} {v : Value} {a : Edi} (h : EditUp B w d v a) (c : Addr) (hc : c.block < B) (u : Value) : EditUp B (w.setCell c u) d v a :=
  h.kept (by simp) fun b hb _ => heap_setCell_other _ _ _ _ (by omega)
theorem EditUp.parts {B : Nat} {w : World} {d : Nat} {v : Value} {a : Edi} (h : EditUp B w d v a) : ∃ k nm n tk ta tn tc sa sn sc pa pn pc, v = .agg #[.int .i64 k, .string nm, .int .i64 n, .int .i64 tk, .slice ta tn tc, .slice sa sn sc, .slice pa pn pc] := edit_parts h.at_
end Go.Proofs.Ytcohfbdhdngplaa
/-
  Proved: plain facts on a row of trees that a call builds by append: each tree has blocks of its own, apart from the row's.
-/
namespace Go.Proofs.Ytcohfbdhdngplaa
open Go.RowKit

def CopyRow (w : World) (base d : Nat) (v : Value) (ts : List Ty) : Prop :=
  ∃ cs fps, w.ownsRow base 33 2 v ts.length cs ∧ fps.length = ts.length ∧ Fp base w.heap.size (List.flatten fps) ∧ (∀ g, v.ownBlock = some g → g ∉ List.flatten fps) ∧
    ∀ j (h : j < ts.length), ∃ c0 c1 f, cs[j * 2]? = some c0 ∧ cs[j * 2 + 1]? = some c1 ∧ fps[j]? = some f ∧ TyOwn w d (.agg #[c0, c1]) ts[j] f
theorem CopyRow.nil (w : World) (base d : Nat) : CopyRow w base d (.slice none 0 0) [] :=
  ⟨[], [], World.ownsRow_nil _ _ _ _, rfl, Fp.nil _ _, fun g hg => by simp, fun j hj => by simp at hj⟩
theorem CopyRow.kept {w w' : World} {base d : Nat} {v : Value} {ts : List Ty} (h : CopyRow w base d v ts) (hz : w.heap.size ≤ w'.heap.size) (hk : ∀ b, base ≤ b → b < w.heap.size → w'.heap[b]? = w.heap[b]?) : CopyRow w' base d v ts := by
  obtain ⟨cs, fps, hown, hl, hf, hg, hat⟩ := h
  have hlt := hown.lt
  refine ⟨cs, fps, ⟨hown.1, ?_⟩, hl, hf.mono (Nat.le_refl _) hz, hg, fun j hj => ?_⟩
  · rcases hown.2 with h | ⟨g, cap, cur, rfl, r1, r2, r3⟩
    · exact Or.inl h
    · exact Or.inr ⟨g, cap, cur, rfl, r1, by rw [hk g (hlt g rfl).1 (hlt g rfl).2]; exact r2, r3⟩
  · obtain ⟨c0, c1, f, h0, h1, h2, h3⟩ := hat j hj
    exact ⟨c0, c1, f, h0, h1, h2, h3.kept hz fun b hb => by have := hf.2 b (flat_mem h2 hb); exact hk b this.1 this.2⟩
theorem CopyRow.below {w w' : World} {base d : Nat} {v : Value} {ts : List Ty} (h : CopyRow w base d v ts) (hb : Below w.heap.size w w') : CopyRow w' base d v ts :=
  h.kept hb.size fun b _ hlt => hb.block b hlt
theorem CopyRow.stored {w : World} {base d : Nat} {v : Value} {ts : List Ty} (h : CopyRow w base d v ts) {p o : Nat} (hp : p < base) (u : Value) : CopyRow (w.setCell ⟨p, o, none⟩ u) base d v ts :=
  h.kept (by simp) fun b hb _ => heap_setCell_other _ _ _ _ (by simp; omega)
theorem CopyRow.form {w : World} {base d : Nat} {v : Value} {ts : List Ty} (h : CopyRow w base d v ts) : ∃ a c, v = .slice a ts.length c := by
  obtain ⟨cs, fps, hown, _⟩ := h
  rcases hown.2 with ⟨h1, h2⟩ | ⟨g, cap, cur, h1, _⟩
  · exact ⟨none, 0, by rw [h1, h2]⟩
  · exact ⟨_, cap, h1⟩
/-- An element is appended: wr is the world ahead of the element, w' the one behind it, w1 the one behind the append. -/
theorem CopyRow.append {wr w' : World} {base d : Nat} {v z0 z1 : Value} {ts : List Ty} {t : Ty} {f : List Nat} (h : CopyRow wr base d v ts) (hb : Below wr.heap.size wr w') (hbase : base ≤ wr.heap.size)
    (ht : TyOwn w' d (.agg #[z0, z1]) t f) (hft : Fp wr.heap.size w'.heap.size f) :
    ∃ cs, w'.ownsRow base 33 2 v ts.length cs ∧ ∀ (o : Obj) (g cap : Nat) (w1 : World), w1.ownsRow base 33 2 (.slice (some ⟨g, 0, none⟩) (ts.length + 1) cap) (ts.length + 1) (cs ++ [z0, z1]) →
      (w'.alloc o).grownBy w1 v.ownBlock → (v.ownBlock = some g ∨ g = w'.heap.size + 1) → CopyRow w1 base d (.slice (some ⟨g, 0, none⟩) (ts.length + 1) cap) (ts ++ [t]) := by
  obtain ⟨cs, fps, hown, hl, hf, hg, hat⟩ := h
  have hlt := hown.lt
  have hcs : cs.length = ts.length * 2 := hown.1
  have hz := hb.size
  refine ⟨cs, own_below hown hb, fun o g cap w1 hown1 hgrow hnew => ?_⟩
  have hza : (w'.alloc o).heap.size = w'.heap.size + 1 := by simp
  have hz1 := hgrow.size
  rw [hza] at hz1
  have hkeep : ∀ b, b < w'.heap.size → v.ownBlock ≠ some b → w1.heap[b]? = w'.heap[b]? := fun b h1 h2 => by
    rw [hgrow.block b (by rw [hza]; omega) (fun e => h2 e.symm), heap_alloc_old _ _ h1]
  refine ⟨_, fps ++ [f], by simpa using hown1, by simp [hl], ?_, ?_, fun j hj => ?_⟩
  · rw [List.flatten_append, List.flatten_cons, List.flatten_nil, List.append_nil]
    exact (hf.join hft hbase hz).mono (Nat.le_refl _) (by omega)
  · intro g' hg'
    simp only [Value.ownBlock, Option.some.injEq] at hg'
    subst hg'
    rw [List.flatten_append, List.flatten_cons, List.flatten_nil, List.append_nil]
    intro hm
    rcases List.mem_append.1 hm with hm | hm
    · rcases hnew with h | h
      · exact hg _ h hm
      · have := (hf.2 _ hm).2; omega
    · rcases hnew with h | h
      · have := (hlt _ h).2; have := (hft.2 _ hm).1; omega
      · have := (hft.2 _ hm).2; omega
  · by_cases hjn : j = ts.length
    · subst hjn
      refine ⟨z0, z1, f, ?_, ?_, ?_, ?_⟩
      · rw [List.getElem?_append_right (by omega), hcs]; simp
      · rw [List.getElem?_append_right (by omega), hcs]; simp
      · rw [List.getElem?_append_right (by omega), hl]; simp
      · rw [List.getElem_append_right (by omega)]
        simp only [Nat.sub_self, List.getElem_cons_zero]
        exact ht.kept (by omega) fun b hbf => hkeep b (hft.2 b hbf).2 (fun e => by have := (hlt b e).2; have := (hft.2 b hbf).1; omega)
    · have hj2 : j < ts.length := by simp at hj; omega
      obtain ⟨c0, c1, f', h0, h1, h2, h3⟩ := hat j hj2
      refine ⟨c0, c1, f', ?_, ?_, ?_, ?_⟩
      · rw [List.getElem?_append_left (by omega)]; exact h0
      · rw [List.getElem?_append_left (by omega)]; exact h1
      · rw [List.getElem?_append_left (by omega)]; exact h2
      · rw [List.getElem_append_left hj2]
        exact (h3.below hb).kept (by omega) fun b hbf => hkeep b (by have := (hf.2 b (flat_mem h2 hbf)).2; omega) (fun e => hg b e (flat_mem h2 hbf))
/-- The row is whole: the tree with this row has blocks of its own. -/
theorem CopyRow.tree {w : World} {base d : Nat} {v : Value} {ts : List Ty} (h : CopyRow w base d v ts) (k : Int) (h0 : -9223372036854775808 ≤ k) (h1 : k ≤ 9223372036854775807) :
    ∃ fp, TyOwn w (d + 1) (.agg #[.int .i64 k, v]) (.node k ts) fp ∧ Fp base w.heap.size fp := by
  obtain ⟨cs, fps, hown, hl, hf, hg, hat⟩ := h
  have hcs : cs.length = ts.length * 2 := hown.1
  rcases hown.2 with ⟨rfl, hn⟩ | ⟨g, cap, cur, rfl, hbg, hgc, hnc, hm, hcur, htake⟩
  · have hts : ts = [] := List.eq_nil_of_length_eq_zero hn
    subst hts
    exact ⟨[], ⟨_, rfl, h0, h1, none, 0, [], [], rfl, Nat.le_refl _, by omega, rfl, rfl, (fun b hb => by cases hb), fun j hj => by simp at hj⟩, Fp.nil _ _⟩
  · have hlt := (hown.lt g rfl).2
    refine ⟨[g] ++ fps.flatten, ⟨_, rfl, h0, h1, some ⟨g, 0, none⟩, cap, [g], fps, rfl, hnc, by unfold maxLen at hm; omega, hl, rfl, fun b hb => by cases List.mem_singleton.1 hb; exact hlt, fun j hj => ?_⟩, ?_⟩
    · obtain ⟨c0, c1, f, e0, e1, e2, e3⟩ := hat j hj
      exact ⟨g, 0, c0, c1, f, rfl, rfl, hlt, by rw [Nat.zero_add, hown.cellAt (j * 2) (by omega)]; exact e0, hown.frozenAt _, by rw [Nat.zero_add, hown.cellAt (j * 2 + 1) (by omega)]; exact e1, e2, e3⟩
    · refine ⟨?_, fun b hb => ?_⟩
      · rw [List.singleton_append, List.nodup_cons]
        exact ⟨hg g rfl, hf.1⟩
      · rcases List.mem_append.1 hb with hb | hb
        · cases List.mem_singleton.1 hb; exact ⟨hbg, hlt⟩
        · exact hf.2 b hb
end Go.Proofs.Ytcohfbdhdngplaa
/-
  Proved: spec.l3Copy copies a tree of at most 2^20 nodes into new memory; it leaves the memory that was there as it was.
-/
namespace Go.Proofs.Ytcohfbdhdngplaa
open Go.RowKit

/-- Three boxes were laid; below the third one nothing has changed since. -/
theorem three_below {w wr : World} {o q r : Obj} (h : Below (w.heap.size + 2) (((w.alloc o).alloc q).alloc r) wr) : Below w.heap.size w wr :=
  ((((Below.refl _ _).alloc (Nat.le_refl _) _).alloc (by simp) _).alloc (by simp; omega) _).trans (h.mono (by omega))
theorem three_first {w wr : World} {cs : Array Value} {T : TypeId} {q r : Obj} (h : Below (w.heap.size + 2) (((w.alloc (.cells cs T)).alloc q).alloc r) wr) (j : Nat) : wr.cell? ⟨w.heap.size, j, none⟩ = cs[j]? := by
  rw [h.cell (p := ⟨w.heap.size, j, none⟩) (Nat.lt_of_lt_of_le (Nat.lt_succ_self _) (Nat.le_succ _)), World.cell?_alloc_lt _ _ _ (by simp; omega), World.cell?_alloc_lt _ _ _ (by simp)]
  exact World.cell?_alloc_mark w cs T (0, 0) j
theorem three_next {w wr : World} {ds : Array Value} {U : TypeId} {o r : Obj} (h : Below (w.heap.size + 2) (((w.alloc o).alloc (.cells ds U)).alloc r) wr) (j : Nat) : wr.cell? ⟨w.heap.size + 1, j, none⟩ = ds[j]? := by
  rw [h.cell (p := ⟨w.heap.size + 1, j, none⟩) (Nat.lt_succ_self _), World.cell?_alloc_lt _ _ _ (by simp)]
  have := World.cell?_alloc_mark (w.alloc o) ds U (0, 0) j
  rw [show (w.alloc o).heap.size = w.heap.size + 1 from by simp] at this
  exact this
theorem three_frozen {w wr : World} {ds : Array Value} {U : TypeId} {o r : Obj} (h : Below (w.heap.size + 2) (((w.alloc o).alloc (.cells ds U)).alloc r) wr) (j : Nat) : wr.frozen? ⟨w.heap.size + 1, j, none⟩ = false := by
  rw [h.frozen (p := ⟨w.heap.size + 1, j, none⟩) (Nat.lt_succ_self _)]
  simp [go_sem]

set_option maxRecDepth 100000 in
set_option maxHeartbeats 4000000 in
theorem specCopy : ∀ (d : Nat) (v : Value) (t : Ty) (w : World), t.size ≤ 1048577 → TyAt w d v t →
    Calls Try.prog 112 #[v] w (ToTyEnd d t w)
  | 0, _, _, _, _, h => h.elim
  | d + 1, v, .node kd ts, w, hsz, h => by
    have IH : Hid (∀ (v : Value) (t : Ty) (w : World), t.size ≤ 1048577 → TyAt w d v t → Calls Try.prog 112 #[v] w (ToTyEnd d t w)) := specCopy d
    obtain ⟨i0, hi, hz0, hz1, hz2⟩ := info_parts info_ty
    have HI := Lib.hid hi
    have HZ0 := Lib.hid hz0
    have HZ1 := Lib.hid hz1
    have HZ2 := Lib.hid hz2
    have hlen := Ty.length_le ts
    have HSZ : Hid (1 + Ty.sizes ts ≤ 1048577) := by simp [Ty.size] at hsz; show _ ≤ _; omega
    have hn2 : ts.length ≤ 1048577 := by have := HSZ.out; omega
    clear hsz hlen hi hz0 hz1 hz2
    obtain ⟨sl, rfl, hk0, hk1, a, cap, rfl, hcap, hcap2, hat⟩ := h
    have HAT := Lib.hid hat; clear hat
    go_enter Try.func112, Try.ntmps112
    go_wp2_with fail
    go_loopw [4] (fun i wr => ∃ (k : Nat) (vo : Value), k ≤ ts.length ∧ i = .int .i64 k ∧ wr.cell? ⟨w.heap.size + 1 + 1, 0, none⟩ = some (.int .i64 kd) ∧ wr.cell? ⟨w.heap.size + 1 + 1, 1, none⟩ = some vo ∧ wr.frozen? ⟨w.heap.size + 1 + 1, 1, none⟩ = false ∧
        CopyRow wr (w.heap.size + 1 + 1 + 1) d vo (ts.take k) ∧ Below (w.heap.size + 2) (((w.alloc (.cells #[.int .i64 kd, .slice a ts.length cap] 33)).alloc (.cells #[.int .i64 0, .slice none 0 0] 33)).alloc (.cells #[.int .i64 kd, .slice none 0 0] 33)) wr) (fun i _ => ts.length - (intOf i).toNat)
    case atStart => exact ⟨0, _, by omega, rfl, by simp [go_sem], by simp [go_sem], by simp [go_sem], CopyRow.nil _ _ _, Below.refl _ _⟩
    case round =>
      obtain ⟨k, vo, hk, rfl, o0, o1, o2, hrow, hb⟩ := hrel
      obtain ⟨oa, oc, hvo⟩ := hrow.form
      rw [List.length_take, Nat.min_eq_left hk] at hvo
      subst hvo
      have HROW := Lib.hid hrow; clear hrow
      have hz := hb.size
      simp only [World.size_alloc] at hz
      have b0 := three_first hb 0
      have b1 := three_first hb 1
      have HB := Lib.hid hb
      have HBW := Lib.hid (three_below hb); clear hb
      by_cases hlt : k < ts.length
      · obtain ⟨b, off, x0, x1, rfl, hbl, hc0, hc1, ht⟩ := HAT.out k hlt
        have hg := Ty.size_get ts k hlt
        have e0 : wr.cell? ⟨b, off + k * 2, none⟩ = some x0 := by rw [HBW.out.cell (p := ⟨b, off + k * 2, none⟩) hbl]; exact hc0
        have e1 : wr.cell? ⟨b, off + k * 2 + 1, none⟩ = some x1 := by rw [HBW.out.cell (p := ⟨b, off + k * 2 + 1, none⟩) hbl]; exact hc1
        have HT := Lib.hid ((ht.below HBW.out).below (below_drew wr))
        have hzk : ts[k].size ≤ 1048577 := by have := HSZ.out; omega
        clear ht hc0 hc1 hg
        go_wp2_with fail
        go_region_law (first
          | (refine step_append_lies _ (by rfl) (.tmp 16) (.tmp 23) 31 (by rfl) (w.heap.size + 1 + 1 + 1) 33 i0 (.agg #[.int .i64 0, .slice none 0 0]) 2 32 Try.underlying31 HI.out HZ0.out HZ1.out HZ2.out rfl (by omega) (.slice oa k oc) k cs (by simp [Act.eval]) (HOWN.out.alloc _) ⟨w'.heap.size, 0, none⟩ 1 1 [.int .i64 zk, .slice za zn zc] (by simp [Act.eval]) rfl (World.news_of_block (cs := #[.int .i64 zk, .slice za zn zc]) (t := 33) (fr := (0, 0)) (heap_alloc_new w' _)) (by simp [Value.oneCell']) (by omega) (by unfold maxLen; omega) (by omega) (by simp; omega) (w'.heap.size + 1) (by simp) ?_
             intro g gc w1 hown1 hgrow hat1 hlt1
             have hne : some (w.heap.size + 1 + 1) ≠ (Value.slice oa k oc).ownBlock := fun e => by have := (HOWN.out.lt _ e.symm).1; omega
             have hlw : w.heap.size + 1 + 1 < w'.heap.size := by omega
             have k1 : w1.cell? ⟨w.heap.size + 1 + 1, 1, none⟩ = some (.slice oa k oc) := by
               rw [hgrow.cell_far _ (by simp; omega) hne, World.cell?_of_block (heap_alloc_old _ _ hlw)]; exact o1'
             have k0 : w1.cell? ⟨w.heap.size + 1 + 1, 0, none⟩ = some (.int .i64 kd) := by
               rw [hgrow.cell_far _ (by simp; omega) hne, World.cell?_of_block (heap_alloc_old _ _ hlw)]; exact o0'
             have k2 : w1.frozen? ⟨w.heap.size + 1 + 1, 1, none⟩ = false := by
               rw [hgrow.frozen_far _ (by simp; omega) hne, World.frozen?_of_block (heap_alloc_old _ _ hlw)]; exact o2'
             have HR1 := Lib.hid (HAPP.out _ g gc w1 hown1 hgrow hat1)
             have hz2 := hgrow.size
             have HB3 : Hid (Below (w.heap.size + 2) (((w.alloc (.cells #[.int .i64 kd, .slice (some ⟨b, off, none⟩) ts.length cap] 33)).alloc (.cells #[.int .i64 0, .slice none 0 0] 33)).alloc (.cells #[.int .i64 kd, .slice none 0 0] 33)) w1) :=
               (((HB.out.trans (HB2.out.mono (by omega))).alloc (by omega) _).grown hgrow (by simp; omega) (fun k hk => by have := (HOWN.out.lt _ hk).1; omega))
             clear hown1 hgrow hat1 hlt1 hne hlw)
          | (go_simp
             go_at_call 112
             refine (IH.out _ _ _ hzk HT.out).mono ?_
             rintro e w' ⟨v2, fp, rfl, ht, hfp, hb1⟩
             obtain ⟨zk, za, zn, zc, rfl, HY⟩ := ty_parts ht
             clear ht
             have hb2 := below_thru (below_drew wr) (Nat.le_refl _) hb1
             have hz1 := hb2.size
             obtain ⟨cs, hown, happ⟩ := HROW.out.append hb2 (by omega) HY.out hfp
             rw [List.length_take, Nat.min_eq_left hk] at hown happ
             have HOWN := Lib.hid hown
             have HAPP := Lib.hid happ
             have HB2 := Lib.hid hb2
             have o1' := (hb2.cell (p := ⟨w.heap.size + 1 + 1, 1, none⟩) (by show w.heap.size + 1 + 1 < _; omega)).trans o1
             have o1'' : (w'.alloc (.cells #[.int .i64 zk, .slice za zn zc] 33)).cell? ⟨w.heap.size + 1 + 1, 1, none⟩ = some (.slice oa k oc) := (World.cell?_of_block (heap_alloc_old _ _ (by show w.heap.size + 1 + 1 < _; omega))).trans o1'
             have o0' := (hb2.cell (p := ⟨w.heap.size + 1 + 1, 0, none⟩) (by show w.heap.size + 1 + 1 < _; omega)).trans o0
             have o2' := (hb2.frozen (p := ⟨w.heap.size + 1 + 1, 1, none⟩) (by show w.heap.size + 1 + 1 < _; omega)).trans o2
             have b1' := (hb2.cell (p := ⟨w.heap.size, 1, none⟩) (by show w.heap.size < _; omega)).trans b1
             clear hown happ hb1 hb2 HY))
        all_goals go_wp2_with fail
        all_goals
          exact ⟨⟨k + 1, .slice (some ⟨g, 0, none⟩) (k + 1) gc, by omega, by go_num, by simp [go_sem, k0], by simp [go_sem, k1], by simp [go_sem, k2], by rw [List.take_succ_eq_append_getElem hlt]; exact HR1.out.stored (by omega) _, HB3.out.setCell (by simp) _⟩, by simp [intOf]; omega⟩
      · obtain rfl : k = ts.length := by omega
        have p10 := three_next HB.out 0
        have p11 := three_next HB.out 1
        have q10 := three_frozen HB.out 0
        have q11 := three_frozen HB.out 1
        go_wp2_with fail
        have HR2 := (HROW.out.stored (p := w.heap.size + 1) (o := 0) (by omega) (.int .i64 kd)).stored (p := w.heap.size + 1) (o := 1) (by omega) (.slice oa ts.length oc)
        rw [List.take_length] at HR2
        obtain ⟨fp, hown, hfp⟩ := HR2.tree kd hk0 hk1
        have g0 : ((wr.setCell ⟨w.heap.size + 1, 0, none⟩ (.int .i64 kd)).setCell ⟨w.heap.size + 1, 1, none⟩ (.slice oa ts.length oc)).cell? ⟨w.heap.size + 1, 0, none⟩ = some (.int .i64 kd) := by simp [go_sem, p10]
        have g1 : ((wr.setCell ⟨w.heap.size + 1, 0, none⟩ (.int .i64 kd)).setCell ⟨w.heap.size + 1, 1, none⟩ (.slice oa ts.length oc)).cell? ⟨w.heap.size + 1, 1, none⟩ = some (.slice oa ts.length oc) := by simp [go_sem, p11]
        refine bodyPost_ret (v := .agg #[.int .i64 kd, .slice oa ts.length oc]) (by simp [results, Try.results112, go_sem, g0, g1]) rfl ?_
        exact ⟨_, fp, rfl, hown, hfp.mono (by omega) (Nat.le_refl _), (HBW.out.setCell (by simp) _).setCell (by simp) _⟩
end Go.Proofs.Ytcohfbdhdngplaa
/-
  Proved: spec.l6Copy copies an expression into new memory; it leaves the memory that was there as it was.
-/
namespace Go.Proofs.Ytcohfbdhdngplaa
open Go.RowKit

theorem box_five {w : World} {p : Nat} {c0 c1 c2 c3 c4 c5 : Value} (h : BoxAt w p #[c0, c1, c2, c3, c4, c5]) : w.cell? ⟨p, 0, none⟩ = some c0 ∧ w.cell? ⟨p, 1, none⟩ = some c1 ∧ w.cell? ⟨p, 2, none⟩ = some c2 ∧ w.cell? ⟨p, 3, none⟩ = some c3 ∧ w.cell? ⟨p, 4, none⟩ = some c4 := ⟨h.2 0, h.2 1, h.2 2, h.2 3, h.2 4⟩
theorem box_six {w : World} {p : Nat} {c0 c1 c2 c3 c4 c5 : Value} (h : BoxAt w p #[c0, c1, c2, c3, c4, c5]) : w.cell? ⟨p, 0, none⟩ = some c0 ∧ w.cell? ⟨p, 1, none⟩ = some c1 ∧ w.cell? ⟨p, 2, none⟩ = some c2 ∧ w.cell? ⟨p, 3, none⟩ = some c3 ∧ w.cell? ⟨p, 4, none⟩ = some c4 ∧ w.cell? ⟨p, 5, none⟩ = some c5 := ⟨h.2 0, h.2 1, h.2 2, h.2 3, h.2 4, h.2 5⟩
theorem free_six {w : World} {p : Nat} (h : FreeAt w p) : w.frozen? ⟨p, 0, none⟩ = false ∧ w.frozen? ⟨p, 1, none⟩ = false ∧ w.frozen? ⟨p, 2, none⟩ = false ∧ w.frozen? ⟨p, 3, none⟩ = false ∧ w.frozen? ⟨p, 4, none⟩ = false ∧ w.frozen? ⟨p, 5, none⟩ = false := ⟨h.2 0, h.2 1, h.2 2, h.2 3, h.2 4, h.2 5⟩
/-- The new node, without its parts, all of it made since W. -/
def OutAt (W : World) (d : Nat) (kd : Int) (nm : ByteArray) (n : Int) (ty : Ty) (s : Value) (wx : World) : Prop :=
  ∃ p zk za zn zc f1, s = .pointer (some ⟨p, 0, none⟩) ∧ W.heap.size ≤ p ∧ BoxAt wx p #[.int .i64 kd, .string nm, .int .i64 n, .int .i64 zk, .slice za zn zc, .slice none 0 0] ∧ FreeAt wx p ∧ TyOwn wx d (.agg #[.int .i64 zk, .slice za zn zc]) ty f1 ∧ Fp W.heap.size wx.heap.size f1 ∧ p ∉ f1 ∧ Below W.heap.size W wx
theorem out_new {W w8 : World} {d : Nat} {kd : Int} {nm : ByteArray} {n : Int} {ty : Ty} {zk : Int} {za : Option Addr} {zn zc lo : Nat} {f1 : List Nat} {T : TypeId} (G : Below W.heap.size W w8) (Ht : TyOwn w8 d (.agg #[.int .i64 zk, .slice za zn zc]) ty f1) (Hf : Fp lo w8.heap.size f1) (hlo : W.heap.size ≤ lo) :
    OutAt W d kd nm n ty (.pointer (some ⟨w8.heap.size, 0, none⟩)) (w8.alloc (.cells #[.int .i64 kd, .string nm, .int .i64 n, .int .i64 zk, .slice za zn zc, .slice none 0 0] T)) :=
  ⟨w8.heap.size, zk, za, zn, zc, f1, rfl, G.size, BoxAt.new _ _ _, FreeAt.new _ _ _, Ht.below (below_alloc _ _), Hf.mono hlo (by simp), fun h => Nat.lt_irrefl _ (Hf.2 _ h).2, G.alloc G.size _⟩
theorem out_old {W w8 : World} {d : Nat} {kd : Int} {nm : ByteArray} {n : Int} {ty : Ty} {zk : Int} {za : Option Addr} {zn zc lo p : Nat} {f1 : List Nat} (G : Below W.heap.size W w8) (Ht : TyOwn w8 d (.agg #[.int .i64 zk, .slice za zn zc]) ty f1) (Hf : Fp lo w8.heap.size f1) (hlo : W.heap.size ≤ lo)
    (hP : W.heap.size ≤ p) (hp : p < lo) (X : BoxAt w8 p #[.int .i64 0, .string ⟨#[]⟩, .int .i64 0, .int .i64 0, .slice none 0 0, .slice none 0 0]) (F : FreeAt w8 p) :
    OutAt W d kd nm n ty (.pointer (some ⟨p, 0, none⟩)) ((((((w8.setCell ⟨p, 0, none⟩ (.int .i64 kd)).setCell ⟨p, 1, none⟩ (.string nm)).setCell ⟨p, 2, none⟩ (.int .i64 n)).setCell ⟨p, 3, none⟩ (.int .i64 zk)).setCell ⟨p, 4, none⟩ (.slice za zn zc)).setCell ⟨p, 5, none⟩ (.slice none 0 0)) := by
  refine ⟨p, zk, za, zn, zc, f1, rfl, hP, ?_, F.put.put.put.put.put.put, ?_, Hf.mono hlo (by simp), fun h => by have := (Hf.2 _ h).1; omega, (((((G.setCell hP _).setCell hP _).setCell hP _).setCell hP _).setCell hP _).setCell hP _⟩
  · have h1 := X.put (j := 0) (u := .int .i64 kd) (by simp)
    have h2 := h1.put (j := 1) (u := .string nm) (by simp)
    have h3 := h2.put (j := 2) (u := .int .i64 n) (by simp)
    have h4 := h3.put (j := 3) (u := .int .i64 zk) (by simp)
    have h5 := h4.put (j := 4) (u := .slice za zn zc) (by simp)
    have h6 := h5.put (j := 5) (u := .slice none 0 0) (by simp)
    simpa using h6
  · exact Ht.kept (by simp) fun b hb => by
      have := (Hf.2 b hb).1
      rw [heap_setCell_other _ _ _ _ (by simp; omega), heap_setCell_other _ _ _ _ (by simp; omega), heap_setCell_other _ _ _ _ (by simp; omega), heap_setCell_other _ _ _ _ (by simp; omega), heap_setCell_other _ _ _ _ (by simp; omega), heap_setCell_other _ _ _ _ (by simp; omega)]

set_option maxRecDepth 100000 in
set_option maxHeartbeats 4000000 in
theorem specExCopy : ∀ (d : Nat) (v : Value) (t : Ex) (w : World), t.bulk ≤ 1048576 → ExAt w d v t →
    Calls Try.prog 117 #[v] w (ToExEnd d t w)
  | 0, _, _, _, _, h => h.elim
  | d + 1, v, .node kd nm n ty es, w, hsz, h => by
    have IH : Hid (∀ (v : Value) (t : Ex) (w : World), t.bulk ≤ 1048576 → ExAt w d v t → Calls Try.prog 117 #[v] w (ToExEnd d t w)) := specExCopy d
    obtain ⟨i0, hi, hz0, hz1, hz2⟩ := info_parts info_ex
    have HI := Lib.hid hi
    have HZ0 := Lib.hid hz0
    have HZ1 := Lib.hid hz1
    have HZ2 := Lib.hid hz2
    clear hi hz0 hz1 hz2
    have HV := ex_parts h
    obtain ⟨c3, c4, sl, rfl, hk0, hk1, hn0, hn1, hnm, hty, a, cap, rfl, hcap, hcap2, hat⟩ := h
    obtain ⟨k', nm', n', tk, ta, tn, tc, sa, sn, sc, hv⟩ := HV
    injection hv with hv
    injection hv with hv
    simp at hv
    obtain ⟨rfl, rfl, rfl, rfl, rfl, rfl, rfl, rfl⟩ := hv
    have HAT := Lib.hid hat; clear hat
    have HTY := Lib.hid hty; clear hty
    have hbk : (Ex.node kd nm n ty es).bulk = nm.size + (ty.size - 1) + Ex.bulks es := rfl
    have HSZ : Hid (Ex.bulks es ≤ 1048576) := by show _ ≤ _; omega
    have HTZ : Hid (ty.size ≤ 1048577) := by show _ ≤ _; omega
    have hn2 : es.length ≤ 1048576 := by have := Ex.length_le es; omega
    clear hsz hbk
    obtain ⟨W, hW⟩ : ∃ W, W = (w.alloc (.cells #[.int .i64 kd, .string nm, .int .i64 n, .int .i64 tk, .slice ta tn tc, .slice a es.length cap] 36)).alloc (.cells #[.int .i64 0, .string ⟨#[]⟩, .int .i64 0, .int .i64 0, .slice none 0 0, .slice none 0 0] 36) := ⟨_, rfl⟩
    have XB : Hid (BoxAt W w.heap.size #[.int .i64 kd, .string nm, .int .i64 n, .int .i64 tk, .slice ta tn tc, .slice a es.length cap]) := by
      rw [hW]; exact (BoxAt.new _ _ _).below (below_alloc _ _)
    have BW : Hid (Below w.heap.size w W) := by
      rw [hW]; exact ((Below.refl _ _).alloc (Nat.le_refl _) _).alloc (by simp) _
    have HTW := Lib.hid (HTY.out.below BW.out)
    have hWs : W.heap.size = w.heap.size + 1 + 1 := by rw [hW]; simp
    go_enter Try.func117, Try.ntmps117
    go_upto_region 1 with fail
    go_cut [3] (fun s wx => OutAt W d kd nm n ty s wx)
    case first =>
      rw [← hW]
      have HWS := Lib.hid hWs
      clear hW hWs
      have G := Lib.hid (below_drew W)
      go_region_held3 (fun w' => w'.cell? ⟨w.heap.size, 0, none⟩ = some (.int .i64 kd) ∧ w'.cell? ⟨w.heap.size, 1, none⟩ = some (.string nm) ∧ w'.cell? ⟨w.heap.size, 2, none⟩ = some (.int .i64 n) ∧ w'.cell? ⟨w.heap.size, 3, none⟩ = some (.int .i64 tk) ∧ w'.cell? ⟨w.heap.size, 4, none⟩ = some (.slice ta tn tc)) (refine ⟨(by (repeat (rw [World.cell?_setCell_other _ _ _ _ (by first | (simp; have hws := HWS.out; omega) | simp)])); first | with_reducible exact (box_five (XB.out.below G.out)).1 | with_reducible exact (box_five (XB.out.below (G.out.alloc G.out.size _))).1 | with_reducible exact (box_five (XB.out.below (below_alloc _ _).drew)).1), (by (repeat (rw [World.cell?_setCell_other _ _ _ _ (by first | (simp; have hws := HWS.out; omega) | simp)])); first | with_reducible exact (box_five (XB.out.below G.out)).2.1 | with_reducible exact (box_five (XB.out.below (G.out.alloc G.out.size _))).2.1 | with_reducible exact (box_five (XB.out.below (below_alloc _ _).drew)).2.1), (by (repeat (rw [World.cell?_setCell_other _ _ _ _ (by first | (simp; have hws := HWS.out; omega) | simp)])); first | with_reducible exact (box_five (XB.out.below G.out)).2.2.1 | with_reducible exact (box_five (XB.out.below (G.out.alloc G.out.size _))).2.2.1 | with_reducible exact (box_five (XB.out.below (below_alloc _ _).drew)).2.2.1), (by (repeat (rw [World.cell?_setCell_other _ _ _ _ (by first | (simp; have hws := HWS.out; omega) | simp)])); first | with_reducible exact (box_five (XB.out.below G.out)).2.2.2.1 | with_reducible exact (box_five (XB.out.below (G.out.alloc G.out.size _))).2.2.2.1 | with_reducible exact (box_five (XB.out.below (below_alloc _ _).drew)).2.2.2.1), (by (repeat (rw [World.cell?_setCell_other _ _ _ _ (by first | (simp; have hws := HWS.out; omega) | simp)])); first | with_reducible exact (box_five (XB.out.below G.out)).2.2.2.2 | with_reducible exact (box_five (XB.out.below (G.out.alloc G.out.size _))).2.2.2.2 | with_reducible exact (box_five (XB.out.below (below_alloc _ _).drew)).2.2.2.2)⟩)
        (first
         | (go_at_call 112
            refine (specCopy d _ ty _ HTZ.out ?_).mono ?_
            · first | exact HTW.out.below G.out | exact HTW.out.below (G.out.alloc G.out.size _) | exact HTW.out.below (below_alloc _ _).drew
            rintro e wo ⟨o, fp, rfl, ht, hf, hb⟩
            obtain ⟨zk, za, zn, zc, rfl, HY⟩ := ty_parts ht
            have HF := Lib.hid hf
            clear ht hf
            have hzo := hb.size
            try simp only [World.size_drew] at hzo
            try simp only [World.size_alloc] at hzo
            try simp only [World.size_drew] at hzo
            first
              | (have XO : Hid (BoxAt wo W.heap.size #[.int .i64 0, .string ⟨#[]⟩, .int .i64 0, .int .i64 0, .slice none 0 0, .slice none 0 0]) := Lib.hid ((BoxAt.new _ _ _).below hb)
                 have XF : Hid (FreeAt wo W.heap.size) := Lib.hid ((FreeAt.new _ #[.int .i64 0, .string ⟨#[]⟩, .int .i64 0, .int .i64 0, .slice none 0 0, .slice none 0 0] _).below hb)
                 have G2 := Lib.hid (below_on (G.out.alloc G.out.size _) hb (G.out.alloc G.out.size _).size)
                 clear G
                 have G := G2
                 clear G2
                 obtain ⟨r0, r1, r2, r3, r4, r5⟩ := box_six XO.out
                 obtain ⟨q0, q1, q2, q3, q4, q5⟩ := free_six XF.out)
              | (have XO : Hid (BoxAt wo W.heap.size #[.int .i64 0, .string ⟨#[]⟩, .int .i64 0, .int .i64 0, .slice none 0 0, .slice none 0 0]) := Lib.hid (((BoxAt.new _ _ _).below (below_drew _)).below hb)
                 have XF : Hid (FreeAt wo W.heap.size) := Lib.hid (((FreeAt.new _ #[.int .i64 0, .string ⟨#[]⟩, .int .i64 0, .int .i64 0, .slice none 0 0, .slice none 0 0] _).below (below_drew _)).below hb)
                 have G2 := Lib.hid (below_on (below_alloc W _).drew hb (below_alloc W _).drew.size)
                 clear G
                 have G := G2
                 clear G2
                 obtain ⟨r0, r1, r2, r3, r4, r5⟩ := box_six XO.out
                 obtain ⟨q0, q1, q2, q3, q4, q5⟩ := free_six XF.out)
              | (replace G := Lib.hid (below_on G.out hb G.out.size))
            clear hb))
      all_goals go_wp2_with fail
      all_goals go_meet
      all_goals first | with_reducible refine out_new G.out HY.out HF.out ?_ | with_reducible refine out_old G.out HY.out HF.out ?_ ?_ ?_ XO.out XF.out | trace_state
      all_goals ((try simp only [World.size_drew]); (try simp only [World.size_alloc]); (try simp only [World.size_drew]); omega)
    case rest =>
      obtain ⟨w3, hwc⟩ : ∃ u, u = wc := ⟨_, rfl⟩
      subst hwc
      obtain ⟨p, zk, za, zn, zc, f1, rfl, hp, hX, hF, hT, hFp, hpf, hb⟩ := hcut
      have XR0 : Hid (BoxAt W (w.heap.size + 1) #[.int .i64 0, .string ⟨#[]⟩, .int .i64 0, .int .i64 0, .slice none 0 0, .slice none 0 0]) := by rw [hW]; exact box_at (BoxAt.new _ _ _) (by simp)
      have FR0 : Hid (FreeAt W (w.heap.size + 1)) := by rw [hW]; exact free_at (FreeAt.new _ _ _) (by simp)
      have HFP := Lib.hid hFp
      have HPF := Lib.hid hpf
      have HX3 := Lib.hid hX
      have HF3 := Lib.hid hF
      have HT3 := Lib.hid hT
      have HB3 := Lib.hid hb
      have HWS := Lib.hid hWs
      have HPW := Lib.hid hp
      have HP3 : Hid (p < w3.heap.size) := hX.1
      have HW3 : Hid (W.heap.size ≤ w3.heap.size) := hb.size
      clear hX hF hT hFp hpf hb hW hWs hp
      go_wp2_with fail
      go_loopw [4] (fun i wr => ∃ (k : Nat) (vo : Value), k ≤ es.length ∧ i = .int .i64 k ∧ BoxAt wr p #[.int .i64 kd, .string nm, .int .i64 n, .int .i64 zk, .slice za zn zc, vo] ∧ FreeAt wr p ∧ ExRow wr w3.heap.size d vo (es.take k) ∧ TyOwn wr d (.agg #[.int .i64 zk, .slice za zn zc]) ty f1 ∧ w3.heap.size ≤ wr.heap.size ∧ Below W.heap.size W wr) (fun i _ => es.length - (intOf i).toNat)
      case atStart => exact ⟨0, _, by omega, rfl, HX3.out, HF3.out, ExRow.nil _ _ _, HT3.out, Nat.le_refl _, HB3.out⟩
      case round =>
        obtain ⟨k, vo, hk, rfl, hxp, hfp, hrow, hty, hz3, hb⟩ := hrel
        obtain ⟨oa, oc, hvo⟩ := hrow.form
        rw [List.length_take, Nat.min_eq_left hk] at hvo
        subst hvo
        have HROW := Lib.hid hrow; clear hrow
        have XP := Lib.hid hxp; clear hxp
        have XF := Lib.hid hfp; clear hfp
        have HT := Lib.hid hty; clear hty
        have HBW := Lib.hid hb
        have HBB := Lib.hid (below_thru BW.out (Nat.le_refl _) hb); clear hb
        have HZ3 := Lib.hid hz3; clear hz3
        have b5 := (XB.out.below HBW.out).2 5
        by_cases hlt : k < es.length
        · obtain ⟨b, off, x0, x1, x2, x3, x4, x5, rfl, hbl, hc0, hc1, hc2, hc3, hc4, hc5, ht⟩ := HAT.out k hlt
          have hg := Ex.bulk_get es k hlt
          have hzk : es[k].bulk ≤ 1048576 := by have := HSZ.out; omega
          have e0 : wr.cell? ⟨b, off + k * 6, none⟩ = some x0 := by rw [HBB.out.cell (p := ⟨b, off + k * 6, none⟩) hbl]; exact hc0
          have e1 : wr.cell? ⟨b, off + k * 6 + 1, none⟩ = some x1 := by rw [HBB.out.cell (p := ⟨b, off + k * 6 + 1, none⟩) hbl]; exact hc1
          have e2 : wr.cell? ⟨b, off + k * 6 + 2, none⟩ = some x2 := by rw [HBB.out.cell (p := ⟨b, off + k * 6 + 2, none⟩) hbl]; exact hc2
          have e3 : wr.cell? ⟨b, off + k * 6 + 3, none⟩ = some x3 := by rw [HBB.out.cell (p := ⟨b, off + k * 6 + 3, none⟩) hbl]; exact hc3
          have e4 : wr.cell? ⟨b, off + k * 6 + 4, none⟩ = some x4 := by rw [HBB.out.cell (p := ⟨b, off + k * 6 + 4, none⟩) hbl]; exact hc4
          have e5 : wr.cell? ⟨b, off + k * 6 + 5, none⟩ = some x5 := by rw [HBB.out.cell (p := ⟨b, off + k * 6 + 5, none⟩) hbl]; exact hc5
          have HTE := Lib.hid ((ht.below HBB.out).below (below_drew wr))
          have o5 := XP.out.2 5
          have z5 := XF.out.2 5
          clear ht hc0 hc1 hc2 hc3 hc4 hc5 hg
          go_wp2_with fail
          go_region_law (first
            | (refine step_append_lies _ (by rfl) (.tmp 23) (.tmp 30) 34 (by rfl) w3.heap.size 36 i0 (.agg #[.int .i64 0, .string ⟨#[]⟩, .int .i64 0, .int .i64 0, .slice none 0 0, .slice none 0 0]) 6 88 Try.underlying34 HI.out HZ0.out HZ1.out HZ2.out rfl (by omega) (.slice oa k oc) k cs (by simp [Act.eval]) (HOWN.out.alloc _) ⟨w'.heap.size, 0, none⟩ 1 1 [.int .i64 yk, .string ynm, .int .i64 yn, .int .i64 ytk, .slice yta ytn ytc, .slice ya ym yc] (by simp [Act.eval]) rfl (World.news_of_block (cs := #[.int .i64 yk, .string ynm, .int .i64 yn, .int .i64 ytk, .slice yta ytn ytc, .slice ya ym yc]) (t := 36) (fr := (0, 0)) (heap_alloc_new w' _)) (by simp [Value.oneCell']) (by omega) (by unfold maxLen; omega) (by omega) (by simp; have h1 := HZ3.out; omega) (w'.heap.size + 1) (by simp) ?_
               intro g gc w1 hown1 hgrow hat1 hlt1
               have hz2 := hgrow.size
               have hz3 := HZ3.out
               have hp3 := HP3.out
               simp only [World.size_alloc] at hz2
               have KP : Hid (∀ b, b < w3.heap.size → w1.heap[b]? = w'.heap[b]?) := fun b hb => by
                 rw [hgrow.block b (by simp; omega) (fun e => by have := (HOWN.out.lt _ e.symm).1; omega), heap_alloc_old _ _ (by omega)]
               have XP1 : Hid (BoxAt w1 p #[.int .i64 kd, .string nm, .int .i64 n, .int .i64 zk, .slice za zn zc, .slice oa k oc]) := XP2.out.kept (by omega) (KP.out p hp3)
               have XF1 : Hid (FreeAt w1 p) := ⟨by omega, fun j => (World.frozen?_of_block (a := ⟨p, j, none⟩) (KP.out p hp3)).trans (XF2.out.2 j)⟩
               have HT1 : Hid (TyOwn w1 d (.agg #[.int .i64 zk, .slice za zn zc]) ty f1) := HT2.out.kept (by omega) fun b hb => KP.out b (HFP.out.2 b hb).2
               have HR1 := Lib.hid (HAPP.out _ g gc w1 hown1 hgrow hat1)
               have HB4 : Hid (Below W.heap.size W w1) := ((HBW.out.trans (HB2.out.mono (by have := HBW.out.size; omega))).alloc (by have := HW3.out; omega) _).grown hgrow (by simp; have := HW3.out; omega) (fun k hk => by have := (HOWN.out.lt _ hk).1; have := HW3.out; omega)
               have k5 := XP1.out.2 5
               have f5 := XF1.out.2 5
               have hz4 : w3.heap.size ≤ w1.heap.size := by omega
               clear hown1 hgrow hat1 hlt1 hz2)
            | (go_simp
               go_at_call 117
               refine (IH.out _ _ _ hzk HTE.out).mono ?_
               rintro e w' ⟨v2, fp, rfl, ht, hfp, hb1⟩
               obtain ⟨yk, ynm, yn, ytk, yta, ytn, ytc, ya, ym, yc, rfl⟩ := ex_parts ht.at_
               have hb2 := below_thru (below_drew wr) (Nat.le_refl _) hb1
               have hz1 := hb2.size
               obtain ⟨cs, hown, happ⟩ := HROW.out.append hb2 HZ3.out ht hfp
               rw [List.length_take, Nat.min_eq_left hk] at hown happ
               have HOWN := Lib.hid hown
               have HAPP := Lib.hid happ
               have HB2 := Lib.hid hb2
               have XP2 := Lib.hid (XP.out.below hb2)
               have XF2 := Lib.hid (XF.out.below hb2)
               have HT2 : Hid (TyOwn w' d (.agg #[.int .i64 zk, .slice za zn zc]) ty f1) := HT.out.kept hz1 fun b hb => hb2.block b (Nat.lt_of_lt_of_le (HFP.out.2 b hb).2 HZ3.out)
               have o5' := XP2.out.2 5
               have o5'' := (XP2.out.below (below_alloc w' (.cells #[.int .i64 yk, .string ynm, .int .i64 yn, .int .i64 ytk, .slice yta ytn ytc, .slice ya ym yc] 36))).2 5
               have z5' := XF2.out.2 5
               have b5' := ((XB.out.below HBW.out).below hb2).2 5
               clear hown happ hb1 hb2 ht hfp))
          all_goals go_wp2_with fail
          all_goals
            exact ⟨⟨k + 1, .slice (some ⟨g, 0, none⟩) (k + 1) gc, by omega, by go_num, XP1.out.put (j := 5) (u := .slice (some ⟨g, 0, none⟩) (k + 1) gc) (by simp), XF1.out.put, by rw [List.take_succ_eq_append_getElem hlt]; exact HR1.out.stored HP3.out _, HT1.out.kept (by simp) (fun b hb => heap_setCell_other _ _ _ _ (fun e => HPF.out (by have e2 : b = p := e; rw [← e2]; exact hb))), by simpa using hz4, HB4.out.setCell HPW.out _⟩, by simp [intOf]; omega⟩
        · obtain rfl : k = es.length := by omega
          have hlw : w.heap.size + 1 < w3.heap.size := by have := HWS.out; have := HW3.out; omega
          have XR := Lib.hid (XR0.out.below HBW.out)
          have FR := Lib.hid (FR0.out.below HBW.out)
          have o0 := XP.out.2 0
          have r0 := XR.out.2 0
          have s0 := FR.out.2 0
          have o1 := XP.out.2 1
          have r1 := XR.out.2 1
          have s1 := FR.out.2 1
          have o2 := XP.out.2 2
          have r2 := XR.out.2 2
          have s2 := FR.out.2 2
          have o3 := XP.out.2 3
          have r3 := XR.out.2 3
          have s3 := FR.out.2 3
          have o4 := XP.out.2 4
          have r4 := XR.out.2 4
          have s4 := FR.out.2 4
          have o5 := XP.out.2 5
          have r5 := XR.out.2 5
          have s5 := FR.out.2 5
          go_wp2_with fail
          have hRF : BoxAt ((((((wr.setCell ⟨w.heap.size + 1, 0, none⟩ (.int .i64 kd)).setCell ⟨w.heap.size + 1, 1, none⟩ (.string nm)).setCell ⟨w.heap.size + 1, 2, none⟩ (.int .i64 n)).setCell ⟨w.heap.size + 1, 3, none⟩ (.int .i64 zk)).setCell ⟨w.heap.size + 1, 4, none⟩ (.slice za zn zc)).setCell ⟨w.heap.size + 1, 5, none⟩ (.slice oa es.length oc)) (w.heap.size + 1) #[.int .i64 kd, .string nm, .int .i64 n, .int .i64 zk, .slice za zn zc, .slice oa es.length oc] := by
            have := ((((((XR.out.put (j := 0) (u := .int .i64 kd) (by simp)).put (j := 1) (u := .string nm) (by simp)).put (j := 2) (u := .int .i64 n) (by simp)).put (j := 3) (u := .int .i64 zk) (by simp)).put (j := 4) (u := .slice za zn zc) (by simp)).put (j := 5) (u := .slice oa es.length oc) (by simp))
            exact this
          have HRW : ExRow ((((((wr.setCell ⟨w.heap.size + 1, 0, none⟩ (.int .i64 kd)).setCell ⟨w.heap.size + 1, 1, none⟩ (.string nm)).setCell ⟨w.heap.size + 1, 2, none⟩ (.int .i64 n)).setCell ⟨w.heap.size + 1, 3, none⟩ (.int .i64 zk)).setCell ⟨w.heap.size + 1, 4, none⟩ (.slice za zn zc)).setCell ⟨w.heap.size + 1, 5, none⟩ (.slice oa es.length oc)) w3.heap.size d (.slice oa es.length oc) es := by
            have := ((((((HROW.out.stored (p := w.heap.size + 1) (o := 0) hlw (.int .i64 kd)).stored (p := w.heap.size + 1) (o := 1) hlw (.string nm)).stored (p := w.heap.size + 1) (o := 2) hlw (.int .i64 n)).stored (p := w.heap.size + 1) (o := 3) hlw (.int .i64 zk)).stored (p := w.heap.size + 1) (o := 4) hlw (.slice za zn zc)).stored (p := w.heap.size + 1) (o := 5) hlw (.slice oa es.length oc))
            rw [List.take_length] at this
            exact this
          have hTF : TyOwn ((((((wr.setCell ⟨w.heap.size + 1, 0, none⟩ (.int .i64 kd)).setCell ⟨w.heap.size + 1, 1, none⟩ (.string nm)).setCell ⟨w.heap.size + 1, 2, none⟩ (.int .i64 n)).setCell ⟨w.heap.size + 1, 3, none⟩ (.int .i64 zk)).setCell ⟨w.heap.size + 1, 4, none⟩ (.slice za zn zc)).setCell ⟨w.heap.size + 1, 5, none⟩ (.slice oa es.length oc)) d (.agg #[.int .i64 zk, .slice za zn zc]) ty f1 := HT.out.kept (by simp) fun b hb => by
            have h1 := (HFP.out.2 b hb).1
            have h2 := HWS.out
            rw [heap_setCell_other _ _ _ _ (by simp; omega), heap_setCell_other _ _ _ _ (by simp; omega), heap_setCell_other _ _ _ _ (by simp; omega), heap_setCell_other _ _ _ _ (by simp; omega), heap_setCell_other _ _ _ _ (by simp; omega), heap_setCell_other _ _ _ _ (by simp; omega)]
          have hBF : Below w.heap.size w ((((((wr.setCell ⟨w.heap.size + 1, 0, none⟩ (.int .i64 kd)).setCell ⟨w.heap.size + 1, 1, none⟩ (.string nm)).setCell ⟨w.heap.size + 1, 2, none⟩ (.int .i64 n)).setCell ⟨w.heap.size + 1, 3, none⟩ (.int .i64 zk)).setCell ⟨w.heap.size + 1, 4, none⟩ (.slice za zn zc)).setCell ⟨w.heap.size + 1, 5, none⟩ (.slice oa es.length oc)) := ((((((HBB.out.setCell (by simp) _).setCell (by simp) _).setCell (by simp) _).setCell (by simp) _).setCell (by simp) _).setCell (by simp) _)
          have hzF : w3.heap.size ≤ ((((((wr.setCell ⟨w.heap.size + 1, 0, none⟩ (.int .i64 kd)).setCell ⟨w.heap.size + 1, 1, none⟩ (.string nm)).setCell ⟨w.heap.size + 1, 2, none⟩ (.int .i64 n)).setCell ⟨w.heap.size + 1, 3, none⟩ (.int .i64 zk)).setCell ⟨w.heap.size + 1, 4, none⟩ (.slice za zn zc)).setCell ⟨w.heap.size + 1, 5, none⟩ (.slice oa es.length oc)).heap.size := by simpa using HZ3.out
          obtain ⟨fp, hown, hfp⟩ := HRW.tree kd nm n ty f1 hk0 hk1 hn0 hn1 hnm hTF HFP.out HW3.out hzF
          have hwW : w.heap.size ≤ W.heap.size := by have := HWS.out; omega
          have g0 := hRF.2 0
          have g1 := hRF.2 1
          have g2 := hRF.2 2
          have g3 := hRF.2 3
          have g4 := hRF.2 4
          have g5 := hRF.2 5
          clear hRF HRW hTF
          generalize ((((((wr.setCell ⟨w.heap.size + 1, 0, none⟩ (.int .i64 kd)).setCell ⟨w.heap.size + 1, 1, none⟩ (.string nm)).setCell ⟨w.heap.size + 1, 2, none⟩ (.int .i64 n)).setCell ⟨w.heap.size + 1, 3, none⟩ (.int .i64 zk)).setCell ⟨w.heap.size + 1, 4, none⟩ (.slice za zn zc)).setCell ⟨w.heap.size + 1, 5, none⟩ (.slice oa es.length oc)) = WX at g0 g1 g2 g3 g4 g5 hown hfp hBF ⊢
          refine bodyPost_ret (v := .agg #[.int .i64 kd, .string nm, .int .i64 n, .int .i64 zk, .slice za zn zc, .slice oa es.length oc]) (by simp [results, Try.results117, go_sem, g0, g1, g2, g3, g4, g5]) rfl ?_
          exact ⟨_, fp, rfl, hown, hfp.mono hwW (Nat.le_refl _), hBF⟩
end Go.Proofs.Ytcohfbdhdngplaa
/-
  Proved: spec.l14Copy copies an edit; the memory that was there stays as it was.
-/
namespace Go.Proofs.Ytcohfbdhdngplaa
open Go.RowKit

/-- A path that is appended to an empty slice. -/
theorem path_append (ty : TypeId) (w : World) (b : Addr) (v : Value) (ps : List Int) (hv : Ints w v ps) (hn : ps.length ≤ 1048576) :
    ∃ v' w', (Builtin.append_ #[45, 45] ty #[.slice (some b) 0 0, v]).run Try.prog w = .ok v' w' ∧ (∃ a cap, v' = .slice a ps.length cap) ∧ (∀ W', (∀ b, w.heap.size ≤ b → b < w'.heap.size → W'.heap[b]? = w'.heap[b]?) → Ints W' v' ps) ∧ Below w.heap.size w w' := by
  obtain ⟨i0, hi, hz0, hz1, hz2⟩ := info_parts info_i
  obtain ⟨a, cap, rfl, hcap, hat⟩ := hv
  by_cases h0 : 0 < ps.length
  · obtain ⟨g, off, rfl, hg, _⟩ := hat 0 h0
    obtain ⟨v', w', hr, ho, hgr⟩ := run_append_arg_grows (P := Try.prog) (w := w) 45 ty 3 i0 (.int .i64 0) 1 8 Try.underlying45 hi hz0 hz1 hz2 rfl (by omega) b 0 0 [] rfl (fun j u h => by simp at h)
      ⟨g, off, none⟩ ps.length cap (ps.map (Value.int IntKind.i64)) (by simp) (fun j u h => by
        simp at h
        obtain ⟨x, hx, rfl⟩ := h
        obtain ⟨hj, rfl⟩ := List.getElem?_eq_some_iff.1 hx
        obtain ⟨g', off', e, _, hc⟩ := hat j hj
        cases e
        rw [addr_add]; exact hc) (by omega) (by unfold maxLen; omega) (by omega)
    rw [Nat.zero_add, List.nil_append] at ho
    have hi2 := Ints.of_own ho
    refine ⟨v', w', hr, ?_, fun W' hk => Ints.of_own (own_keeps ho fun k e => hk k (ho.lt k e).1 (ho.lt k e).2), (Below.refl _ w).grown hgr (Nat.le_refl _) (fun k e => by cases e)⟩
    obtain ⟨a', cap', hv', _⟩ := hi2
    exact ⟨a', cap', hv'⟩
  · have hp : ps = [] := List.length_eq_zero_iff.1 (by omega)
    subst hp
    refine ⟨_, w, run_append_nothing w 45 45 ty 3 i0 Try.underlying45 hi (some b) 0 0 (Nat.le_refl _) (.slice a 0 cap) ?_, ⟨some b, 0, rfl⟩, fun _ _ => Ints.nil _ _, Below.refl _ _⟩
    cases a with
    | none => exact Src.ofNil w Try.underlying45 cap
    | some a => exact Src.ofSlice w Try.underlying45 a 0 cap [] (by simp) (fun j u h => by simp at h) (by simp)
theorem below_low {B : Nat} {W cur w' : World} (h : Below B W cur) (_ : Below cur.heap.size cur w') : W.heap.size ≤ cur.heap.size := h.size
/-- An append at a step of a region that draws its order. -/
theorem step_append_any {P : Program} {w : World} {ops : Array Oper} {o : Oper} {a : Act} {K : Act → World → Prop} {Q : Exit → Act → World → Prop} {E : Prop} (hgd : o.guard = none) (s x : Operand) (t : TypeId)
    (ho : o.op = .call { callee := .builtin .append, args := #[s, x], argTypes := #[t, t] }) (v xv : Value) (hs : a.eval s = v) (hx : a.eval x = xv) {R : Value → World → Prop}
    (hr : ∃ v' w', (Builtin.append_ #[t, t] o.type #[v, xv]).run P w = .ok v' w' ∧ R v' w') (h : ∀ v' w', R v' w' → K (a.put o.dst v') w') :
    if Region.wanted o (yielded ops a.tmps) = true then Oper.wp P o a w K Q else E := by
  have hw : Region.wanted o (yielded ops a.tmps) = true := by simp [Region.wanted, hgd]
  rw [if_pos hw]
  obtain ⟨v', w', hr, hR⟩ := hr
  unfold Oper.wp execOp
  simp only [ho, resolve, invoke, builtin, Sem.run_bind, Sem.run_pure, Result.andThen_ok, List.map_toArray, List.map_cons, List.map_nil, hs, hx, hr]
  exact h v' w' hR
set_option maxRecDepth 100000 in
set_option maxHeartbeats 4000000 in
theorem specCopyEdit (d : Nat) (v : Value) (t : Edi) (w : World) (h : EditAt w d v t) (hsz : t.bulk ≤ 1048576) :
    Calls Try.prog 70 #[v] w fun e w' => ∃ v', e = .returned v' ∧ EditUp w.heap.size w' d v' t ∧ Below w.heap.size w w' := by
  cases t with
  | mk ex ps =>
    obtain ⟨k, nm, n, tk, ta, tn, tc, sa, sn, sc, pa, pn, pc, rfl, he, hp, hl⟩ := h
    dsimp only at he hp hl ⊢
    have hbk : (Edi.mk ex ps).bulk = ex.bulk + ps.length := rfl
    have hn1 : ex.bulk ≤ 1048576 := by omega
    have hn2 : ps.length ≤ 1048576 := by omega
    clear hsz hbk
    have e2 : Below w.heap.size w ((w.alloc (.cells #[.int .i64 k, .string nm, .int .i64 n, .int .i64 tk, .slice ta tn tc, .slice sa sn sc, .slice pa pn pc] 53)).alloc (.cells #[.int .i64 0, .string ⟨#[]⟩, .int .i64 0, .int .i64 0, .slice none 0 0, .slice none 0 0, .slice none 0 0] 53)) := ((Below.refl _ _).alloc (Nat.le_refl _) _).alloc (by simp) _
    have HE := Lib.hid (he.below e2)
    have HP := Lib.hid (hp.below e2)
    have XA : Hid (BoxAt ((w.alloc (.cells #[.int .i64 k, .string nm, .int .i64 n, .int .i64 tk, .slice ta tn tc, .slice sa sn sc, .slice pa pn pc] 53)).alloc (.cells #[.int .i64 0, .string ⟨#[]⟩, .int .i64 0, .int .i64 0, .slice none 0 0, .slice none 0 0, .slice none 0 0] 53)) w.heap.size #[.int .i64 k, .string nm, .int .i64 n, .int .i64 tk, .slice ta tn tc, .slice sa sn sc, .slice pa pn pc]) := (BoxAt.new _ _ _).below (below_alloc _ _)
    have XR : Hid (BoxAt ((w.alloc (.cells #[.int .i64 k, .string nm, .int .i64 n, .int .i64 tk, .slice ta tn tc, .slice sa sn sc, .slice pa pn pc] 53)).alloc (.cells #[.int .i64 0, .string ⟨#[]⟩, .int .i64 0, .int .i64 0, .slice none 0 0, .slice none 0 0, .slice none 0 0] 53)) (w.heap.size + 1) #[.int .i64 0, .string ⟨#[]⟩, .int .i64 0, .int .i64 0, .slice none 0 0, .slice none 0 0, .slice none 0 0]) := box_at (BoxAt.new _ _ _) (by simp)
    have FR : Hid (FreeAt ((w.alloc (.cells #[.int .i64 k, .string nm, .int .i64 n, .int .i64 tk, .slice ta tn tc, .slice sa sn sc, .slice pa pn pc] 53)).alloc (.cells #[.int .i64 0, .string ⟨#[]⟩, .int .i64 0, .int .i64 0, .slice none 0 0, .slice none 0 0, .slice none 0 0] 53)) (w.heap.size + 1)) := free_at (FreeAt.new _ _ _) (by simp)
    have E2 := Lib.hid e2
    clear e2 he hp
    go_enter Try.func70, Try.ntmps70
    go_wp2_with fail
    have hzw : ((w.alloc (.cells #[.int .i64 k, .string nm, .int .i64 n, .int .i64 tk, .slice ta tn tc, .slice sa sn sc, .slice pa pn pc] 53)).alloc (.cells #[.int .i64 0, .string ⟨#[]⟩, .int .i64 0, .int .i64 0, .slice none 0 0, .slice none 0 0, .slice none 0 0] 53)).heap.size = w.heap.size + 2 := by simp
    generalize ((w.alloc (.cells #[.int .i64 k, .string nm, .int .i64 n, .int .i64 tk, .slice ta tn tc, .slice sa sn sc, .slice pa pn pc] 53)).alloc (.cells #[.int .i64 0, .string ⟨#[]⟩, .int .i64 0, .int .i64 0, .slice none 0 0, .slice none 0 0, .slice none 0 0] 53)) = W2 at HE HP XA XR FR E2 hzw ⊢
    have a0 := XA.out.2 0
    have a1 := XA.out.2 1
    have a2 := XA.out.2 2
    have a3 := XA.out.2 3
    have a4 := XA.out.2 4
    have a5 := XA.out.2 5
    have a6 := XA.out.2 6
    have BC := Lib.hid (below_drew W2)
    have d6 := (XA.out.below (below_alloc W2 (.cells #[] 3))).2 6
    have d0 := (XA.out.below (below_alloc W2 (.cells #[] 3))).2 0
    have d1 := (XA.out.below (below_alloc W2 (.cells #[] 3))).2 1
    have d2 := (XA.out.below (below_alloc W2 (.cells #[] 3))).2 2
    have d3 := (XA.out.below (below_alloc W2 (.cells #[] 3))).2 3
    have d4 := (XA.out.below (below_alloc W2 (.cells #[] 3))).2 4
    have d5 := (XA.out.below (below_alloc W2 (.cells #[] 3))).2 5
    go_region_law (first
      | (refine step_append_any rfl (.tmp 6) (.tmp 8) 45 rfl (.slice (some ⟨_, 0, none⟩) 0 0) (.slice pa pn pc) rfl rfl (path_append _ _ _ _ ps (HP.out.below (by first | exact BC.out | exact BC.out.alloc BC.out.size _)) hn2) ?_
         rintro v' w' ⟨⟨ga, gc, rfl⟩, hgi, hgb⟩
         have hlow := below_low (by first | exact BC.out | exact BC.out.alloc BC.out.size _) hgb
         replace BC := Lib.hid (below_thru (by first | exact BC.out | exact BC.out.alloc BC.out.size _) (Nat.le_refl _) hgb)
         have HG := Lib.hid hgi
         have LG := Lib.hid hlow
         have KG := Lib.hid (Below.refl w'.heap.size w')
         try replace KT := Lib.hid (below_thru (by first | exact KT.out | exact KT.out.alloc KT.out.size _) (Nat.le_refl _) hgb)
         have gr0 := (XR.out.below BC.out).2 0
         have gf0 := (FR.out.below BC.out).2 0
         have gr1 := (XR.out.below BC.out).2 1
         have gf1 := (FR.out.below BC.out).2 1
         have gr2 := (XR.out.below BC.out).2 2
         have gf2 := (FR.out.below BC.out).2 2
         have gr3 := (XR.out.below BC.out).2 3
         have gf3 := (FR.out.below BC.out).2 3
         have gr4 := (XR.out.below BC.out).2 4
         have gf4 := (FR.out.below BC.out).2 4
         have gr5 := (XR.out.below BC.out).2 5
         have gf5 := (FR.out.below BC.out).2 5
         have gr6 := (XR.out.below BC.out).2 6
         have gf6 := (FR.out.below BC.out).2 6
         have ga0 := (XA.out.below BC.out).2 0
         have ga1 := (XA.out.below BC.out).2 1
         have ga2 := (XA.out.below BC.out).2 2
         have ga3 := (XA.out.below BC.out).2 3
         have ga4 := (XA.out.below BC.out).2 4
         have ga5 := (XA.out.below BC.out).2 5
         clear hgi hgb hlow)
      | (go_simp
         go_at_call 117
         refine (specExCopy d _ ex _ hn1 (HE.out.below (by first | exact BC.out | exact BC.out.alloc BC.out.size _))).mono ?_
         rintro e w' ⟨v2, fp, rfl, ht, hfp, hb1⟩
         have hlow := below_low (by first | exact BC.out | exact BC.out.alloc BC.out.size _) hb1
         replace BC := Lib.hid (below_thru (by first | exact BC.out | exact BC.out.alloc BC.out.size _) (Nat.le_refl _) hb1)
         obtain ⟨yk, ynm, yn, ytk, yta, ytn, ytc, ya, ym, yc, rfl⟩ := ex_parts ht.at_
         have HT := Lib.hid ht
         have HF := Lib.hid hfp
         have LT := Lib.hid hlow
         have KT := Lib.hid (Below.refl w'.heap.size w')
         try replace KG := Lib.hid (below_thru KG.out (Nat.le_refl _) hb1)
         have cr0 := (XR.out.below BC.out).2 0
         have cf0 := (FR.out.below BC.out).2 0
         have cr1 := (XR.out.below BC.out).2 1
         have cf1 := (FR.out.below BC.out).2 1
         have cr2 := (XR.out.below BC.out).2 2
         have cf2 := (FR.out.below BC.out).2 2
         have cr3 := (XR.out.below BC.out).2 3
         have cf3 := (FR.out.below BC.out).2 3
         have cr4 := (XR.out.below BC.out).2 4
         have cf4 := (FR.out.below BC.out).2 4
         have cr5 := (XR.out.below BC.out).2 5
         have cf5 := (FR.out.below BC.out).2 5
         have cr6 := (XR.out.below BC.out).2 6
         have cf6 := (FR.out.below BC.out).2 6
         have ca6 := (XA.out.below BC.out).2 6
         have cb6 := ((XA.out.below BC.out).below (below_alloc _ (.cells #[] 3))).2 6
         clear ht hfp hb1 hlow))
    all_goals go_wp2_with fail
    all_goals (
      have XF := XR.out.below BC.out
      have XRF := (((((((XF.put (j := 0) (u := .int .i64 yk) (by simp)).put (j := 1) (u := .string ynm) (by simp)).put (j := 2) (u := .int .i64 yn) (by simp)).put (j := 3) (u := .int .i64 ytk) (by simp)).put (j := 4) (u := .slice yta ytn ytc) (by simp)).put (j := 5) (u := .slice ya ym yc) (by simp)).put (j := 6) (u := .slice ga ps.length gc) (by simp))
      have KF : ∀ b, w.heap.size + 2 ≤ b → (((((((w'.setCell ⟨w.heap.size + 1, 0, none⟩ (.int .i64 yk)).setCell ⟨w.heap.size + 1, 1, none⟩ (.string ynm)).setCell ⟨w.heap.size + 1, 2, none⟩ (.int .i64 yn)).setCell ⟨w.heap.size + 1, 3, none⟩ (.int .i64 ytk)).setCell ⟨w.heap.size + 1, 4, none⟩ (.slice yta ytn ytc)).setCell ⟨w.heap.size + 1, 5, none⟩ (.slice ya ym yc)).setCell ⟨w.heap.size + 1, 6, none⟩ (.slice ga ps.length gc)).heap[b]? = w'.heap[b]? := fun b hb => by
        rw [heap_setCell_other _ _ _ _ (by simp; omega), heap_setCell_other _ _ _ _ (by simp; omega), heap_setCell_other _ _ _ _ (by simp; omega), heap_setCell_other _ _ _ _ (by simp; omega), heap_setCell_other _ _ _ _ (by simp; omega), heap_setCell_other _ _ _ _ (by simp; omega), heap_setCell_other _ _ _ _ (by simp; omega)]
      have hsz : (((((((w'.setCell ⟨w.heap.size + 1, 0, none⟩ (.int .i64 yk)).setCell ⟨w.heap.size + 1, 1, none⟩ (.string ynm)).setCell ⟨w.heap.size + 1, 2, none⟩ (.int .i64 yn)).setCell ⟨w.heap.size + 1, 3, none⟩ (.int .i64 ytk)).setCell ⟨w.heap.size + 1, 4, none⟩ (.slice yta ytn ytc)).setCell ⟨w.heap.size + 1, 5, none⟩ (.slice ya ym yc)).setCell ⟨w.heap.size + 1, 6, none⟩ (.slice ga ps.length gc)).heap.size = w'.heap.size := by simp
      have hbF : Below w.heap.size w (((((((w'.setCell ⟨w.heap.size + 1, 0, none⟩ (.int .i64 yk)).setCell ⟨w.heap.size + 1, 1, none⟩ (.string ynm)).setCell ⟨w.heap.size + 1, 2, none⟩ (.int .i64 yn)).setCell ⟨w.heap.size + 1, 3, none⟩ (.int .i64 ytk)).setCell ⟨w.heap.size + 1, 4, none⟩ (.slice yta ytn ytc)).setCell ⟨w.heap.size + 1, 5, none⟩ (.slice ya ym yc)).setCell ⟨w.heap.size + 1, 6, none⟩ (.slice ga ps.length gc)) := ((((((((E2.out.trans (BC.out.mono E2.out.size)).setCell (by simp) _).setCell (by simp) _).setCell (by simp) _).setCell (by simp) _).setCell (by simp) _).setCell (by simp) _).setCell (by simp) _)
      have HX : ∀ W2 : World, w'.heap.size ≤ W2.heap.size → (∀ b, w.heap.size + 2 ≤ b → b < w'.heap.size → W2.heap[b]? = w'.heap[b]?) → ExAt W2 d (.agg #[.int .i64 yk, .string ynm, .int .i64 yn, .int .i64 ytk, .slice yta ytn ytc, .slice ya ym yc]) ex := fun W2 hs hk => (HT.out.kept (Nat.le_trans KT.out.size hs) fun b hb => by
        have h1 := HF.out.2 b hb
        have h2 := LT.out
        have h3 := KT.out.size
        rw [hk b (by omega) (by omega), KT.out.block b h1.2]).at_
      have HI : ∀ W2 : World, w'.heap.size ≤ W2.heap.size → (∀ b, w.heap.size + 2 ≤ b → b < w'.heap.size → W2.heap[b]? = w'.heap[b]?) → Ints W2 (.slice ga ps.length gc) ps := fun W2 hs hk => HG.out _ fun b h1 h2 => by
        have h3 := LG.out
        have h4 := KG.out.size
        rw [hk b (by omega) (by omega), KG.out.block b h2]
      have g0 := XRF.2 0
      have g1 := XRF.2 1
      have g2 := XRF.2 2
      have g3 := XRF.2 3
      have g4 := XRF.2 4
      have g5 := XRF.2 5
      have g6 := XRF.2 6
      clear XRF
      generalize (((((((w'.setCell ⟨w.heap.size + 1, 0, none⟩ (.int .i64 yk)).setCell ⟨w.heap.size + 1, 1, none⟩ (.string ynm)).setCell ⟨w.heap.size + 1, 2, none⟩ (.int .i64 yn)).setCell ⟨w.heap.size + 1, 3, none⟩ (.int .i64 ytk)).setCell ⟨w.heap.size + 1, 4, none⟩ (.slice yta ytn ytc)).setCell ⟨w.heap.size + 1, 5, none⟩ (.slice ya ym yc)).setCell ⟨w.heap.size + 1, 6, none⟩ (.slice ga ps.length gc)) = WX at g0 g1 g2 g3 g4 g5 g6 KF hsz hbF ⊢
      refine bodyPost_ret (v := .agg #[.int .i64 yk, .string ynm, .int .i64 yn, .int .i64 ytk, .slice yta ytn ytc, .slice ya ym yc, .slice ga ps.length gc]) (by simp [results, Try.results70, go_sem, g0, g1, g2, g3, g4, g5, g6]) rfl ?_
      exact ⟨_, rfl, fun w2 hs2 hk2 => ⟨_, _, _, _, _, _, _, _, _, _, _, _, _, rfl, HX w2 (by rw [hsz] at hs2; exact hs2) (fun b hb hl2 => by rw [hk2 b (by omega) (by rw [hsz]; exact hl2), KF b hb]), HI w2 (by rw [hsz] at hs2; exact hs2) (fun b hb hl2 => by rw [hk2 b (by omega) (by rw [hsz]; exact hl2), KF b hb]), hl⟩, hbF⟩)
end Go.Proofs.Ytcohfbdhdngplaa
/-
  Proved: spec.StartHistory and impl.StartHistory give a history of the one edit; laws.eqHistory, laws.markHistory and laws.heldHistory on such a history.
-/
namespace Go.Proofs.Ytcohfbdhdngplaa
open Go.RowKit

theorem EditIn.wide {w : World} {d : Nat} {v : Value} {a : Edi} {lo hi lo2 hi2 : Nat} (h : EditIn w d v a lo hi) (h1 : lo2 ≤ lo) (h2 : hi ≤ hi2) (h3 : hi2 ≤ w.heap.size) : EditIn w d v a lo2 hi2 := by
  obtain ⟨k, nm, n, tk, ta, tn, tc, sa, sn, sc, pa, pn, pc, mid, hv, he, hp, g1, g2, g3⟩ := h
  exact ⟨k, nm, n, tk, ta, tn, tc, sa, sn, sc, pa, pn, pc, mid, hv, he.wide h1 (Nat.le_refl _) (by omega), hp.wide h2 h3, by omega, by omega, g3⟩
theorem EditIn.cell {w : World} {d : Nat} {v : Value} {a : Edi} {lo hi q j : Nat} {u : Value} (h : EditIn w d v a lo hi) (hq : q < lo) : EditIn (w.setCell ⟨q, j, none⟩ u) d v a lo hi :=
  h.beside (lo2 := q) (hi2 := q + 1) ⟨by simp, fun b _ hor => heap_setCell_other _ _ _ _ (by simp; omega)⟩ (by omega)
theorem EditIn.top {w : World} {d : Nat} {v : Value} {a : Edi} {lo hi : Nat} (h : EditIn w d v a lo hi) : hi ≤ w.heap.size := by
  obtain ⟨k, nm, n, tk, ta, tn, tc, sa, sn, sc, pa, pn, pc, mid, hv, he, hp, g1, g2, g3⟩ := h
  exact hp.2.2
theorem edt_of_edit {w : World} {d : Nat} {v : Value} {t : Edi} (h : EditAt w d v t) : EdtAt w d v ⟨t.ex, t.path⟩ := by
  obtain ⟨k, nm, n, tk, ta, tn, tc, sa, sn, sc, pa, pn, pc, hv, he, hp, hl⟩ := h
  exact ⟨k, nm, n, tk, ta, tn, tc, sa, sn, sc, pa, pn, pc, hv, he, hp, hl⟩
theorem edts_none (w : World) (d : Nat) : EdtsAt w d (.slice none 0 0) [] := ⟨none, 0, rfl, Nat.le_refl _, by omega, fun j h => absurd h (by simp)⟩
theorem eqHis0 (d : Nat) (t : Edi) (w : World) {xk xn xtk : Int} {xnm : ByteArray} {xta xsa xpa : Option Addr} {xtn xtc xsn xsc xpn xpc : Nat} {yk yn ytk : Int} {ynm : ByteArray} {yta ysa ypa : Option Addr} {ytn ytc ysn ysc ypn ypc : Nat} (h : EditAt w d (.agg #[.int .i64 xk, .string xnm, .int .i64 xn, .int .i64 xtk, .slice xta xtn xtc, .slice xsa xsn xsc, .slice xpa xpn xpc]) t) (h' : EditAt w d (.agg #[.int .i64 yk, .string ynm, .int .i64 yn, .int .i64 ytk, .slice yta ytn ytc, .slice ysa ysn ysc, .slice ypa ypn ypc]) t) :
    Calls Try.prog 26 #[.agg #[.slice none 0 0, .int .i64 xk, .string xnm, .int .i64 xn, .int .i64 xtk, .slice xta xtn xtc, .slice xsa xsn xsc, .slice xpa xpn xpc, .slice none 0 0], .agg #[.slice none 0 0, .int .i64 yk, .string ynm, .int .i64 yn, .int .i64 ytk, .slice yta ytn ytc, .slice ysa ysn ysc, .slice ypa ypn ypc, .slice none 0 0]] w (EqTrueEnd w) :=
  eqHis d _ _ ⟨[], ⟨t.ex, t.path⟩, []⟩ w ⟨_, _, _, _, _, _, _, _, _, _, _, _, _, _, _, _, _, _, _, rfl, edts_none _ _, edt_of_edit h, edts_none _ _⟩ ⟨_, _, _, _, _, _, _, _, _, _, _, _, _, _, _, _, _, _, _, rfl, edts_none _ _, edt_of_edit h', edts_none _ _⟩
set_option maxRecDepth 100000 in
set_option maxHeartbeats 1000000 in
theorem markEds0 (k : Int) (w : World) :
    Calls Try.prog 78 #[.slice none 0 0, .int .i64 k] w fun e w' => e = .returned (.int .i64 k) ∧ Below w.heap.size w w' := by
  go_enter Try.func78, Try.ntmps78
  go_wp2_with fail
  go_loop [1, 5] (fun m i => m = .int .i64 k ∧ i = .int .i64 0) (fun _ _ => 0)
  case atStart => exact ⟨rfl, rfl⟩
  case round =>
    obtain ⟨rfl, rfl⟩ := hrel
    go_wp2_with fail
    go_ret
    exact ⟨rfl, Below.refl _ _⟩
set_option maxRecDepth 100000 in
set_option maxHeartbeats 1000000 in
theorem heldEds0 (k : Int) (w : World) :
    Calls Try.prog 80 #[.slice none 0 0, .int .i64 k] w fun e w' => e = .returned (.int .i64 k) ∧ Below w.heap.size w w' := by
  go_enter Try.func80, Try.ntmps80
  go_wp2_with fail
  go_loop [1, 5] (fun m i => m = .int .i64 k ∧ i = .int .i64 0) (fun _ _ => 0)
  case atStart => exact ⟨rfl, rfl⟩
  case round =>
    obtain ⟨rfl, rfl⟩ := hrel
    go_wp2_with fail
    go_ret
    exact ⟨rfl, Below.refl _ _⟩
set_option maxRecDepth 100000 in
set_option maxHeartbeats 4000000 in
theorem specStart (d : Nat) (v : Value) (t : Edi) (w : World) (h : EditAt w d v t) (hsz : t.bulk ≤ 1048576) :
    Calls Try.prog 101 #[v] w fun e w' => ∃ yk ynm yn ytk yta ytn ytc ysa ysn ysc ypa ypn ypc, e = .returned (.agg #[.slice none 0 0, .int .i64 yk, .string ynm, .int .i64 yn, .int .i64 ytk, .slice yta ytn ytc, .slice ysa ysn ysc, .slice ypa ypn ypc, .slice none 0 0]) ∧ EditAt w' d (.agg #[.int .i64 yk, .string ynm, .int .i64 yn, .int .i64 ytk, .slice yta ytn ytc, .slice ysa ysn ysc, .slice ypa ypn ypc]) t ∧ Below w.heap.size w w' := by
  obtain ⟨xk, xnm, xn, xtk, xta, xtn, xtc, xsa, xsn, xsc, xpa, xpn, xpc, rfl⟩ := edit_parts h
  have B : Hid (Below w.heap.size w ((w.alloc (.cells #[.int .i64 xk, .string xnm, .int .i64 xn, .int .i64 xtk, .slice xta xtn xtc, .slice xsa xsn xsc, .slice xpa xpn xpc] 53)).alloc (.cells #[.slice none 0 0, .int .i64 0, .string ⟨#[]⟩, .int .i64 0, .int .i64 0, .slice none 0 0, .slice none 0 0, .slice none 0 0, .slice none 0 0] 55))) := ((Below.refl _ _).alloc (Nat.le_refl _) _).alloc (by simp) _
  have XA : Hid (BoxAt ((w.alloc (.cells #[.int .i64 xk, .string xnm, .int .i64 xn, .int .i64 xtk, .slice xta xtn xtc, .slice xsa xsn xsc, .slice xpa xpn xpc] 53)).alloc (.cells #[.slice none 0 0, .int .i64 0, .string ⟨#[]⟩, .int .i64 0, .int .i64 0, .slice none 0 0, .slice none 0 0, .slice none 0 0, .slice none 0 0] 55)) w.heap.size #[.int .i64 xk, .string xnm, .int .i64 xn, .int .i64 xtk, .slice xta xtn xtc, .slice xsa xsn xsc, .slice xpa xpn xpc]) := (BoxAt.new _ _ _).below (below_alloc _ _)
  have XR : Hid (BoxAt ((w.alloc (.cells #[.int .i64 xk, .string xnm, .int .i64 xn, .int .i64 xtk, .slice xta xtn xtc, .slice xsa xsn xsc, .slice xpa xpn xpc] 53)).alloc (.cells #[.slice none 0 0, .int .i64 0, .string ⟨#[]⟩, .int .i64 0, .int .i64 0, .slice none 0 0, .slice none 0 0, .slice none 0 0, .slice none 0 0] 55)) (w.heap.size + 1) #[.slice none 0 0, .int .i64 0, .string ⟨#[]⟩, .int .i64 0, .int .i64 0, .slice none 0 0, .slice none 0 0, .slice none 0 0, .slice none 0 0]) := box_at (BoxAt.new _ _ _) (by simp)
  have FR : Hid (FreeAt ((w.alloc (.cells #[.int .i64 xk, .string xnm, .int .i64 xn, .int .i64 xtk, .slice xta xtn xtc, .slice xsa xsn xsc, .slice xpa xpn xpc] 53)).alloc (.cells #[.slice none 0 0, .int .i64 0, .string ⟨#[]⟩, .int .i64 0, .int .i64 0, .slice none 0 0, .slice none 0 0, .slice none 0 0, .slice none 0 0] 55)) (w.heap.size + 1)) := free_at (FreeAt.new _ _ _) (by simp)
  have hz2 : ((w.alloc (.cells #[.int .i64 xk, .string xnm, .int .i64 xn, .int .i64 xtk, .slice xta xtn xtc, .slice xsa xsn xsc, .slice xpa xpn xpc] 53)).alloc (.cells #[.slice none 0 0, .int .i64 0, .string ⟨#[]⟩, .int .i64 0, .int .i64 0, .slice none 0 0, .slice none 0 0, .slice none 0 0, .slice none 0 0] 55)).heap.size = w.heap.size + 2 := by simp
  have HA := Lib.hid (h.below B.out)
  clear h
  go_enter Try.func101, Try.ntmps101
  go_upto_region 1 with fail
  generalize ((w.alloc (.cells #[.int .i64 xk, .string xnm, .int .i64 xn, .int .i64 xtk, .slice xta xtn xtc, .slice xsa xsn xsc, .slice xpa xpn xpc] 53)).alloc (.cells #[.slice none 0 0, .int .i64 0, .string ⟨#[]⟩, .int .i64 0, .int .i64 0, .slice none 0 0, .slice none 0 0, .slice none 0 0, .slice none 0 0] 55)) = w2 at B XA XR FR hz2 HA ⊢
  have x0 := XA.out.2 0
  have x1 := XA.out.2 1
  have x2 := XA.out.2 2
  have x3 := XA.out.2 3
  have x4 := XA.out.2 4
  have x5 := XA.out.2 5
  have x6 := XA.out.2 6
  go_wp2_with fail
  clear x0 x1 x2 x3 x4 x5 x6
  refine (specCopyEdit d _ t _ HA.out hsz).mono ?_
  rintro e w5 ⟨v5, rfl, hv, hb⟩
  obtain ⟨zk, znm, zn, ztk, zta, ztn, ztc, zsa, zsn, zsc, zpa, zpn, zpc, rfl⟩ := edit_parts hv.at_
  have HV := Lib.hid hv
  have hz5 := hb.size
  replace B := Lib.hid (below_thru B.out (Nat.le_refl _) hb)
  replace XR := Lib.hid (XR.out.below hb)
  replace FR := Lib.hid (FR.out.below hb)
  clear hv hb XA HA
  have r0 := XR.out.2 0
  have s0 := FR.out.2 0
  have r1 := XR.out.2 1
  have s1 := FR.out.2 1
  have r2 := XR.out.2 2
  have s2 := FR.out.2 2
  have r3 := XR.out.2 3
  have s3 := FR.out.2 3
  have r4 := XR.out.2 4
  have s4 := FR.out.2 4
  have r5 := XR.out.2 5
  have s5 := FR.out.2 5
  have r6 := XR.out.2 6
  have s6 := FR.out.2 6
  have r7 := XR.out.2 7
  have s7 := FR.out.2 7
  have r8 := XR.out.2 8
  have s8 := FR.out.2 8
  go_wp2_with fail
  clear r0 s0 r1 s1 r2 s2 r3 s3 r4 s4 r5 s5 r6 s6 r7 s7 r8 s8
  have XF : BoxAt (((((((((w5.setCell ⟨w.heap.size + 1, 0, none⟩ (.slice none 0 0)).setCell ⟨w.heap.size + 1, 1, none⟩ (.int .i64 zk)).setCell ⟨w.heap.size + 1, 2, none⟩ (.string znm)).setCell ⟨w.heap.size + 1, 3, none⟩ (.int .i64 zn)).setCell ⟨w.heap.size + 1, 4, none⟩ (.int .i64 ztk)).setCell ⟨w.heap.size + 1, 5, none⟩ (.slice zta ztn ztc)).setCell ⟨w.heap.size + 1, 6, none⟩ (.slice zsa zsn zsc)).setCell ⟨w.heap.size + 1, 7, none⟩ (.slice zpa zpn zpc)).setCell ⟨w.heap.size + 1, 8, none⟩ (.slice none 0 0)) (w.heap.size + 1) #[.slice none 0 0, .int .i64 zk, .string znm, .int .i64 zn, .int .i64 ztk, .slice zta ztn ztc, .slice zsa zsn zsc, .slice zpa zpn zpc, .slice none 0 0] := (((((((((XR.out.put (j := 0) (u := .slice none 0 0) (by simp)).put (j := 1) (u := .int .i64 zk) (by simp)).put (j := 2) (u := .string znm) (by simp)).put (j := 3) (u := .int .i64 zn) (by simp)).put (j := 4) (u := .int .i64 ztk) (by simp)).put (j := 5) (u := .slice zta ztn ztc) (by simp)).put (j := 6) (u := .slice zsa zsn zsc) (by simp)).put (j := 7) (u := .slice zpa zpn zpc) (by simp)).put (j := 8) (u := .slice none 0 0) (by simp))
  have BF : Below w.heap.size w (((((((((w5.setCell ⟨w.heap.size + 1, 0, none⟩ (.slice none 0 0)).setCell ⟨w.heap.size + 1, 1, none⟩ (.int .i64 zk)).setCell ⟨w.heap.size + 1, 2, none⟩ (.string znm)).setCell ⟨w.heap.size + 1, 3, none⟩ (.int .i64 zn)).setCell ⟨w.heap.size + 1, 4, none⟩ (.int .i64 ztk)).setCell ⟨w.heap.size + 1, 5, none⟩ (.slice zta ztn ztc)).setCell ⟨w.heap.size + 1, 6, none⟩ (.slice zsa zsn zsc)).setCell ⟨w.heap.size + 1, 7, none⟩ (.slice zpa zpn zpc)).setCell ⟨w.heap.size + 1, 8, none⟩ (.slice none 0 0)) := (((((((((B.out.setCell (by simp) _).setCell (by simp) _).setCell (by simp) _).setCell (by simp) _).setCell (by simp) _).setCell (by simp) _).setCell (by simp) _).setCell (by simp) _).setCell (by simp) _)
  have kp : ∀ b, w2.heap.size ≤ b → b < w5.heap.size → (((((((((w5.setCell ⟨w.heap.size + 1, 0, none⟩ (.slice none 0 0)).setCell ⟨w.heap.size + 1, 1, none⟩ (.int .i64 zk)).setCell ⟨w.heap.size + 1, 2, none⟩ (.string znm)).setCell ⟨w.heap.size + 1, 3, none⟩ (.int .i64 zn)).setCell ⟨w.heap.size + 1, 4, none⟩ (.int .i64 ztk)).setCell ⟨w.heap.size + 1, 5, none⟩ (.slice zta ztn ztc)).setCell ⟨w.heap.size + 1, 6, none⟩ (.slice zsa zsn zsc)).setCell ⟨w.heap.size + 1, 7, none⟩ (.slice zpa zpn zpc)).setCell ⟨w.heap.size + 1, 8, none⟩ (.slice none 0 0)).heap[b]? = w5.heap[b]? := fun b hb2 _ => by
    have hq : b ≠ w.heap.size + 1 := by omega
    rw [heap_setCell_other _ _ _ _ (by simpa using hq), heap_setCell_other _ _ _ _ (by simpa using hq), heap_setCell_other _ _ _ _ (by simpa using hq), heap_setCell_other _ _ _ _ (by simpa using hq), heap_setCell_other _ _ _ _ (by simpa using hq), heap_setCell_other _ _ _ _ (by simpa using hq), heap_setCell_other _ _ _ _ (by simpa using hq), heap_setCell_other _ _ _ _ (by simpa using hq), heap_setCell_other _ _ _ _ (by simpa using hq)]
  have IF : EditAt (((((((((w5.setCell ⟨w.heap.size + 1, 0, none⟩ (.slice none 0 0)).setCell ⟨w.heap.size + 1, 1, none⟩ (.int .i64 zk)).setCell ⟨w.heap.size + 1, 2, none⟩ (.string znm)).setCell ⟨w.heap.size + 1, 3, none⟩ (.int .i64 zn)).setCell ⟨w.heap.size + 1, 4, none⟩ (.int .i64 ztk)).setCell ⟨w.heap.size + 1, 5, none⟩ (.slice zta ztn ztc)).setCell ⟨w.heap.size + 1, 6, none⟩ (.slice zsa zsn zsc)).setCell ⟨w.heap.size + 1, 7, none⟩ (.slice zpa zpn zpc)).setCell ⟨w.heap.size + 1, 8, none⟩ (.slice none 0 0)) d (.agg #[.int .i64 zk, .string znm, .int .i64 zn, .int .i64 ztk, .slice zta ztn ztc, .slice zsa zsn zsc, .slice zpa zpn zpc]) t := (EditUp.kept HV.out (by simp) kp).at_
  generalize (((((((((w5.setCell ⟨w.heap.size + 1, 0, none⟩ (.slice none 0 0)).setCell ⟨w.heap.size + 1, 1, none⟩ (.int .i64 zk)).setCell ⟨w.heap.size + 1, 2, none⟩ (.string znm)).setCell ⟨w.heap.size + 1, 3, none⟩ (.int .i64 zn)).setCell ⟨w.heap.size + 1, 4, none⟩ (.int .i64 ztk)).setCell ⟨w.heap.size + 1, 5, none⟩ (.slice zta ztn ztc)).setCell ⟨w.heap.size + 1, 6, none⟩ (.slice zsa zsn zsc)).setCell ⟨w.heap.size + 1, 7, none⟩ (.slice zpa zpn zpc)).setCell ⟨w.heap.size + 1, 8, none⟩ (.slice none 0 0)) = WX at XF BF IF ⊢
  have h0 := XF.2 0
  have h1 := XF.2 1
  have h2 := XF.2 2
  have h3 := XF.2 3
  have h4 := XF.2 4
  have h5 := XF.2 5
  have h6 := XF.2 6
  have h7 := XF.2 7
  have h8 := XF.2 8
  refine bodyPost_ret (v := .agg #[.slice none 0 0, .int .i64 zk, .string znm, .int .i64 zn, .int .i64 ztk, .slice zta ztn ztc, .slice zsa zsn zsc, .slice zpa zpn zpc, .slice none 0 0]) (by simp [results, Try.results101, go_sem, h0, h1, h2, h3, h4, h5, h6, h7, h8]) rfl ?_
  exact ⟨_, _, _, _, _, _, _, _, _, _, _, _, _, rfl, IF, BF⟩
set_option maxRecDepth 100000 in
set_option maxHeartbeats 4000000 in
theorem implStart (d : Nat) (v : Value) (t : Edi) (w : World) (h : EditAt w d v t) (hsz : t.bulk ≤ 1048576) :
    Calls Try.prog 103 #[v] w fun e w' => ∃ yk ynm yn ytk yta ytn ytc ysa ysn ysc ypa ypn ypc, e = .returned (.agg #[.slice none 0 0, .int .i64 yk, .string ynm, .int .i64 yn, .int .i64 ytk, .slice yta ytn ytc, .slice ysa ysn ysc, .slice ypa ypn ypc, .slice none 0 0]) ∧ EditIn w' d (.agg #[.int .i64 yk, .string ynm, .int .i64 yn, .int .i64 ytk, .slice yta ytn ytc, .slice ysa ysn ysc, .slice ypa ypn ypc]) t w.heap.size w'.heap.size ∧ Below w.heap.size w w' := by
  obtain ⟨xk, xnm, xn, xtk, xta, xtn, xtc, xsa, xsn, xsc, xpa, xpn, xpc, rfl⟩ := edit_parts h
  have B : Hid (Below w.heap.size w ((w.alloc (.cells #[.int .i64 xk, .string xnm, .int .i64 xn, .int .i64 xtk, .slice xta xtn xtc, .slice xsa xsn xsc, .slice xpa xpn xpc] 53)).alloc (.cells #[.slice none 0 0, .int .i64 0, .string ⟨#[]⟩, .int .i64 0, .int .i64 0, .slice none 0 0, .slice none 0 0, .slice none 0 0, .slice none 0 0] 55))) := ((Below.refl _ _).alloc (Nat.le_refl _) _).alloc (by simp) _
  have XA : Hid (BoxAt ((w.alloc (.cells #[.int .i64 xk, .string xnm, .int .i64 xn, .int .i64 xtk, .slice xta xtn xtc, .slice xsa xsn xsc, .slice xpa xpn xpc] 53)).alloc (.cells #[.slice none 0 0, .int .i64 0, .string ⟨#[]⟩, .int .i64 0, .int .i64 0, .slice none 0 0, .slice none 0 0, .slice none 0 0, .slice none 0 0] 55)) w.heap.size #[.int .i64 xk, .string xnm, .int .i64 xn, .int .i64 xtk, .slice xta xtn xtc, .slice xsa xsn xsc, .slice xpa xpn xpc]) := (BoxAt.new _ _ _).below (below_alloc _ _)
  have XR : Hid (BoxAt ((w.alloc (.cells #[.int .i64 xk, .string xnm, .int .i64 xn, .int .i64 xtk, .slice xta xtn xtc, .slice xsa xsn xsc, .slice xpa xpn xpc] 53)).alloc (.cells #[.slice none 0 0, .int .i64 0, .string ⟨#[]⟩, .int .i64 0, .int .i64 0, .slice none 0 0, .slice none 0 0, .slice none 0 0, .slice none 0 0] 55)) (w.heap.size + 1) #[.slice none 0 0, .int .i64 0, .string ⟨#[]⟩, .int .i64 0, .int .i64 0, .slice none 0 0, .slice none 0 0, .slice none 0 0, .slice none 0 0]) := box_at (BoxAt.new _ _ _) (by simp)
  have FR : Hid (FreeAt ((w.alloc (.cells #[.int .i64 xk, .string xnm, .int .i64 xn, .int .i64 xtk, .slice xta xtn xtc, .slice xsa xsn xsc, .slice xpa xpn xpc] 53)).alloc (.cells #[.slice none 0 0, .int .i64 0, .string ⟨#[]⟩, .int .i64 0, .int .i64 0, .slice none 0 0, .slice none 0 0, .slice none 0 0, .slice none 0 0] 55)) (w.heap.size + 1)) := free_at (FreeAt.new _ _ _) (by simp)
  have hz2 : ((w.alloc (.cells #[.int .i64 xk, .string xnm, .int .i64 xn, .int .i64 xtk, .slice xta xtn xtc, .slice xsa xsn xsc, .slice xpa xpn xpc] 53)).alloc (.cells #[.slice none 0 0, .int .i64 0, .string ⟨#[]⟩, .int .i64 0, .int .i64 0, .slice none 0 0, .slice none 0 0, .slice none 0 0, .slice none 0 0] 55)).heap.size = w.heap.size + 2 := by simp
  have HA := Lib.hid (h.below B.out)
  clear h
  go_enter Try.func103, Try.ntmps103
  go_upto_region 1 with fail
  generalize ((w.alloc (.cells #[.int .i64 xk, .string xnm, .int .i64 xn, .int .i64 xtk, .slice xta xtn xtc, .slice xsa xsn xsc, .slice xpa xpn xpc] 53)).alloc (.cells #[.slice none 0 0, .int .i64 0, .string ⟨#[]⟩, .int .i64 0, .int .i64 0, .slice none 0 0, .slice none 0 0, .slice none 0 0, .slice none 0 0] 55)) = w2 at B XA XR FR hz2 HA ⊢
  have x0 := XA.out.2 0
  have x1 := XA.out.2 1
  have x2 := XA.out.2 2
  have x3 := XA.out.2 3
  have x4 := XA.out.2 4
  have x5 := XA.out.2 5
  have x6 := XA.out.2 6
  go_wp2_with fail
  clear x0 x1 x2 x3 x4 x5 x6
  refine (implCopyEdit d _ t _ HA.out hsz).mono ?_
  rintro e w5 ⟨v5, rfl, hv, hb⟩
  obtain ⟨zk, znm, zn, ztk, zta, ztn, ztc, zsa, zsn, zsc, zpa, zpn, zpc, rfl⟩ := edit_parts hv.at_
  have HV := Lib.hid hv
  have hz5 := hb.size
  replace B := Lib.hid (below_thru B.out (Nat.le_refl _) hb)
  replace XR := Lib.hid (XR.out.below hb)
  replace FR := Lib.hid (FR.out.below hb)
  clear hv hb XA HA
  have r0 := XR.out.2 0
  have s0 := FR.out.2 0
  have r1 := XR.out.2 1
  have s1 := FR.out.2 1
  have r2 := XR.out.2 2
  have s2 := FR.out.2 2
  have r3 := XR.out.2 3
  have s3 := FR.out.2 3
  have r4 := XR.out.2 4
  have s4 := FR.out.2 4
  have r5 := XR.out.2 5
  have s5 := FR.out.2 5
  have r6 := XR.out.2 6
  have s6 := FR.out.2 6
  have r7 := XR.out.2 7
  have s7 := FR.out.2 7
  have r8 := XR.out.2 8
  have s8 := FR.out.2 8
  go_wp2_with fail
  clear r0 s0 r1 s1 r2 s2 r3 s3 r4 s4 r5 s5 r6 s6 r7 s7 r8 s8
  have XF : BoxAt (((((((((w5.setCell ⟨w.heap.size + 1, 0, none⟩ (.slice none 0 0)).setCell ⟨w.heap.size + 1, 1, none⟩ (.int .i64 zk)).setCell ⟨w.heap.size + 1, 2, none⟩ (.string znm)).setCell ⟨w.heap.size + 1, 3, none⟩ (.int .i64 zn)).setCell ⟨w.heap.size + 1, 4, none⟩ (.int .i64 ztk)).setCell ⟨w.heap.size + 1, 5, none⟩ (.slice zta ztn ztc)).setCell ⟨w.heap.size + 1, 6, none⟩ (.slice zsa zsn zsc)).setCell ⟨w.heap.size + 1, 7, none⟩ (.slice zpa zpn zpc)).setCell ⟨w.heap.size + 1, 8, none⟩ (.slice none 0 0)) (w.heap.size + 1) #[.slice none 0 0, .int .i64 zk, .string znm, .int .i64 zn, .int .i64 ztk, .slice zta ztn ztc, .slice zsa zsn zsc, .slice zpa zpn zpc, .slice none 0 0] := (((((((((XR.out.put (j := 0) (u := .slice none 0 0) (by simp)).put (j := 1) (u := .int .i64 zk) (by simp)).put (j := 2) (u := .string znm) (by simp)).put (j := 3) (u := .int .i64 zn) (by simp)).put (j := 4) (u := .int .i64 ztk) (by simp)).put (j := 5) (u := .slice zta ztn ztc) (by simp)).put (j := 6) (u := .slice zsa zsn zsc) (by simp)).put (j := 7) (u := .slice zpa zpn zpc) (by simp)).put (j := 8) (u := .slice none 0 0) (by simp))
  have BF : Below w.heap.size w (((((((((w5.setCell ⟨w.heap.size + 1, 0, none⟩ (.slice none 0 0)).setCell ⟨w.heap.size + 1, 1, none⟩ (.int .i64 zk)).setCell ⟨w.heap.size + 1, 2, none⟩ (.string znm)).setCell ⟨w.heap.size + 1, 3, none⟩ (.int .i64 zn)).setCell ⟨w.heap.size + 1, 4, none⟩ (.int .i64 ztk)).setCell ⟨w.heap.size + 1, 5, none⟩ (.slice zta ztn ztc)).setCell ⟨w.heap.size + 1, 6, none⟩ (.slice zsa zsn zsc)).setCell ⟨w.heap.size + 1, 7, none⟩ (.slice zpa zpn zpc)).setCell ⟨w.heap.size + 1, 8, none⟩ (.slice none 0 0)) := (((((((((B.out.setCell (by simp) _).setCell (by simp) _).setCell (by simp) _).setCell (by simp) _).setCell (by simp) _).setCell (by simp) _).setCell (by simp) _).setCell (by simp) _).setCell (by simp) _)
  have hq : w.heap.size + 1 < w2.heap.size := by omega
  have IF : EditIn (((((((((w5.setCell ⟨w.heap.size + 1, 0, none⟩ (.slice none 0 0)).setCell ⟨w.heap.size + 1, 1, none⟩ (.int .i64 zk)).setCell ⟨w.heap.size + 1, 2, none⟩ (.string znm)).setCell ⟨w.heap.size + 1, 3, none⟩ (.int .i64 zn)).setCell ⟨w.heap.size + 1, 4, none⟩ (.int .i64 ztk)).setCell ⟨w.heap.size + 1, 5, none⟩ (.slice zta ztn ztc)).setCell ⟨w.heap.size + 1, 6, none⟩ (.slice zsa zsn zsc)).setCell ⟨w.heap.size + 1, 7, none⟩ (.slice zpa zpn zpc)).setCell ⟨w.heap.size + 1, 8, none⟩ (.slice none 0 0)) d (.agg #[.int .i64 zk, .string znm, .int .i64 zn, .int .i64 ztk, .slice zta ztn ztc, .slice zsa zsn zsc, .slice zpa zpn zpc]) t w.heap.size (((((((((w5.setCell ⟨w.heap.size + 1, 0, none⟩ (.slice none 0 0)).setCell ⟨w.heap.size + 1, 1, none⟩ (.int .i64 zk)).setCell ⟨w.heap.size + 1, 2, none⟩ (.string znm)).setCell ⟨w.heap.size + 1, 3, none⟩ (.int .i64 zn)).setCell ⟨w.heap.size + 1, 4, none⟩ (.int .i64 ztk)).setCell ⟨w.heap.size + 1, 5, none⟩ (.slice zta ztn ztc)).setCell ⟨w.heap.size + 1, 6, none⟩ (.slice zsa zsn zsc)).setCell ⟨w.heap.size + 1, 7, none⟩ (.slice zpa zpn zpc)).setCell ⟨w.heap.size + 1, 8, none⟩ (.slice none 0 0)).heap.size := (((((((((HV.out.cell hq).cell hq).cell hq).cell hq).cell hq).cell hq).cell hq).cell hq).cell hq).wide (by omega) (by simp) (Nat.le_refl _)
  generalize (((((((((w5.setCell ⟨w.heap.size + 1, 0, none⟩ (.slice none 0 0)).setCell ⟨w.heap.size + 1, 1, none⟩ (.int .i64 zk)).setCell ⟨w.heap.size + 1, 2, none⟩ (.string znm)).setCell ⟨w.heap.size + 1, 3, none⟩ (.int .i64 zn)).setCell ⟨w.heap.size + 1, 4, none⟩ (.int .i64 ztk)).setCell ⟨w.heap.size + 1, 5, none⟩ (.slice zta ztn ztc)).setCell ⟨w.heap.size + 1, 6, none⟩ (.slice zsa zsn zsc)).setCell ⟨w.heap.size + 1, 7, none⟩ (.slice zpa zpn zpc)).setCell ⟨w.heap.size + 1, 8, none⟩ (.slice none 0 0)) = WX at XF BF IF ⊢
  have h0 := XF.2 0
  have h1 := XF.2 1
  have h2 := XF.2 2
  have h3 := XF.2 3
  have h4 := XF.2 4
  have h5 := XF.2 5
  have h6 := XF.2 6
  have h7 := XF.2 7
  have h8 := XF.2 8
  refine bodyPost_ret (v := .agg #[.slice none 0 0, .int .i64 zk, .string znm, .int .i64 zn, .int .i64 ztk, .slice zta ztn ztc, .slice zsa zsn zsc, .slice zpa zpn zpc, .slice none 0 0]) (by simp [results, Try.results103, go_sem, h0, h1, h2, h3, h4, h5, h6, h7, h8]) rfl ?_
  exact ⟨_, _, _, _, _, _, _, _, _, _, _, _, _, rfl, IF, BF⟩
set_option maxRecDepth 100000 in
set_option maxHeartbeats 4000000 in
theorem markHis0 (B d : Nat) (t : Edi) (lo hi : Nat) (k0 : Int) (w : World) {xk xn xtk : Int} {xnm : ByteArray} {xta xsa xpa : Option Addr} {xtn xtc xsn xsc xpn xpc : Nat} (hB : B ≤ lo) (hBw : B ≤ w.heap.size) (hk0 : 0 ≤ k0) (hk1 : k0 + t.wt + 1 ≤ 1099511627776) (hn : t.bulk ≤ 1048576) (h : EditIn w d (.agg #[.int .i64 xk, .string xnm, .int .i64 xn, .int .i64 xtk, .slice xta xtn xtc, .slice xsa xsn xsc, .slice xpa xpn xpc]) t lo hi) :
    Calls Try.prog 27 #[.agg #[.slice none 0 0, .int .i64 xk, .string xnm, .int .i64 xn, .int .i64 xtk, .slice xta xtn xtc, .slice xsa xsn xsc, .slice xpa xpn xpc, .slice none 0 0], .int .i64 k0] w fun e w' => e = .returned (.int .i64 (k0 + (t.wt : Int))) ∧ EditIn w' d (.agg #[.int .i64 xk, .string xnm, .int .i64 xn, .int .i64 xtk, .slice xta xtn xtc, .slice xsa xsn xsc, .slice xpa xpn xpc]) (t.markIn k0) lo hi ∧ Below B w w' ∧ Kept lo hi w w' := by
  have B1 : Hid (Below w.heap.size w (w.alloc (.cells #[.slice none 0 0, .int .i64 xk, .string xnm, .int .i64 xn, .int .i64 xtk, .slice xta xtn xtc, .slice xsa xsn xsc, .slice xpa xpn xpc, .slice none 0 0] 55))) := below_alloc _ _
  have XA : Hid (BoxAt (w.alloc (.cells #[.slice none 0 0, .int .i64 xk, .string xnm, .int .i64 xn, .int .i64 xtk, .slice xta xtn xtc, .slice xsa xsn xsc, .slice xpa xpn xpc, .slice none 0 0] 55)) w.heap.size #[.slice none 0 0, .int .i64 xk, .string xnm, .int .i64 xn, .int .i64 xtk, .slice xta xtn xtc, .slice xsa xsn xsc, .slice xpa xpn xpc, .slice none 0 0]) := BoxAt.new _ _ _
  have HE := Lib.hid (h.below B1.out)
  have hz1 : (w.alloc (.cells #[.slice none 0 0, .int .i64 xk, .string xnm, .int .i64 xn, .int .i64 xtk, .slice xta xtn xtc, .slice xsa xsn xsc, .slice xpa xpn xpc, .slice none 0 0] 55)).heap.size = w.heap.size + 1 := by simp
  have hhi := h.top
  clear h
  go_enter Try.func27, Try.ntmps27
  go_upto_region 1 with fail
  generalize (w.alloc (.cells #[.slice none 0 0, .int .i64 xk, .string xnm, .int .i64 xn, .int .i64 xtk, .slice xta xtn xtc, .slice xsa xsn xsc, .slice xpa xpn xpc, .slice none 0 0] 55)) = w1 at B1 XA HE hz1 ⊢
  have x0 := XA.out.2 0
  have x1 := XA.out.2 1
  have x2 := XA.out.2 2
  have x3 := XA.out.2 3
  have x4 := XA.out.2 4
  have x5 := XA.out.2 5
  have x6 := XA.out.2 6
  have x7 := XA.out.2 7
  have x8 := XA.out.2 8
  go_wp2_with fail
  clear x0 x1 x2 x3 x4 x5 x6 x7 x8
  refine (markEds0 k0 _).mono ?_
  rintro e w2 ⟨rfl, hb⟩
  have hz2 := hb.size
  replace B1 := Lib.hid (below_thru B1.out (Nat.le_refl _) hb)
  replace XA := Lib.hid (XA.out.below hb)
  replace HE := Lib.hid (HE.out.below hb)
  clear hb
  have x0 := XA.out.2 0
  have x1 := XA.out.2 1
  have x2 := XA.out.2 2
  have x3 := XA.out.2 3
  have x4 := XA.out.2 4
  have x5 := XA.out.2 5
  have x6 := XA.out.2 6
  have x7 := XA.out.2 7
  have x8 := XA.out.2 8
  go_wp2_with fail
  clear x0 x1 x2 x3 x4 x5 x6 x7 x8
  refine (markEditIn B d _ t lo hi k0 _ hB (by omega) hk0 hk1 hn HE.out).mono ?_
  rintro e w3 ⟨rfl, hm, hb3, hk3⟩
  have XA3 := Lib.hid (XA.out.beside hk3 (by omega))
  have HM := Lib.hid hm
  have HB3 := Lib.hid hb3
  have HK3 := Lib.hid hk3
  clear hm hb3 hk3 XA
  obtain ⟨q, hq⟩ : ∃ q : Int, q = k0 + (t.wt : Int) := ⟨_, rfl⟩
  rw [← hq]
  have HQQ := Lib.hid hq
  clear hq
  have x0 := XA3.out.2 0
  have x1 := XA3.out.2 1
  have x2 := XA3.out.2 2
  have x3 := XA3.out.2 3
  have x4 := XA3.out.2 4
  have x5 := XA3.out.2 5
  have x6 := XA3.out.2 6
  have x7 := XA3.out.2 7
  have x8 := XA3.out.2 8
  go_wp2_with fail
  clear x0 x1 x2 x3 x4 x5 x6 x7 x8
  refine (markEds0 q _).mono ?_
  rintro e w4 ⟨rfl, hb⟩
  go_wp2_with fail
  go_ret
  have hbw : Below w.heap.size w w2 := B1.out
  refine ⟨by show Ending.returned (Value.int .i64 q) = _; rw [HQQ.out], HM.out.below hb, (hbw.mono hBw).trans (HB3.out.trans (hb.mono ?_)), ?_⟩
  · have := HK3.out.1; omega
  · exact (Kept.of_below hbw HK3.out).onto hb
set_option maxRecDepth 100000 in
set_option maxHeartbeats 4000000 in
theorem heldHis0 (d : Nat) (t : Edi) (k0 : Int) (w : World) {xk xn xtk : Int} {xnm : ByteArray} {xta xsa xpa : Option Addr} {xtn xtc xsn xsc xpn xpc : Nat} (hk0 : 0 ≤ k0) (hk1 : k0 + t.wt + 1 ≤ 1099511627776) (hn : t.bulk ≤ 1048576) (h : EditAt w d (.agg #[.int .i64 xk, .string xnm, .int .i64 xn, .int .i64 xtk, .slice xta xtn xtc, .slice xsa xsn xsc, .slice xpa xpn xpc]) (t.markIn k0)) :
    Calls Try.prog 28 #[.agg #[.slice none 0 0, .int .i64 xk, .string xnm, .int .i64 xn, .int .i64 xtk, .slice xta xtn xtc, .slice xsa xsn xsc, .slice xpa xpn xpc, .slice none 0 0], .int .i64 k0] w fun e w' => e = .returned (.int .i64 (k0 + (t.wt : Int))) ∧ Below w.heap.size w w' := by
  have B1 : Hid (Below w.heap.size w (w.alloc (.cells #[.slice none 0 0, .int .i64 xk, .string xnm, .int .i64 xn, .int .i64 xtk, .slice xta xtn xtc, .slice xsa xsn xsc, .slice xpa xpn xpc, .slice none 0 0] 55))) := below_alloc _ _
  have XA : Hid (BoxAt (w.alloc (.cells #[.slice none 0 0, .int .i64 xk, .string xnm, .int .i64 xn, .int .i64 xtk, .slice xta xtn xtc, .slice xsa xsn xsc, .slice xpa xpn xpc, .slice none 0 0] 55)) w.heap.size #[.slice none 0 0, .int .i64 xk, .string xnm, .int .i64 xn, .int .i64 xtk, .slice xta xtn xtc, .slice xsa xsn xsc, .slice xpa xpn xpc, .slice none 0 0]) := BoxAt.new _ _ _
  have HE := Lib.hid (h.below B1.out)
  clear h
  go_enter Try.func28, Try.ntmps28
  go_upto_region 1 with fail
  generalize (w.alloc (.cells #[.slice none 0 0, .int .i64 xk, .string xnm, .int .i64 xn, .int .i64 xtk, .slice xta xtn xtc, .slice xsa xsn xsc, .slice xpa xpn xpc, .slice none 0 0] 55)) = w1 at B1 XA HE ⊢
  have x0 := XA.out.2 0
  have x1 := XA.out.2 1
  have x2 := XA.out.2 2
  have x3 := XA.out.2 3
  have x4 := XA.out.2 4
  have x5 := XA.out.2 5
  have x6 := XA.out.2 6
  have x7 := XA.out.2 7
  have x8 := XA.out.2 8
  go_wp2_with fail
  clear x0 x1 x2 x3 x4 x5 x6 x7 x8
  refine (heldEds0 k0 _).mono ?_
  rintro e w2 ⟨rfl, hb⟩
  replace B1 := Lib.hid (below_thru B1.out (Nat.le_refl _) hb)
  replace XA := Lib.hid (XA.out.below hb)
  replace HE := Lib.hid (HE.out.below hb)
  clear hb
  have x0 := XA.out.2 0
  have x1 := XA.out.2 1
  have x2 := XA.out.2 2
  have x3 := XA.out.2 3
  have x4 := XA.out.2 4
  have x5 := XA.out.2 5
  have x6 := XA.out.2 6
  have x7 := XA.out.2 7
  have x8 := XA.out.2 8
  go_wp2_with fail
  clear x0 x1 x2 x3 x4 x5 x6 x7 x8
  refine (heldEdit d _ t k0 _ hk0 hk1 hn HE.out).mono ?_
  rintro e w3 ⟨rfl, hb⟩
  replace B1 := Lib.hid (below_thru B1.out (Nat.le_refl _) hb)
  replace XA := Lib.hid (XA.out.below hb)
  clear hb HE
  obtain ⟨q, hq⟩ : ∃ q : Int, q = k0 + (t.wt : Int) := ⟨_, rfl⟩
  rw [← hq]
  have hq0 : 0 ≤ q := by omega
  have HQQ := Lib.hid hq
  clear hq hk1
  have x0 := XA.out.2 0
  have x1 := XA.out.2 1
  have x2 := XA.out.2 2
  have x3 := XA.out.2 3
  have x4 := XA.out.2 4
  have x5 := XA.out.2 5
  have x6 := XA.out.2 6
  have x7 := XA.out.2 7
  have x8 := XA.out.2 8
  go_wp2_with fail
  clear x0 x1 x2 x3 x4 x5 x6 x7 x8
  refine (heldEds0 q _).mono ?_
  rintro e w4 ⟨rfl, hb⟩
  replace B1 := Lib.hid (below_thru B1.out (Nat.le_refl _) hb)
  clear hb
  go_wp2_with fail
  go_ret
  exact ⟨by show Ending.returned (Value.int .i64 q) = _; rw [HQQ.out], B1.out⟩
end Go.Proofs.Ytcohfbdhdngplaa
/-
  Proved: how a value of the kind Test lies in memory; plain facts.
-/
namespace Go.Proofs.Ytcohfbdhdngplaa
open Go.RowKit

structure Tst where
  arg : Ex
  want : Ex
def Tst.bulk (x : Tst) : Nat := x.arg.bulk + x.want.bulk
def TstAt (w : World) (d : Nat) (v : Value) (x : Tst) : Prop :=
  ∃ pbk pbnm pbm pbtk pbta pbtn pbtc pbsa pbsn pbsc pck pcnm pcm pctk pcta pctn pctc pcsa pcsn pcsc, v = .agg #[.int .i64 pbk, .string pbnm, .int .i64 pbm, .int .i64 pbtk, .slice pbta pbtn pbtc, .slice pbsa pbsn pbsc, .int .i64 pck, .string pcnm, .int .i64 pcm, .int .i64 pctk, .slice pcta pctn pctc, .slice pcsa pcsn pcsc] ∧ ExAt w d (.agg #[.int .i64 pbk, .string pbnm, .int .i64 pbm, .int .i64 pbtk, .slice pbta pbtn pbtc, .slice pbsa pbsn pbsc]) x.arg ∧ ExAt w d (.agg #[.int .i64 pck, .string pcnm, .int .i64 pcm, .int .i64 pctk, .slice pcta pctn pctc, .slice pcsa pcsn pcsc]) x.want
def TstIn (w : World) (d : Nat) (v : Value) (x : Tst) (lo hi : Nat) : Prop :=
  ∃ pbk pbnm pbm pbtk pbta pbtn pbtc pbsa pbsn pbsc pck pcnm pcm pctk pcta pctn pctc pcsa pcsn pcsc, v = .agg #[.int .i64 pbk, .string pbnm, .int .i64 pbm, .int .i64 pbtk, .slice pbta pbtn pbtc, .slice pbsa pbsn pbsc, .int .i64 pck, .string pcnm, .int .i64 pcm, .int .i64 pctk, .slice pcta pctn pctc, .slice pcsa pcsn pcsc] ∧ Wi lo hi (ExIn w d (.agg #[.int .i64 pbk, .string pbnm, .int .i64 pbm, .int .i64 pbtk, .slice pbta pbtn pbtc, .slice pbsa pbsn pbsc]) x.arg) ∧ Wi lo hi (ExIn w d (.agg #[.int .i64 pck, .string pcnm, .int .i64 pcm, .int .i64 pctk, .slice pcta pctn pctc, .slice pcsa pcsn pcsc]) x.want)
theorem TstAt.below {w w' : World} {d : Nat} {v : Value} {x : Tst} (h : TstAt w d v x) (hb : Below w.heap.size w w') : TstAt w' d v x := by
  obtain ⟨pbk, pbnm, pbm, pbtk, pbta, pbtn, pbtc, pbsa, pbsn, pbsc, pck, pcnm, pcm, pctk, pcta, pctn, pctc, pcsa, pcsn, pcsc, hv, h1, h2⟩ := h
  exact ⟨pbk, pbnm, pbm, pbtk, pbta, pbtn, pbtc, pbsa, pbsn, pbsc, pck, pcnm, pcm, pctk, pcta, pctn, pctc, pcsa, pcsn, pcsc, hv, h1.below hb, h2.below hb⟩
theorem TstAt.mono {w : World} {d d' : Nat} {v : Value} {x : Tst} (h : TstAt w d v x) (hd : d ≤ d') : TstAt w d' v x := by
  obtain ⟨pbk, pbnm, pbm, pbtk, pbta, pbtn, pbtc, pbsa, pbsn, pbsc, pck, pcnm, pcm, pctk, pcta, pctn, pctc, pcsa, pcsn, pcsc, hv, h1, h2⟩ := h
  exact ⟨pbk, pbnm, pbm, pbtk, pbta, pbtn, pbtc, pbsa, pbsn, pbsc, pck, pcnm, pcm, pctk, pcta, pctn, pctc, pcsa, pcsn, pcsc, hv, h1.mono hd, h2.mono hd⟩
theorem tst_parts {w : World} {d : Nat} {v : Value} {x : Tst} (h : TstAt w d v x) : ∃ pbk pbnm pbm pbtk pbta pbtn pbtc pbsa pbsn pbsc pck pcnm pcm pctk pcta pctn pctc pcsa pcsn pcsc, v = .agg #[.int .i64 pbk, .string pbnm, .int .i64 pbm, .int .i64 pbtk, .slice pbta pbtn pbtc, .slice pbsa pbsn pbsc, .int .i64 pck, .string pcnm, .int .i64 pcm, .int .i64 pctk, .slice pcta pctn pctc, .slice pcsa pcsn pcsc] := by
  obtain ⟨pbk, pbnm, pbm, pbtk, pbta, pbtn, pbtc, pbsa, pbsn, pbsc, pck, pcnm, pcm, pctk, pcta, pctn, pctc, pcsa, pcsn, pcsc, hv, h1, h2⟩ := h
  exact ⟨pbk, pbnm, pbm, pbtk, pbta, pbtn, pbtc, pbsa, pbsn, pbsc, pck, pcnm, pcm, pctk, pcta, pctn, pctc, pcsa, pcsn, pcsc, hv⟩
theorem TstIn.at_ {w : World} {d : Nat} {v : Value} {x : Tst} {lo hi : Nat} (h : TstIn w d v x lo hi) : TstAt w d v x := by
  obtain ⟨pbk, pbnm, pbm, pbtk, pbta, pbtn, pbtc, pbsa, pbsn, pbsc, pck, pcnm, pcm, pctk, pcta, pctn, pctc, pcsa, pcsn, pcsc, hv, h1, h2⟩ := h
  exact ⟨pbk, pbnm, pbm, pbtk, pbta, pbtn, pbtc, pbsa, pbsn, pbsc, pck, pcnm, pcm, pctk, pcta, pctn, pctc, pcsa, pcsn, pcsc, hv, h1.at_ fun _ _ h => h.at_, h2.at_ fun _ _ h => h.at_⟩
theorem TstIn.below {w w' : World} {d : Nat} {v : Value} {x : Tst} {lo hi : Nat} (h : TstIn w d v x lo hi) (hb : Below w.heap.size w w') : TstIn w' d v x lo hi := by
  obtain ⟨pbk, pbnm, pbm, pbtk, pbta, pbtn, pbtc, pbsa, pbsn, pbsc, pck, pcnm, pcm, pctk, pcta, pctn, pctc, pcsa, pcsn, pcsc, hv, h1, h2⟩ := h
  exact ⟨pbk, pbnm, pbm, pbtk, pbta, pbtn, pbtc, pbsa, pbsn, pbsc, pck, pcnm, pcm, pctk, pcta, pctn, pctc, pcsa, pcsn, pcsc, hv, h1.map fun _ _ _ _ h => h.below hb, h2.map fun _ _ _ _ h => h.below hb⟩
theorem TstIn.rest {w w' : World} {d : Nat} {v : Value} {x : Tst} {lo hi lo2 hi2 : Nat} (h : TstIn w d v x lo hi) (kp : Rest lo2 hi2 w w') (hd : hi ≤ lo2 ∨ hi2 ≤ lo) : TstIn w' d v x lo hi := by
  obtain ⟨pbk, pbnm, pbm, pbtk, pbta, pbtn, pbtc, pbsa, pbsn, pbsc, pck, pcnm, pcm, pctk, pcta, pctn, pctc, pcsa, pcsn, pcsc, hv, h1, h2⟩ := h
  exact ⟨pbk, pbnm, pbm, pbtk, pbta, pbtn, pbtc, pbsa, pbsn, pbsc, pck, pcnm, pcm, pctk, pcta, pctn, pctc, pcsa, pcsn, pcsc, hv, h1.map fun _ _ _ _ h => h.rest kp (by omega), h2.map fun _ _ _ _ h => h.rest kp (by omega)⟩
end Go.Proofs.Ytcohfbdhdngplaa
/-
  Proved: how a list of values of the kind Test lies in memory; plain facts.
-/
namespace Go.Proofs.Ytcohfbdhdngplaa
open Go.RowKit

def Tst.bulks : List Tst → Nat
  | [] => 0
  | e :: r => 1 + e.bulk + Tst.bulks r
theorem Tst.bulks_take (es : List Tst) : ∀ k (h : k < es.length), Tst.bulks (es.take (k + 1)) = Tst.bulks (es.take k) + (1 + es[k].bulk) := by
  induction es with
  | nil => intro k h; simp at h
  | cons s r ih =>
    intro k h
    cases k with
    | zero => simp [Tst.bulks]
    | succ k =>
      simp only [List.take_succ_cons, Tst.bulks, List.getElem_cons_succ]
      rw [ih k (by simpa using h)]; omega
theorem Tst.bulks_le (es : List Tst) (k : Nat) : Tst.bulks (es.take k) ≤ Tst.bulks es := by
  induction es generalizing k with
  | nil => simp
  | cons s r ih =>
    cases k with
    | zero => simp [Tst.bulks]
    | succ k => simp only [List.take_succ_cons, Tst.bulks]; have := ih k; omega
theorem Tst.bulk_get (es : List Tst) (k : Nat) (h : k < es.length) : 1 + es[k].bulk ≤ Tst.bulks es := by
  have h1 := Tst.bulks_take es k h
  have h2 := Tst.bulks_le es (k + 1)
  omega
theorem Tst.length_le (es : List Tst) : es.length ≤ Tst.bulks es := by
  induction es with
  | nil => simp
  | cons s r ih => simp only [List.length_cons, Tst.bulks]; omega
def TstsAt (w : World) (d : Nat) (v : Value) (es : List Tst) : Prop :=
  ∃ a cap, v = .slice a es.length cap ∧ es.length ≤ cap ∧ cap ≤ 9223372036854775807 ∧
    ∀ j (h : j < es.length), ∃ b off c0 c1 c2 c3 c4 c5 c6 c7 c8 c9 c10 c11, a = some ⟨b, off, none⟩ ∧ b < w.heap.size ∧ w.cell? ⟨b, off + j * 12, none⟩ = some c0 ∧ w.cell? ⟨b, off + j * 12 + 1, none⟩ = some c1 ∧ w.cell? ⟨b, off + j * 12 + 2, none⟩ = some c2 ∧ w.cell? ⟨b, off + j * 12 + 3, none⟩ = some c3 ∧ w.cell? ⟨b, off + j * 12 + 4, none⟩ = some c4 ∧ w.cell? ⟨b, off + j * 12 + 5, none⟩ = some c5 ∧ w.cell? ⟨b, off + j * 12 + 6, none⟩ = some c6 ∧ w.cell? ⟨b, off + j * 12 + 7, none⟩ = some c7 ∧ w.cell? ⟨b, off + j * 12 + 8, none⟩ = some c8 ∧ w.cell? ⟨b, off + j * 12 + 9, none⟩ = some c9 ∧ w.cell? ⟨b, off + j * 12 + 10, none⟩ = some c10 ∧ w.cell? ⟨b, off + j * 12 + 11, none⟩ = some c11 ∧ TstAt w d (.agg #[c0, c1, c2, c3, c4, c5, c6, c7, c8, c9, c10, c11]) es[j]
def TstsIn (w : World) (d : Nat) (v : Value) (es : List Tst) (lo hi : Nat) : Prop :=
  ∃ a cap, v = .slice a es.length cap ∧ es.length ≤ cap ∧ cap ≤ 9223372036854775807 ∧
    ∀ j (h : j < es.length), ∃ b off c0 c1 c2 c3 c4 c5 c6 c7 c8 c9 c10 c11, a = some ⟨b, off, none⟩ ∧ b < w.heap.size ∧ lo ≤ b ∧ b < hi ∧ w.cell? ⟨b, off + j * 12, none⟩ = some c0 ∧ w.cell? ⟨b, off + j * 12 + 1, none⟩ = some c1 ∧ w.cell? ⟨b, off + j * 12 + 2, none⟩ = some c2 ∧ w.cell? ⟨b, off + j * 12 + 3, none⟩ = some c3 ∧ w.cell? ⟨b, off + j * 12 + 4, none⟩ = some c4 ∧ w.cell? ⟨b, off + j * 12 + 5, none⟩ = some c5 ∧ w.cell? ⟨b, off + j * 12 + 6, none⟩ = some c6 ∧ w.cell? ⟨b, off + j * 12 + 7, none⟩ = some c7 ∧ w.cell? ⟨b, off + j * 12 + 8, none⟩ = some c8 ∧ w.cell? ⟨b, off + j * 12 + 9, none⟩ = some c9 ∧ w.cell? ⟨b, off + j * 12 + 10, none⟩ = some c10 ∧ w.cell? ⟨b, off + j * 12 + 11, none⟩ = some c11 ∧ Wi lo hi (TstIn w d (.agg #[c0, c1, c2, c3, c4, c5, c6, c7, c8, c9, c10, c11]) es[j])
theorem TstsAt.below {w w' : World} {d : Nat} {v : Value} {es : List Tst} (h : TstsAt w d v es) (hb : Below w.heap.size w w') : TstsAt w' d v es := by
  obtain ⟨a, cap, hv, hc, hm, h⟩ := h
  refine ⟨a, cap, hv, hc, hm, fun j hj => ?_⟩
  obtain ⟨b, off, c0, c1, c2, c3, c4, c5, c6, c7, c8, c9, c10, c11, ha, hlt, h0, h1, h2, h3, h4, h5, h6, h7, h8, h9, h10, h11, hr⟩ := h j hj
  have hk : ∀ o, w'.cell? ⟨b, o, none⟩ = w.cell? ⟨b, o, none⟩ := fun o => hb.cell (p := ⟨b, o, none⟩) hlt
  exact ⟨b, off, c0, c1, c2, c3, c4, c5, c6, c7, c8, c9, c10, c11, ha, Nat.lt_of_lt_of_le hlt hb.size, (hk _).trans h0, (hk _).trans h1, (hk _).trans h2, (hk _).trans h3, (hk _).trans h4, (hk _).trans h5, (hk _).trans h6, (hk _).trans h7, (hk _).trans h8, (hk _).trans h9, (hk _).trans h10, (hk _).trans h11, hr.below hb⟩
theorem TstsAt.mono {w : World} {d d' : Nat} {v : Value} {es : List Tst} (h : TstsAt w d v es) (hd : d ≤ d') : TstsAt w d' v es := by
  obtain ⟨a, cap, hv, hc, hm, h⟩ := h
  refine ⟨a, cap, hv, hc, hm, fun j hj => ?_⟩
  obtain ⟨b, off, c0, c1, c2, c3, c4, c5, c6, c7, c8, c9, c10, c11, ha, hlt, h0, h1, h2, h3, h4, h5, h6, h7, h8, h9, h10, h11, hr⟩ := h j hj
  exact ⟨b, off, c0, c1, c2, c3, c4, c5, c6, c7, c8, c9, c10, c11, ha, hlt, h0, h1, h2, h3, h4, h5, h6, h7, h8, h9, h10, h11, hr.mono hd⟩
theorem tsts_parts {w : World} {d : Nat} {v : Value} {es : List Tst} (h : TstsAt w d v es) : ∃ a n c, v = .slice a n c := by
  obtain ⟨a, cap, hv, _⟩ := h
  exact ⟨_, _, _, hv⟩
theorem TstsIn.at_ {w : World} {d : Nat} {v : Value} {es : List Tst} {lo hi : Nat} (h : TstsIn w d v es lo hi) : TstsAt w d v es := by
  obtain ⟨a, cap, hv, hc, hm, h⟩ := h
  refine ⟨a, cap, hv, hc, hm, fun j hj => ?_⟩
  obtain ⟨b, off, c0, c1, c2, c3, c4, c5, c6, c7, c8, c9, c10, c11, ha, hlt, hlo, hhi, h0, h1, h2, h3, h4, h5, h6, h7, h8, h9, h10, h11, hr⟩ := h j hj
  exact ⟨b, off, c0, c1, c2, c3, c4, c5, c6, c7, c8, c9, c10, c11, ha, hlt, h0, h1, h2, h3, h4, h5, h6, h7, h8, h9, h10, h11, hr.at_ fun _ _ h => h.at_⟩
theorem TstsIn.below {w w' : World} {d : Nat} {v : Value} {es : List Tst} {lo hi : Nat} (h : TstsIn w d v es lo hi) (hb : Below w.heap.size w w') : TstsIn w' d v es lo hi := by
  obtain ⟨a, cap, hv, hc, hm, h⟩ := h
  refine ⟨a, cap, hv, hc, hm, fun j hj => ?_⟩
  obtain ⟨b, off, c0, c1, c2, c3, c4, c5, c6, c7, c8, c9, c10, c11, ha, hlt, hlo, hhi, h0, h1, h2, h3, h4, h5, h6, h7, h8, h9, h10, h11, hr⟩ := h j hj
  have hk : ∀ o, w'.cell? ⟨b, o, none⟩ = w.cell? ⟨b, o, none⟩ := fun o => hb.cell (p := ⟨b, o, none⟩) hlt
  exact ⟨b, off, c0, c1, c2, c3, c4, c5, c6, c7, c8, c9, c10, c11, ha, Nat.lt_of_lt_of_le hlt hb.size, hlo, hhi, (hk _).trans h0, (hk _).trans h1, (hk _).trans h2, (hk _).trans h3, (hk _).trans h4, (hk _).trans h5, (hk _).trans h6, (hk _).trans h7, (hk _).trans h8, (hk _).trans h9, (hk _).trans h10, (hk _).trans h11, hr.map fun _ _ _ _ h => h.below hb⟩
theorem TstsIn.rest {w w' : World} {d : Nat} {v : Value} {es : List Tst} {lo hi lo2 hi2 : Nat} (h : TstsIn w d v es lo hi) (kp : Rest lo2 hi2 w w') (hd : hi ≤ lo2 ∨ hi2 ≤ lo) : TstsIn w' d v es lo hi := by
  obtain ⟨a, cap, hv, hc, hm, h⟩ := h
  refine ⟨a, cap, hv, hc, hm, fun j hj => ?_⟩
  obtain ⟨b, off, c0, c1, c2, c3, c4, c5, c6, c7, c8, c9, c10, c11, ha, hlt, hlo, hhi, h0, h1, h2, h3, h4, h5, h6, h7, h8, h9, h10, h11, hr⟩ := h j hj
  have hk : ∀ o, w'.cell? ⟨b, o, none⟩ = w.cell? ⟨b, o, none⟩ := fun o => World.cell?_of_block (a := ⟨b, o, none⟩) (kp.2 b hlt (by omega))
  exact ⟨b, off, c0, c1, c2, c3, c4, c5, c6, c7, c8, c9, c10, c11, ha, Nat.lt_of_lt_of_le hlt kp.1, hlo, hhi, (hk _).trans h0, (hk _).trans h1, (hk _).trans h2, (hk _).trans h3, (hk _).trans h4, (hk _).trans h5, (hk _).trans h6, (hk _).trans h7, (hk _).trans h8, (hk _).trans h9, (hk _).trans h10, (hk _).trans h11, hr.map fun _ _ _ _ h => h.rest kp (by omega)⟩
end Go.Proofs.Ytcohfbdhdngplaa
/-
  Proved: how a value of the kind Session lies in memory; plain facts.
-/
namespace Go.Proofs.Ytcohfbdhdngplaa
open Go.RowKit

structure Ses where
  his : His
  tests : List Tst
  base : Ex
  ours : Ex
def Ses.bulk (x : Ses) : Nat := x.his.bulk + Tst.bulks x.tests + x.base.bulk + x.ours.bulk
def SesAt (w : World) (d : Nat) (v : Value) (x : Ses) : Prop :=
  ∃ pbba pbbn pbbc pbcbk pbcbnm pbcbm pbcbtk pbcbta pbcbtn pbcbtc pbcbsa pbcbsn pbcbsc pbcca pbccn pbccc pbda pbdn pbdc pca pcn pcc pdk pdnm pdm pdtk pdta pdtn pdtc pdsa pdsn pdsc pek penm pem petk peta petn petc pesa pesn pesc, v = .agg #[.slice pbba pbbn pbbc, .int .i64 pbcbk, .string pbcbnm, .int .i64 pbcbm, .int .i64 pbcbtk, .slice pbcbta pbcbtn pbcbtc, .slice pbcbsa pbcbsn pbcbsc, .slice pbcca pbccn pbccc, .slice pbda pbdn pbdc, .slice pca pcn pcc, .int .i64 pdk, .string pdnm, .int .i64 pdm, .int .i64 pdtk, .slice pdta pdtn pdtc, .slice pdsa pdsn pdsc, .int .i64 pek, .string penm, .int .i64 pem, .int .i64 petk, .slice peta petn petc, .slice pesa pesn pesc] ∧ HisAt w d (.agg #[.slice pbba pbbn pbbc, .int .i64 pbcbk, .string pbcbnm, .int .i64 pbcbm, .int .i64 pbcbtk, .slice pbcbta pbcbtn pbcbtc, .slice pbcbsa pbcbsn pbcbsc, .slice pbcca pbccn pbccc, .slice pbda pbdn pbdc]) x.his ∧ TstsAt w d (.slice pca pcn pcc) x.tests ∧ ExAt w d (.agg #[.int .i64 pdk, .string pdnm, .int .i64 pdm, .int .i64 pdtk, .slice pdta pdtn pdtc, .slice pdsa pdsn pdsc]) x.base ∧ ExAt w d (.agg #[.int .i64 pek, .string penm, .int .i64 pem, .int .i64 petk, .slice peta petn petc, .slice pesa pesn pesc]) x.ours
def SesIn (w : World) (d : Nat) (v : Value) (x : Ses) (lo hi : Nat) : Prop :=
  ∃ pbba pbbn pbbc pbcbk pbcbnm pbcbm pbcbtk pbcbta pbcbtn pbcbtc pbcbsa pbcbsn pbcbsc pbcca pbccn pbccc pbda pbdn pbdc pca pcn pcc pdk pdnm pdm pdtk pdta pdtn pdtc pdsa pdsn pdsc pek penm pem petk peta petn petc pesa pesn pesc, v = .agg #[.slice pbba pbbn pbbc, .int .i64 pbcbk, .string pbcbnm, .int .i64 pbcbm, .int .i64 pbcbtk, .slice pbcbta pbcbtn pbcbtc, .slice pbcbsa pbcbsn pbcbsc, .slice pbcca pbccn pbccc, .slice pbda pbdn pbdc, .slice pca pcn pcc, .int .i64 pdk, .string pdnm, .int .i64 pdm, .int .i64 pdtk, .slice pdta pdtn pdtc, .slice pdsa pdsn pdsc, .int .i64 pek, .string penm, .int .i64 pem, .int .i64 petk, .slice peta petn petc, .slice pesa pesn pesc] ∧ Wi lo hi (HisIn w d (.agg #[.slice pbba pbbn pbbc, .int .i64 pbcbk, .string pbcbnm, .int .i64 pbcbm, .int .i64 pbcbtk, .slice pbcbta pbcbtn pbcbtc, .slice pbcbsa pbcbsn pbcbsc, .slice pbcca pbccn pbccc, .slice pbda pbdn pbdc]) x.his) ∧ Wi lo hi (TstsIn w d (.slice pca pcn pcc) x.tests) ∧ Wi lo hi (ExIn w d (.agg #[.int .i64 pdk, .string pdnm, .int .i64 pdm, .int .i64 pdtk, .slice pdta pdtn pdtc, .slice pdsa pdsn pdsc]) x.base) ∧ Wi lo hi (ExIn w d (.agg #[.int .i64 pek, .string penm, .int .i64 pem, .int .i64 petk, .slice peta petn petc, .slice pesa pesn pesc]) x.ours)
theorem SesAt.below {w w' : World} {d : Nat} {v : Value} {x : Ses} (h : SesAt w d v x) (hb : Below w.heap.size w w') : SesAt w' d v x := by
  obtain ⟨pbba, pbbn, pbbc, pbcbk, pbcbnm, pbcbm, pbcbtk, pbcbta, pbcbtn, pbcbtc, pbcbsa, pbcbsn, pbcbsc, pbcca, pbccn, pbccc, pbda, pbdn, pbdc, pca, pcn, pcc, pdk, pdnm, pdm, pdtk, pdta, pdtn, pdtc, pdsa, pdsn, pdsc, pek, penm, pem, petk, peta, petn, petc, pesa, pesn, pesc, hv, h1, h2, h3, h4⟩ := h
  exact ⟨pbba, pbbn, pbbc, pbcbk, pbcbnm, pbcbm, pbcbtk, pbcbta, pbcbtn, pbcbtc, pbcbsa, pbcbsn, pbcbsc, pbcca, pbccn, pbccc, pbda, pbdn, pbdc, pca, pcn, pcc, pdk, pdnm, pdm, pdtk, pdta, pdtn, pdtc, pdsa, pdsn, pdsc, pek, penm, pem, petk, peta, petn, petc, pesa, pesn, pesc, hv, h1.below hb, h2.below hb, h3.below hb, h4.below hb⟩
theorem SesAt.mono {w : World} {d d' : Nat} {v : Value} {x : Ses} (h : SesAt w d v x) (hd : d ≤ d') : SesAt w d' v x := by
  obtain ⟨pbba, pbbn, pbbc, pbcbk, pbcbnm, pbcbm, pbcbtk, pbcbta, pbcbtn, pbcbtc, pbcbsa, pbcbsn, pbcbsc, pbcca, pbccn, pbccc, pbda, pbdn, pbdc, pca, pcn, pcc, pdk, pdnm, pdm, pdtk, pdta, pdtn, pdtc, pdsa, pdsn, pdsc, pek, penm, pem, petk, peta, petn, petc, pesa, pesn, pesc, hv, h1, h2, h3, h4⟩ := h
  exact ⟨pbba, pbbn, pbbc, pbcbk, pbcbnm, pbcbm, pbcbtk, pbcbta, pbcbtn, pbcbtc, pbcbsa, pbcbsn, pbcbsc, pbcca, pbccn, pbccc, pbda, pbdn, pbdc, pca, pcn, pcc, pdk, pdnm, pdm, pdtk, pdta, pdtn, pdtc, pdsa, pdsn, pdsc, pek, penm, pem, petk, peta, petn, petc, pesa, pesn, pesc, hv, h1.mono hd, h2.mono hd, h3.mono hd, h4.mono hd⟩
theorem ses_parts {w : World} {d : Nat} {v : Value} {x : Ses} (h : SesAt w d v x) : ∃ pbba pbbn pbbc pbcbk pbcbnm pbcbm pbcbtk pbcbta pbcbtn pbcbtc pbcbsa pbcbsn pbcbsc pbcca pbccn pbccc pbda pbdn pbdc pca pcn pcc pdk pdnm pdm pdtk pdta pdtn pdtc pdsa pdsn pdsc pek penm pem petk peta petn petc pesa pesn pesc, v = .agg #[.slice pbba pbbn pbbc, .int .i64 pbcbk, .string pbcbnm, .int .i64 pbcbm, .int .i64 pbcbtk, .slice pbcbta pbcbtn pbcbtc, .slice pbcbsa pbcbsn pbcbsc, .slice pbcca pbccn pbccc, .slice pbda pbdn pbdc, .slice pca pcn pcc, .int .i64 pdk, .string pdnm, .int .i64 pdm, .int .i64 pdtk, .slice pdta pdtn pdtc, .slice pdsa pdsn pdsc, .int .i64 pek, .string penm, .int .i64 pem, .int .i64 petk, .slice peta petn petc, .slice pesa pesn pesc] := by
  obtain ⟨pbba, pbbn, pbbc, pbcbk, pbcbnm, pbcbm, pbcbtk, pbcbta, pbcbtn, pbcbtc, pbcbsa, pbcbsn, pbcbsc, pbcca, pbccn, pbccc, pbda, pbdn, pbdc, pca, pcn, pcc, pdk, pdnm, pdm, pdtk, pdta, pdtn, pdtc, pdsa, pdsn, pdsc, pek, penm, pem, petk, peta, petn, petc, pesa, pesn, pesc, hv, h1, h2, h3, h4⟩ := h
  exact ⟨pbba, pbbn, pbbc, pbcbk, pbcbnm, pbcbm, pbcbtk, pbcbta, pbcbtn, pbcbtc, pbcbsa, pbcbsn, pbcbsc, pbcca, pbccn, pbccc, pbda, pbdn, pbdc, pca, pcn, pcc, pdk, pdnm, pdm, pdtk, pdta, pdtn, pdtc, pdsa, pdsn, pdsc, pek, penm, pem, petk, peta, petn, petc, pesa, pesn, pesc, hv⟩
theorem SesIn.at_ {w : World} {d : Nat} {v : Value} {x : Ses} {lo hi : Nat} (h : SesIn w d v x lo hi) : SesAt w d v x := by
  obtain ⟨pbba, pbbn, pbbc, pbcbk, pbcbnm, pbcbm, pbcbtk, pbcbta, pbcbtn, pbcbtc, pbcbsa, pbcbsn, pbcbsc, pbcca, pbccn, pbccc, pbda, pbdn, pbdc, pca, pcn, pcc, pdk, pdnm, pdm, pdtk, pdta, pdtn, pdtc, pdsa, pdsn, pdsc, pek, penm, pem, petk, peta, petn, petc, pesa, pesn, pesc, hv, h1, h2, h3, h4⟩ := h
  exact ⟨pbba, pbbn, pbbc, pbcbk, pbcbnm, pbcbm, pbcbtk, pbcbta, pbcbtn, pbcbtc, pbcbsa, pbcbsn, pbcbsc, pbcca, pbccn, pbccc, pbda, pbdn, pbdc, pca, pcn, pcc, pdk, pdnm, pdm, pdtk, pdta, pdtn, pdtc, pdsa, pdsn, pdsc, pek, penm, pem, petk, peta, petn, petc, pesa, pesn, pesc, hv, h1.at_ fun _ _ h => h.at_, h2.at_ fun _ _ h => h.at_, h3.at_ fun _ _ h => h.at_, h4.at_ fun _ _ h => h.at_⟩
theorem SesIn.below {w w' : World} {d : Nat} {v : Value} {x : Ses} {lo hi : Nat} (h : SesIn w d v x lo hi) (hb : Below w.heap.size w w') : SesIn w' d v x lo hi := by
  obtain ⟨pbba, pbbn, pbbc, pbcbk, pbcbnm, pbcbm, pbcbtk, pbcbta, pbcbtn, pbcbtc, pbcbsa, pbcbsn, pbcbsc, pbcca, pbccn, pbccc, pbda, pbdn, pbdc, pca, pcn, pcc, pdk, pdnm, pdm, pdtk, pdta, pdtn, pdtc, pdsa, pdsn, pdsc, pek, penm, pem, petk, peta, petn, petc, pesa, pesn, pesc, hv, h1, h2, h3, h4⟩ := h
  exact ⟨pbba, pbbn, pbbc, pbcbk, pbcbnm, pbcbm, pbcbtk, pbcbta, pbcbtn, pbcbtc, pbcbsa, pbcbsn, pbcbsc, pbcca, pbccn, pbccc, pbda, pbdn, pbdc, pca, pcn, pcc, pdk, pdnm, pdm, pdtk, pdta, pdtn, pdtc, pdsa, pdsn, pdsc, pek, penm, pem, petk, peta, petn, petc, pesa, pesn, pesc, hv, h1.map fun _ _ _ _ h => h.below hb, h2.map fun _ _ _ _ h => h.below hb, h3.map fun _ _ _ _ h => h.below hb, h4.map fun _ _ _ _ h => h.below hb⟩
theorem SesIn.rest {w w' : World} {d : Nat} {v : Value} {x : Ses} {lo hi lo2 hi2 : Nat} (h : SesIn w d v x lo hi) (kp : Rest lo2 hi2 w w') (hd : hi ≤ lo2 ∨ hi2 ≤ lo) : SesIn w' d v x lo hi := by
  obtain ⟨pbba, pbbn, pbbc, pbcbk, pbcbnm, pbcbm, pbcbtk, pbcbta, pbcbtn, pbcbtc, pbcbsa, pbcbsn, pbcbsc, pbcca, pbccn, pbccc, pbda, pbdn, pbdc, pca, pcn, pcc, pdk, pdnm, pdm, pdtk, pdta, pdtn, pdtc, pdsa, pdsn, pdsc, pek, penm, pem, petk, peta, petn, petc, pesa, pesn, pesc, hv, h1, h2, h3, h4⟩ := h
  exact ⟨pbba, pbbn, pbbc, pbcbk, pbcbnm, pbcbm, pbcbtk, pbcbta, pbcbtn, pbcbtc, pbcbsa, pbcbsn, pbcbsc, pbcca, pbccn, pbccc, pbda, pbdn, pbdc, pca, pcn, pcc, pdk, pdnm, pdm, pdtk, pdta, pdtn, pdtc, pdsa, pdsn, pdsc, pek, penm, pem, petk, peta, petn, petc, pesa, pesn, pesc, hv, h1.map fun _ _ _ _ h => h.rest kp (by omega), h2.map fun _ _ _ _ h => h.rest kp (by omega), h3.map fun _ _ _ _ h => h.rest kp (by omega), h4.map fun _ _ _ _ h => h.rest kp (by omega)⟩
end Go.Proofs.Ytcohfbdhdngplaa
/-
  Proved: laws.eqTest answers true for two readings of the same value, and changes no memory that was there.
-/
namespace Go.Proofs.Ytcohfbdhdngplaa
open Go.RowKit

set_option maxRecDepth 100000 in
set_option maxHeartbeats 4000000 in
theorem eqTst (d : Nat) (v1 v2 : Value) (x : Tst) (w : World) (h : TstAt w d v1 x) (h' : TstAt w d v2 x) :
    Calls Try.prog 130 #[v1, v2] w (EqTrueEnd w) := by
  cases x with
  | mk x1 x2 =>
    obtain ⟨pbk, pbnm, pbm, pbtk, pbta, pbtn, pbtc, pbsa, pbsn, pbsc, pck, pcnm, pcm, pctk, pcta, pctn, pctc, pcsa, pcsn, pcsc, rfl, h1, h2⟩ := h
    obtain ⟨ubk, ubnm, ubm, ubtk, ubta, ubtn, ubtc, ubsa, ubsn, ubsc, uck, ucnm, ucm, uctk, ucta, uctn, uctc, ucsa, ucsn, ucsc, rfl, k1, k2⟩ := h'
    dsimp only at h1 h2 k1 k2 ⊢
    have e2 : Below w.heap.size w ((w.alloc (.cells #[.int .i64 pbk, .string pbnm, .int .i64 pbm, .int .i64 pbtk, .slice pbta pbtn pbtc, .slice pbsa pbsn pbsc, .int .i64 pck, .string pcnm, .int .i64 pcm, .int .i64 pctk, .slice pcta pctn pctc, .slice pcsa pcsn pcsc] 179)).alloc (.cells #[.int .i64 ubk, .string ubnm, .int .i64 ubm, .int .i64 ubtk, .slice ubta ubtn ubtc, .slice ubsa ubsn ubsc, .int .i64 uck, .string ucnm, .int .i64 ucm, .int .i64 uctk, .slice ucta uctn uctc, .slice ucsa ucsn ucsc] 179)) := ((Below.refl _ _).alloc (Nat.le_refl _) _).alloc (by simp) _
    have H1 := Lib.hid (h1.below e2)
    have J1 := Lib.hid (k1.below e2)
    have H2 := Lib.hid (h2.below e2)
    have J2 := Lib.hid (k2.below e2)
    clear e2 h1 k1 h2 k2
    go_enter Try.func130, Try.ntmps130
    go_wp2_with fail
    refine (eqExr d _ _ x1 _ H1.out J1.out).mono ?_
    rintro e' w1 ⟨rfl, hb⟩
    have HB := Lib.hid (two_on (Below.refl _ _) hb)
    replace H2 := Lib.hid (H2.out.below hb)
    replace J2 := Lib.hid (J2.out.below hb)
    clear hb H1 J1
    have c6 := two_first HB.out 6
    have u6 := two_next HB.out 6
    have c7 := two_first HB.out 7
    have u7 := two_next HB.out 7
    have c8 := two_first HB.out 8
    have u8 := two_next HB.out 8
    have c9 := two_first HB.out 9
    have u9 := two_next HB.out 9
    have c10 := two_first HB.out 10
    have u10 := two_next HB.out 10
    have c11 := two_first HB.out 11
    have u11 := two_next HB.out 11
    go_wp2_with fail
    clear c6 u6 c7 u7 c8 u8 c9 u9 c10 u10 c11 u11
    refine (eqExr d _ _ x2 _ H2.out J2.out).mono ?_
    rintro e' w2 ⟨rfl, hb⟩
    replace HB := Lib.hid (two_on HB.out hb)
    clear hb H2 J2
    go_wp2_with fail
    go_ret
    exact ⟨rfl, two_below HB.out⟩
end Go.Proofs.Ytcohfbdhdngplaa
/-
  Proved: laws.eqTestS answers true for two readings of the same list, and changes no memory that was there.
-/
namespace Go.Proofs.Ytcohfbdhdngplaa
open Go.RowKit

set_option maxRecDepth 100000 in
set_option maxHeartbeats 4000000 in
theorem eqTsts (d : Nat) (v1 v2 : Value) (ts : List Tst) (w : World) (h1 : TstsAt w d v1 ts) (h2 : TstsAt w d v2 ts) :
    Calls Try.prog 105 #[v1, v2] w (EqTrueEnd w) := by
  obtain ⟨a1, cap1, rfl, hcap1, hm1, hat1⟩ := h1
  obtain ⟨a2, cap2, rfl, hcap2, hm2, hat2⟩ := h2
  have HA1 := Lib.hid hat1; clear hat1
  have HA2 := Lib.hid hat2; clear hat2
  go_enter Try.func105, Try.ntmps105
  go_wp2_with fail
  go_loopw [5] (fun i wr => ∃ k : Nat, k ≤ ts.length ∧ i = .int .i64 k ∧ Below w.heap.size w wr) (fun i _ => ts.length - (intOf i).toNat)
  case atStart => exact ⟨0, by omega, rfl, Below.refl _ _⟩
  case round =>
    obtain ⟨k, hk, rfl, hb⟩ := hrel
    have HB := Lib.hid hb; clear hb
    by_cases hlt : k < ts.length
    · obtain ⟨b1, off1, x0, x1, x2, x3, x4, x5, x6, x7, x8, x9, x10, x11, rfl, hbl1, h10, h11, h12, h13, h14, h15, h16, h17, h18, h19, h110, h111, ht1⟩ := HA1.out k hlt
      obtain ⟨b2, off2, y0, y1, y2, y3, y4, y5, y6, y7, y8, y9, y10, y11, rfl, hbl2, h20, h21, h22, h23, h24, h25, h26, h27, h28, h29, h210, h211, ht2⟩ := HA2.out k hlt
      have c10 : wr.cell? ⟨b1, off1 + k * 12, none⟩ = some x0 := by rw [HB.out.cell (p := ⟨b1, off1 + k * 12, none⟩) hbl1]; exact h10
      have c20 : wr.cell? ⟨b2, off2 + k * 12, none⟩ = some y0 := by rw [HB.out.cell (p := ⟨b2, off2 + k * 12, none⟩) hbl2]; exact h20
      have c11 : wr.cell? ⟨b1, off1 + k * 12 + 1, none⟩ = some x1 := by rw [HB.out.cell (p := ⟨b1, off1 + k * 12 + 1, none⟩) hbl1]; exact h11
      have c21 : wr.cell? ⟨b2, off2 + k * 12 + 1, none⟩ = some y1 := by rw [HB.out.cell (p := ⟨b2, off2 + k * 12 + 1, none⟩) hbl2]; exact h21
      have c12 : wr.cell? ⟨b1, off1 + k * 12 + 2, none⟩ = some x2 := by rw [HB.out.cell (p := ⟨b1, off1 + k * 12 + 2, none⟩) hbl1]; exact h12
      have c22 : wr.cell? ⟨b2, off2 + k * 12 + 2, none⟩ = some y2 := by rw [HB.out.cell (p := ⟨b2, off2 + k * 12 + 2, none⟩) hbl2]; exact h22
      have c13 : wr.cell? ⟨b1, off1 + k * 12 + 3, none⟩ = some x3 := by rw [HB.out.cell (p := ⟨b1, off1 + k * 12 + 3, none⟩) hbl1]; exact h13
      have c23 : wr.cell? ⟨b2, off2 + k * 12 + 3, none⟩ = some y3 := by rw [HB.out.cell (p := ⟨b2, off2 + k * 12 + 3, none⟩) hbl2]; exact h23
      have c14 : wr.cell? ⟨b1, off1 + k * 12 + 4, none⟩ = some x4 := by rw [HB.out.cell (p := ⟨b1, off1 + k * 12 + 4, none⟩) hbl1]; exact h14
      have c24 : wr.cell? ⟨b2, off2 + k * 12 + 4, none⟩ = some y4 := by rw [HB.out.cell (p := ⟨b2, off2 + k * 12 + 4, none⟩) hbl2]; exact h24
      have c15 : wr.cell? ⟨b1, off1 + k * 12 + 5, none⟩ = some x5 := by rw [HB.out.cell (p := ⟨b1, off1 + k * 12 + 5, none⟩) hbl1]; exact h15
      have c25 : wr.cell? ⟨b2, off2 + k * 12 + 5, none⟩ = some y5 := by rw [HB.out.cell (p := ⟨b2, off2 + k * 12 + 5, none⟩) hbl2]; exact h25
      have c16 : wr.cell? ⟨b1, off1 + k * 12 + 6, none⟩ = some x6 := by rw [HB.out.cell (p := ⟨b1, off1 + k * 12 + 6, none⟩) hbl1]; exact h16
      have c26 : wr.cell? ⟨b2, off2 + k * 12 + 6, none⟩ = some y6 := by rw [HB.out.cell (p := ⟨b2, off2 + k * 12 + 6, none⟩) hbl2]; exact h26
      have c17 : wr.cell? ⟨b1, off1 + k * 12 + 7, none⟩ = some x7 := by rw [HB.out.cell (p := ⟨b1, off1 + k * 12 + 7, none⟩) hbl1]; exact h17
      have c27 : wr.cell? ⟨b2, off2 + k * 12 + 7, none⟩ = some y7 := by rw [HB.out.cell (p := ⟨b2, off2 + k * 12 + 7, none⟩) hbl2]; exact h27
      have c18 : wr.cell? ⟨b1, off1 + k * 12 + 8, none⟩ = some x8 := by rw [HB.out.cell (p := ⟨b1, off1 + k * 12 + 8, none⟩) hbl1]; exact h18
      have c28 : wr.cell? ⟨b2, off2 + k * 12 + 8, none⟩ = some y8 := by rw [HB.out.cell (p := ⟨b2, off2 + k * 12 + 8, none⟩) hbl2]; exact h28
      have c19 : wr.cell? ⟨b1, off1 + k * 12 + 9, none⟩ = some x9 := by rw [HB.out.cell (p := ⟨b1, off1 + k * 12 + 9, none⟩) hbl1]; exact h19
      have c29 : wr.cell? ⟨b2, off2 + k * 12 + 9, none⟩ = some y9 := by rw [HB.out.cell (p := ⟨b2, off2 + k * 12 + 9, none⟩) hbl2]; exact h29
      have c110 : wr.cell? ⟨b1, off1 + k * 12 + 10, none⟩ = some x10 := by rw [HB.out.cell (p := ⟨b1, off1 + k * 12 + 10, none⟩) hbl1]; exact h110
      have c210 : wr.cell? ⟨b2, off2 + k * 12 + 10, none⟩ = some y10 := by rw [HB.out.cell (p := ⟨b2, off2 + k * 12 + 10, none⟩) hbl2]; exact h210
      have c111 : wr.cell? ⟨b1, off1 + k * 12 + 11, none⟩ = some x11 := by rw [HB.out.cell (p := ⟨b1, off1 + k * 12 + 11, none⟩) hbl1]; exact h111
      have c211 : wr.cell? ⟨b2, off2 + k * 12 + 11, none⟩ = some y11 := by rw [HB.out.cell (p := ⟨b2, off2 + k * 12 + 11, none⟩) hbl2]; exact h211
      have HT1 := Lib.hid (ht1.below HB.out.drew)
      have HT2 := Lib.hid (ht2.below HB.out.drew)
      clear ht1 ht2 h10 h11 h12 h13 h14 h15 h16 h17 h18 h19 h110 h111 h20 h21 h22 h23 h24 h25 h26 h27 h28 h29 h210 h211
      go_wp2_with fail
      go_still_tail 8, (by kernel_rfl)
      change wpList _ _ _ _ _ wr.drew
      go_wp2_with fail
      refine (eqTst d _ _ _ wr.drew HT1.out HT2.out).mono ?_
      rintro e w' ⟨rfl, hb1⟩
      have HB2 := Lib.hid (HB.out.drew.trans (hb1.mono HB.out.drew.size)); clear hb1
      go_wp2_with fail
      exact ⟨⟨k + 1, by omega, by go_num, HB2.out⟩, by simp [intOf]; omega⟩
    · go_wp2_with fail
      go_ret
      exact ⟨rfl, HB.out⟩
end Go.Proofs.Ytcohfbdhdngplaa
/-
  Proved: laws.eqSession answers true for two readings of the same value, and changes no memory that was there.
-/
namespace Go.Proofs.Ytcohfbdhdngplaa
open Go.RowKit

set_option maxRecDepth 100000 in
set_option maxHeartbeats 4000000 in
theorem eqSes (d : Nat) (v1 v2 : Value) (x : Ses) (w : World) (h : SesAt w d v1 x) (h' : SesAt w d v2 x) :
    Calls Try.prog 46 #[v1, v2] w (EqTrueEnd w) := by
  cases x with
  | mk x1 x2 x3 x4 =>
    obtain ⟨pbba, pbbn, pbbc, pbcbk, pbcbnm, pbcbm, pbcbtk, pbcbta, pbcbtn, pbcbtc, pbcbsa, pbcbsn, pbcbsc, pbcca, pbccn, pbccc, pbda, pbdn, pbdc, pca, pcn, pcc, pdk, pdnm, pdm, pdtk, pdta, pdtn, pdtc, pdsa, pdsn, pdsc, pek, penm, pem, petk, peta, petn, petc, pesa, pesn, pesc, rfl, h1, h2, h3, h4⟩ := h
    obtain ⟨ubba, ubbn, ubbc, ubcbk, ubcbnm, ubcbm, ubcbtk, ubcbta, ubcbtn, ubcbtc, ubcbsa, ubcbsn, ubcbsc, ubcca, ubccn, ubccc, ubda, ubdn, ubdc, uca, ucn, ucc, udk, udnm, udm, udtk, udta, udtn, udtc, udsa, udsn, udsc, uek, uenm, uem, uetk, ueta, uetn, uetc, uesa, uesn, uesc, rfl, k1, k2, k3, k4⟩ := h'
    dsimp only at h1 h2 h3 h4 k1 k2 k3 k4 ⊢
    have e2 : Below w.heap.size w ((w.alloc (.cells #[.slice pbba pbbn pbbc, .int .i64 pbcbk, .string pbcbnm, .int .i64 pbcbm, .int .i64 pbcbtk, .slice pbcbta pbcbtn pbcbtc, .slice pbcbsa pbcbsn pbcbsc, .slice pbcca pbccn pbccc, .slice pbda pbdn pbdc, .slice pca pcn pcc, .int .i64 pdk, .string pdnm, .int .i64 pdm, .int .i64 pdtk, .slice pdta pdtn pdtc, .slice pdsa pdsn pdsc, .int .i64 pek, .string penm, .int .i64 pem, .int .i64 petk, .slice peta petn petc, .slice pesa pesn pesc] 86)).alloc (.cells #[.slice ubba ubbn ubbc, .int .i64 ubcbk, .string ubcbnm, .int .i64 ubcbm, .int .i64 ubcbtk, .slice ubcbta ubcbtn ubcbtc, .slice ubcbsa ubcbsn ubcbsc, .slice ubcca ubccn ubccc, .slice ubda ubdn ubdc, .slice uca ucn ucc, .int .i64 udk, .string udnm, .int .i64 udm, .int .i64 udtk, .slice udta udtn udtc, .slice udsa udsn udsc, .int .i64 uek, .string uenm, .int .i64 uem, .int .i64 uetk, .slice ueta uetn uetc, .slice uesa uesn uesc] 86)) := ((Below.refl _ _).alloc (Nat.le_refl _) _).alloc (by simp) _
    have H1 := Lib.hid (h1.below e2)
    have J1 := Lib.hid (k1.below e2)
    have H2 := Lib.hid (h2.below e2)
    have J2 := Lib.hid (k2.below e2)
    have H3 := Lib.hid (h3.below e2)
    have J3 := Lib.hid (k3.below e2)
    have H4 := Lib.hid (h4.below e2)
    have J4 := Lib.hid (k4.below e2)
    clear e2 h1 k1 h2 k2 h3 k3 h4 k4
    go_enter Try.func46, Try.ntmps46
    go_wp2_with fail
    refine (eqHis d _ _ x1 _ H1.out J1.out).mono ?_
    rintro e' w1 ⟨rfl, hb⟩
    have HB := Lib.hid (two_on (Below.refl _ _) hb)
    replace H2 := Lib.hid (H2.out.below hb)
    replace J2 := Lib.hid (J2.out.below hb)
    replace H3 := Lib.hid (H3.out.below hb)
    replace J3 := Lib.hid (J3.out.below hb)
    replace H4 := Lib.hid (H4.out.below hb)
    replace J4 := Lib.hid (J4.out.below hb)
    clear hb H1 J1
    have c9 := two_first HB.out 9
    have u9 := two_next HB.out 9
    go_wp2_with fail
    clear c9 u9
    refine (eqTsts d _ _ x2 _ H2.out J2.out).mono ?_
    rintro e' w2 ⟨rfl, hb⟩
    replace HB := Lib.hid (two_on HB.out hb)
    replace H3 := Lib.hid (H3.out.below hb)
    replace J3 := Lib.hid (J3.out.below hb)
    replace H4 := Lib.hid (H4.out.below hb)
    replace J4 := Lib.hid (J4.out.below hb)
    clear hb H2 J2
    have c10 := two_first HB.out 10
    have u10 := two_next HB.out 10
    have c11 := two_first HB.out 11
    have u11 := two_next HB.out 11
    have c12 := two_first HB.out 12
    have u12 := two_next HB.out 12
    have c13 := two_first HB.out 13
    have u13 := two_next HB.out 13
    have c14 := two_first HB.out 14
    have u14 := two_next HB.out 14
    have c15 := two_first HB.out 15
    have u15 := two_next HB.out 15
    go_wp2_with fail
    clear c10 u10 c11 u11 c12 u12 c13 u13 c14 u14 c15 u15
    refine (eqExr d _ _ x3 _ H3.out J3.out).mono ?_
    rintro e' w3 ⟨rfl, hb⟩
    replace HB := Lib.hid (two_on HB.out hb)
    replace H4 := Lib.hid (H4.out.below hb)
    replace J4 := Lib.hid (J4.out.below hb)
    clear hb H3 J3
    have c16 := two_first HB.out 16
    have u16 := two_next HB.out 16
    have c17 := two_first HB.out 17
    have u17 := two_next HB.out 17
    have c18 := two_first HB.out 18
    have u18 := two_next HB.out 18
    have c19 := two_first HB.out 19
    have u19 := two_next HB.out 19
    have c20 := two_first HB.out 20
    have u20 := two_next HB.out 20
    have c21 := two_first HB.out 21
    have u21 := two_next HB.out 21
    go_wp2_with fail
    clear c16 u16 c17 u17 c18 u18 c19 u19 c20 u20 c21 u21
    refine (eqExr d _ _ x4 _ H4.out J4.out).mono ?_
    rintro e' w4 ⟨rfl, hb⟩
    replace HB := Lib.hid (two_on HB.out hb)
    clear hb H4 J4
    go_wp2_with fail
    go_ret
    exact ⟨rfl, two_below HB.out⟩
end Go.Proofs.Ytcohfbdhdngplaa
/-
  Proved: a load of a whole struct out of a box, and the return of a result variable that is a struct: of any number of cells, without writing them out.
-/
namespace Go.Proofs.Ytcohfbdhdngplaa
open Go.RowKit

theorem BoxAt.range {w : World} {p : Nat} {us : List Value} (h : BoxAt w p us.toArray) : w.rangeAt p 0 us := by
  intro j v hj
  rw [Nat.zero_add, h.2 j]
  simpa using hj
theorem wpList_load_box {P : Program} {ops : Array Oper} {rest : List Oper} {op : Oper} {a : Act} {w : World} {Q : Exit → Act → World → Prop} (hgd : op.guard = none) (ty : TypeId) (x : Operand) (ho : op.op = .load ty x)
    (p : Nat) (us : List Value) (hx : a.eval x = .pointer (some ⟨p, 0, none⟩)) (hb : BoxAt w p us.toArray) {d : TypeDesc} (hu : P.underlying ty = some d) (hd : d.isRow = true) (hi : (P.info? ty).map (·.size) = some us.length)
    (h : wpList P ops Q rest (a.put op.dst (.agg us.toArray)) w) : wpList P ops Q (op :: rest) a w :=
  wpList_load_mid hgd ty x ho p 0 hx us d hb.range hu hd hi h
theorem ret_box {P : Program} {fn : Func} {R : Ending → World → Prop} {a : Act} {w : World} {s : Tmp} {t : TypeId} (hf : fn.results = #[.cell s t]) (p : Nat) (us : List Value) (ha : a.tmps.getD s undef = .pointer (some ⟨p, 0, none⟩)) (hb : BoxAt w p us.toArray)
    {d : TypeDesc} (hu : P.underlying t = some d) (hd : d.isRow = true) (hi : (P.info? t).map (·.size) = some us.length) (hdf : a.defers = []) (hR : R (.returned (.agg us.toArray)) w) : bodyPost P fn R .ret a w := by
  refine bodyPost_ret (v := .agg us.toArray) ?_ hdf hR
  have hl := run_loadVar_mid w p 0 t us d hb.range hu hd hi
  rw [Array.getD_eq_getD_getElem?] at ha
  simp [results, hf, ha, asAddr, hl]
/-- A store of a whole struct into the block that was made last. -/
theorem wpList_store_last {P : Program} {ops : Array Oper} {rest : List Oper} {o : Oper} {a : Act} {Q : Exit → Act → World → Prop} (hgd : o.guard = none) (t : TypeId) (x v : Operand) (ho : o.op = .store t x v)
    (w0 : World) (c : Array Value) (us : List Value) (hx : a.eval x = .pointer (some ⟨w0.heap.size, 0, none⟩)) (hv : a.eval v = .agg us.toArray) (hi : (P.info? t).map (·.size) = some us.length) (hz : c.size = us.length) (h1 : ∀ u ∈ us, u.oneCell' = true)
    (h : wpList P ops Q rest (a.put o.dst undef) (w0.alloc (.cells us.toArray t))) : wpList P ops Q (o :: rest) a (w0.alloc (.cells c t)) :=
  wpList_plain hgd fun K hK => by
    have hr := run_storeAt_new (P := P) w0 t c us.toArray (by simpa using hi) (by simpa using hz) (all_oneCell_toArray h1)
    unfold Oper.wp execOp
    simp only [ho, Sem.run_bind, Sem.run_pure, Result.andThen_ok, hx, hv, hr]
    exact hK _ _ h
end Go.Proofs.Ytcohfbdhdngplaa
/-
  Proved: a store of a struct's cells into a box lays them one after another; the world behind it is named without writing the cells out.
-/
namespace Go.Proofs.Ytcohfbdhdngplaa
open Go.RowKit

theorem run_store_all {P : Program} {p : Nat} : ∀ (us old pre rest : List Value) (w : World), BoxAt w p (pre ++ (old ++ rest)).toArray → FreeAt w p → us.length = old.length → (∀ u ∈ us, u.oneCell' = true) →
    (storeCells ⟨p, 0, none⟩ us pre.length).run P w = .ok () (allStored p pre.length us w)
  | [], [], _, _, w, _, _, _, _ => rfl
  | [], _ :: _, _, _, _, _, _, h, _ => by simp at h
  | _ :: _, [], _, _, _, _, _, h, _ => by simp at h
  | u :: r, o :: s, pre, rest, w, h, hf, hl, h1 => by
    have hc : w.cell? ⟨p, pre.length, none⟩ = some o := by rw [h.2 pre.length]; simp
    have hz : w.frozen? ⟨p, pre.length, none⟩ = false := hf.2 pre.length
    have e : (store ((⟨p, 0, none⟩ : Addr).add pre.length) u).run P w = .ok () (w.setCell ⟨p, pre.length, none⟩ u) := by
      rw [show (⟨p, 0, none⟩ : Addr).add pre.length = ⟨p, pre.length, none⟩ by rw [addr_add, Nat.zero_add]]
      rw [run_store P w _ u .plain (h1 u (by simp)), hc, hz]
      rfl
    have h2 := h.put (j := pre.length) (u := u) (by simp)
    have e1 : (pre ++ (o :: s ++ rest)).toArray.setIfInBounds pre.length u = ((pre ++ [u]) ++ (s ++ rest)).toArray := by simp
    rw [e1] at h2
    have h3 := run_store_all (P := P) r s (pre ++ [u]) rest (w.setCell ⟨p, pre.length, none⟩ u) h2 hf.put (by simpa using hl) (fun x hx => h1 x (by simp [hx]))
    rw [List.length_append] at h3
    unfold storeCells
    rw [Sem.run_bind, e]
    exact h3
/-- A store of a whole struct into a box of the call's own. -/
theorem wpList_store_box {P : Program} {w : World} {ops : Array Oper} {rest : List Oper} {o : Oper} {a : Act} {Q : Exit → Act → World → Prop} (hgd : o.guard = none) (t : TypeId) (x v : Operand) (ho : o.op = .store t x v)
    (p : Nat) (us old : List Value) (hx : a.eval x = .pointer (some ⟨p, 0, none⟩)) (hv : a.eval v = .agg us.toArray) (hfl : (Value.agg us.toArray).cells = us.toArray) (hsz : (sizeOf t).run P w = .ok us.length w)
    (h1 : ∀ u ∈ us, u.oneCell' = true) (hb : BoxAt w p old.toArray) (hf : FreeAt w p) (hl : us.length = old.length) (h : wpList P ops Q rest (a.put o.dst undef) (allStored p 0 us w)) : wpList P ops Q (o :: rest) a w :=
  wpList_plain hgd fun K hK => by
    have hr := run_store_all (P := P) us old [] [] w (by simpa using hb) hf hl h1
    have hs : (Instr.storeAt t (.pointer (some ⟨p, 0, none⟩)) (.agg us.toArray)).run P w = .ok () (allStored p 0 us w) := by
      unfold Instr.storeAt Instr.sureAddr storeVar
      simp only [Sem.run_bind, Sem.run_pure, Result.andThen_ok, hfl, hsz]
      simpa using hr
    unfold Oper.wp execOp
    simp only [ho, Sem.run_bind, Sem.run_pure, Result.andThen_ok, hx, hv, hs]
    exact hK _ _ h
end Go.Proofs.Ytcohfbdhdngplaa
/-
  Proved: a record of 22 cells that is stored into a box: the box holds it; its cells read.
-/
namespace Go.Proofs.Ytcohfbdhdngplaa
open Go.RowKit

set_option maxRecDepth 100000 in
theorem box22 {w : World} {p : Nat} {c0 c1 c2 c3 c4 c5 c6 c7 c8 c9 c10 c11 c12 c13 c14 c15 c16 c17 c18 c19 c20 c21 o0 o1 o2 o3 o4 o5 o6 o7 o8 o9 o10 o11 o12 o13 o14 o15 o16 o17 o18 o19 o20 o21 : Value} (X : BoxAt w p #[o0, o1, o2, o3, o4, o5, o6, o7, o8, o9, o10, o11, o12, o13, o14, o15, o16, o17, o18, o19, o20, o21]) : BoxAt (allStored p 0 [c0, c1, c2, c3, c4, c5, c6, c7, c8, c9, c10, c11, c12, c13, c14, c15, c16, c17, c18, c19, c20, c21] w) p #[c0, c1, c2, c3, c4, c5, c6, c7, c8, c9, c10, c11, c12, c13, c14, c15, c16, c17, c18, c19, c20, c21] := by
  have h := BoxAt.storeAll [c0, c1, c2, c3, c4, c5, c6, c7, c8, c9, c10, c11, c12, c13, c14, c15, c16, c17, c18, c19, c20, c21] [o0, o1, o2, o3, o4, o5, o6, o7, o8, o9, o10, o11, o12, o13, o14, o15, o16, o17, o18, o19, o20, o21] [] [] w (by rw [List.append_nil, List.nil_append]; exact X) (by simp only [List.length_cons, List.length_nil])
  rw [List.append_nil, List.nil_append] at h
  exact h
set_option maxRecDepth 100000 in
theorem st_0_9 {w : World} {p : Nat} {c0 c1 c2 c3 c4 c5 c6 c7 c8 o0 o1 o2 o3 o4 o5 o6 o7 o8 o9 o10 o11 o12 o13 o14 o15 o16 o17 o18 o19 o20 o21 : Value} (X : BoxAt w p #[o0, o1, o2, o3, o4, o5, o6, o7, o8, o9, o10, o11, o12, o13, o14, o15, o16, o17, o18, o19, o20, o21]) : BoxAt (((((((((w.setCell ⟨p, 0, none⟩ c0).setCell ⟨p, 1, none⟩ c1).setCell ⟨p, 2, none⟩ c2).setCell ⟨p, 3, none⟩ c3).setCell ⟨p, 4, none⟩ c4).setCell ⟨p, 5, none⟩ c5).setCell ⟨p, 6, none⟩ c6).setCell ⟨p, 7, none⟩ c7).setCell ⟨p, 8, none⟩ c8) p #[c0, c1, c2, c3, c4, c5, c6, c7, c8, o9, o10, o11, o12, o13, o14, o15, o16, o17, o18, o19, o20, o21] := by
  have h := BoxAt.storeAll [c0, c1, c2, c3, c4, c5, c6, c7, c8] [o0, o1, o2, o3, o4, o5, o6, o7, o8] [] [o9, o10, o11, o12, o13, o14, o15, o16, o17, o18, o19, o20, o21] w (by simp only [List.cons_append, List.nil_append]; exact X) (by simp only [List.length_cons, List.length_nil])
  simp only [List.cons_append, List.nil_append, List.length_nil, allStored, Nat.zero_add, Nat.reduceAdd] at h
  exact h
set_option maxRecDepth 100000 in
theorem st_9_1 {w : World} {p : Nat} {c0 c1 c2 c3 c4 c5 c6 c7 c8 c9 o9 o10 o11 o12 o13 o14 o15 o16 o17 o18 o19 o20 o21 : Value} (X : BoxAt w p #[c0, c1, c2, c3, c4, c5, c6, c7, c8, o9, o10, o11, o12, o13, o14, o15, o16, o17, o18, o19, o20, o21]) : BoxAt (w.setCell ⟨p, 9, none⟩ c9) p #[c0, c1, c2, c3, c4, c5, c6, c7, c8, c9, o10, o11, o12, o13, o14, o15, o16, o17, o18, o19, o20, o21] := by
  have h := BoxAt.storeAll [c9] [o9] [c0, c1, c2, c3, c4, c5, c6, c7, c8] [o10, o11, o12, o13, o14, o15, o16, o17, o18, o19, o20, o21] w (by simp only [List.cons_append, List.nil_append]; exact X) (by simp only [List.length_cons, List.length_nil])
  simp only [List.cons_append, List.nil_append, List.length_cons, List.length_nil, allStored, Nat.zero_add, Nat.reduceAdd] at h
  exact h
set_option maxRecDepth 100000 in
theorem st_10_6 {w : World} {p : Nat} {c0 c1 c2 c3 c4 c5 c6 c7 c8 c9 c10 c11 c12 c13 c14 c15 o10 o11 o12 o13 o14 o15 o16 o17 o18 o19 o20 o21 : Value} (X : BoxAt w p #[c0, c1, c2, c3, c4, c5, c6, c7, c8, c9, o10, o11, o12, o13, o14, o15, o16, o17, o18, o19, o20, o21]) : BoxAt ((((((w.setCell ⟨p, 10, none⟩ c10).setCell ⟨p, 11, none⟩ c11).setCell ⟨p, 12, none⟩ c12).setCell ⟨p, 13, none⟩ c13).setCell ⟨p, 14, none⟩ c14).setCell ⟨p, 15, none⟩ c15) p #[c0, c1, c2, c3, c4, c5, c6, c7, c8, c9, c10, c11, c12, c13, c14, c15, o16, o17, o18, o19, o20, o21] := by
  have h := BoxAt.storeAll [c10, c11, c12, c13, c14, c15] [o10, o11, o12, o13, o14, o15] [c0, c1, c2, c3, c4, c5, c6, c7, c8, c9] [o16, o17, o18, o19, o20, o21] w (by simp only [List.cons_append, List.nil_append]; exact X) (by simp only [List.length_cons, List.length_nil])
  simp only [List.cons_append, List.nil_append, List.length_cons, List.length_nil, allStored, Nat.zero_add, Nat.reduceAdd] at h
  exact h
set_option maxRecDepth 100000 in
theorem st_16_6 {w : World} {p : Nat} {c0 c1 c2 c3 c4 c5 c6 c7 c8 c9 c10 c11 c12 c13 c14 c15 c16 c17 c18 c19 c20 c21 o16 o17 o18 o19 o20 o21 : Value} (X : BoxAt w p #[c0, c1, c2, c3, c4, c5, c6, c7, c8, c9, c10, c11, c12, c13, c14, c15, o16, o17, o18, o19, o20, o21]) : BoxAt ((((((w.setCell ⟨p, 16, none⟩ c16).setCell ⟨p, 17, none⟩ c17).setCell ⟨p, 18, none⟩ c18).setCell ⟨p, 19, none⟩ c19).setCell ⟨p, 20, none⟩ c20).setCell ⟨p, 21, none⟩ c21) p #[c0, c1, c2, c3, c4, c5, c6, c7, c8, c9, c10, c11, c12, c13, c14, c15, c16, c17, c18, c19, c20, c21] := by
  have h := BoxAt.storeAll [c16, c17, c18, c19, c20, c21] [o16, o17, o18, o19, o20, o21] [c0, c1, c2, c3, c4, c5, c6, c7, c8, c9, c10, c11, c12, c13, c14, c15] [] w (by simp only [List.cons_append, List.nil_append, List.append_nil]; exact X) (by simp only [List.length_cons, List.length_nil])
  simp only [List.cons_append, List.nil_append, List.append_nil, List.length_cons, List.length_nil, allStored, Nat.zero_add, Nat.reduceAdd] at h
  exact h
end Go.Proofs.Ytcohfbdhdngplaa
/-
  Proved: spec.NewSession and impl.NewSession give a session whose history is the edit of one hole, with nothing else in it; laws.markSession, laws.heldSession and laws.eqSession on such a session.
-/
namespace Go.Proofs.Ytcohfbdhdngplaa
open Go.RowKit

theorem zero_own (w : World) : ExOwn w 2 (.agg #[.int .i64 0, .string ⟨#[]⟩, .int .i64 0, .int .i64 0, .slice none 0 0, .slice none 0 0]) (.node 0 ⟨#[]⟩ 0 (.node 0 []) []) [] := by
  refine ⟨.int .i64 0, .slice none 0 0, .slice none 0 0, [], [], rfl, by omega, by omega, by omega, by omega, by decide, rfl, ?_, ?_⟩
  · exact ⟨_, rfl, by omega, by omega, none, 0, [], [], rfl, Nat.le_refl _, by omega, rfl, rfl, (fun b hb => by cases hb), fun j hj => by simp at hj⟩
  · exact ⟨none, 0, [], [], rfl, Nat.le_refl _, by omega, rfl, rfl, (fun b hb => by cases hb), fun j hj => by simp at hj⟩
theorem zero_wt : Ex.wt (.node 0 ⟨#[]⟩ 0 (.node 0 []) []) = 0 := by simp [Ex.wt, Ex.wts, Ty.size, Ty.sizes]
theorem zero_mark (k : Int) : Ex.markIn (.node 0 ⟨#[]⟩ 0 (.node 0 []) []) k = (.node 0 ⟨#[]⟩ 0 (.node 0 []) []) := by simp [Ex.markIn, Ty.markIn, Ty.marks, Ex.marks]
theorem leaf_ewt : Edi.wt (⟨(.node 1 ⟨#[]⟩ 1 (.node 0 []) []), []⟩ : Edi) = 0 := by show Ex.wt _ + 0 = 0; rw [leaf_wt]
theorem leaf_emark (k : Int) : Edi.markIn (⟨(.node 1 ⟨#[]⟩ 1 (.node 0 []) []), []⟩ : Edi) k = (⟨(.node 1 ⟨#[]⟩ 1 (.node 0 []) []), []⟩ : Edi) := by simp [Edi.markIn, leaf_mark, imarks]
theorem leaf_ebulk : Edi.bulk (⟨(.node 1 ⟨#[]⟩ 1 (.node 0 []) []), []⟩ : Edi) ≤ 1048576 := by
  simp [Edi.bulk, Ex.bulk, Ex.bulks, Ty.size, Ty.sizes]
  exact Nat.zero_le _
theorem Kept.again {lo hi : Nat} {w w1 w2 : World} (h1 : Kept lo hi w w1) (h2 : Kept lo hi w1 w2) : Kept lo hi w w2 :=
  ⟨Nat.le_trans h1.1 h2.1, fun b hb ho => (h2.2 b (Nat.lt_of_lt_of_le hb h1.1) ho).trans (h1.2 b hb ho)⟩
set_option maxRecDepth 100000 in
set_option maxHeartbeats 1000000 in
theorem markTests0 (k : Int) (w : World) :
    Calls Try.prog 106 #[.slice none 0 0, .int .i64 k] w fun e w' => e = .returned (.int .i64 k) ∧ Below w.heap.size w w' := by
  go_enter Try.func106, Try.ntmps106
  go_wp2_with fail
  go_loop [1, 5] (fun m i => m = .int .i64 k ∧ i = .int .i64 0) (fun _ _ => 0)
  case atStart => exact ⟨rfl, rfl⟩
  case round =>
    obtain ⟨rfl, rfl⟩ := hrel
    go_wp2_with fail
    go_ret
    exact ⟨rfl, Below.refl _ _⟩
set_option maxRecDepth 100000 in
set_option maxHeartbeats 1000000 in
theorem heldTests0 (k : Int) (w : World) :
    Calls Try.prog 107 #[.slice none 0 0, .int .i64 k] w fun e w' => e = .returned (.int .i64 k) ∧ Below w.heap.size w w' := by
  go_enter Try.func107, Try.ntmps107
  go_wp2_with fail
  go_loop [1, 5] (fun m i => m = .int .i64 k ∧ i = .int .i64 0) (fun _ _ => 0)
  case atStart => exact ⟨rfl, rfl⟩
  case round =>
    obtain ⟨rfl, rfl⟩ := hrel
    go_wp2_with fail
    go_ret
    exact ⟨rfl, Below.refl _ _⟩
theorem markZero (w : World) : Calls Try.prog 16 #[.agg #[.int .i64 0, .string ⟨#[]⟩, .int .i64 0, .int .i64 0, .slice none 0 0, .slice none 0 0], .int .i64 1] w fun e w' => e = .returned (.int .i64 1) ∧ Below w.heap.size w w' := by
  refine (markEx w.heap.size 2 _ _ [] 1 w (Nat.le_refl _) (fun b hb => by cases hb) List.nodup_nil (by omega) (by rw [zero_wt]; omega) (zero_own _)).mono ?_
  rintro e w1 ⟨rfl, _, hb0, hout⟩
  rw [zero_wt]
  exact ⟨by simp, hb0⟩
theorem heldZero (w : World) : Calls Try.prog 21 #[.agg #[.int .i64 0, .string ⟨#[]⟩, .int .i64 0, .int .i64 0, .slice none 0 0, .slice none 0 0], .int .i64 1] w fun e w' => e = .returned (.int .i64 1) ∧ Below w.heap.size w w' := by
  refine (heldEx 2 _ (.node 0 ⟨#[]⟩ 0 (.node 0 []) []) 1 _ (by omega) (by rw [zero_wt]; omega) (by rw [zero_mark]; exact (zero_own _).at_)).mono ?_
  rintro e w1 ⟨rfl, hb⟩
  rw [zero_wt]
  exact ⟨by simp, hb⟩
set_option maxRecDepth 100000 in
set_option maxHeartbeats 4000000 in
theorem markSesNew (B lo hi : Nat) (w : World) {xk xn xtk : Int} {xnm : ByteArray} {xta xsa xpa : Option Addr} {xtn xtc xsn xsc xpn xpc : Nat} (hB : B ≤ lo) (hBw : B ≤ w.heap.size) (h : EditIn w 2 (.agg #[.int .i64 xk, .string xnm, .int .i64 xn, .int .i64 xtk, .slice xta xtn xtc, .slice xsa xsn xsc, .slice xpa xpn xpc]) (⟨(.node 1 ⟨#[]⟩ 1 (.node 0 []) []), []⟩ : Edi) lo hi) :
    Calls Try.prog 47 #[.agg #[.slice none 0 0, .int .i64 xk, .string xnm, .int .i64 xn, .int .i64 xtk, .slice xta xtn xtc, .slice xsa xsn xsc, .slice xpa xpn xpc, .slice none 0 0, .slice none 0 0, .int .i64 0, .string ⟨#[]⟩, .int .i64 0, .int .i64 0, .slice none 0 0, .slice none 0 0, .int .i64 0, .string ⟨#[]⟩, .int .i64 0, .int .i64 0, .slice none 0 0, .slice none 0 0], .int .i64 1] w fun e w' => e = .returned (.int .i64 1) ∧ EditIn w' 2 (.agg #[.int .i64 xk, .string xnm, .int .i64 xn, .int .i64 xtk, .slice xta xtn xtc, .slice xsa xsn xsc, .slice xpa xpn xpc]) (⟨(.node 1 ⟨#[]⟩ 1 (.node 0 []) []), []⟩ : Edi) lo hi ∧ Below B w w' ∧ Kept lo hi w w' := by
  have hhi := h.top
  have HE := Lib.hid (h.below (below_alloc w (.cells #[.slice none 0 0, .int .i64 xk, .string xnm, .int .i64 xn, .int .i64 xtk, .slice xta xtn xtc, .slice xsa xsn xsc, .slice xpa xpn xpc, .slice none 0 0, .slice none 0 0, .int .i64 0, .string ⟨#[]⟩, .int .i64 0, .int .i64 0, .slice none 0 0, .slice none 0 0, .int .i64 0, .string ⟨#[]⟩, .int .i64 0, .int .i64 0, .slice none 0 0, .slice none 0 0] 86)))
  have XA : Hid (BoxAt (w.alloc (.cells #[.slice none 0 0, .int .i64 xk, .string xnm, .int .i64 xn, .int .i64 xtk, .slice xta xtn xtc, .slice xsa xsn xsc, .slice xpa xpn xpc, .slice none 0 0, .slice none 0 0, .int .i64 0, .string ⟨#[]⟩, .int .i64 0, .int .i64 0, .slice none 0 0, .slice none 0 0, .int .i64 0, .string ⟨#[]⟩, .int .i64 0, .int .i64 0, .slice none 0 0, .slice none 0 0] 86)) w.heap.size #[.slice none 0 0, .int .i64 xk, .string xnm, .int .i64 xn, .int .i64 xtk, .slice xta xtn xtc, .slice xsa xsn xsc, .slice xpa xpn xpc, .slice none 0 0, .slice none 0 0, .int .i64 0, .string ⟨#[]⟩, .int .i64 0, .int .i64 0, .slice none 0 0, .slice none 0 0, .int .i64 0, .string ⟨#[]⟩, .int .i64 0, .int .i64 0, .slice none 0 0, .slice none 0 0]) := BoxAt.new _ _ _
  have K : Hid (Kept lo hi w (w.alloc (.cells #[.slice none 0 0, .int .i64 xk, .string xnm, .int .i64 xn, .int .i64 xtk, .slice xta xtn xtc, .slice xsa xsn xsc, .slice xpa xpn xpc, .slice none 0 0, .slice none 0 0, .int .i64 0, .string ⟨#[]⟩, .int .i64 0, .int .i64 0, .slice none 0 0, .slice none 0 0, .int .i64 0, .string ⟨#[]⟩, .int .i64 0, .int .i64 0, .slice none 0 0, .slice none 0 0] 86))) := Kept.of_below (below_alloc _ _) ⟨Nat.le_refl _, fun _ _ _ => rfl⟩
  have G : Hid (Below B w (w.alloc (.cells #[.slice none 0 0, .int .i64 xk, .string xnm, .int .i64 xn, .int .i64 xtk, .slice xta xtn xtc, .slice xsa xsn xsc, .slice xpa xpn xpc, .slice none 0 0, .slice none 0 0, .int .i64 0, .string ⟨#[]⟩, .int .i64 0, .int .i64 0, .slice none 0 0, .slice none 0 0, .int .i64 0, .string ⟨#[]⟩, .int .i64 0, .int .i64 0, .slice none 0 0, .slice none 0 0] 86))) := (Below.refl _ _).alloc hBw _
  have hz : (w.alloc (.cells #[.slice none 0 0, .int .i64 xk, .string xnm, .int .i64 xn, .int .i64 xtk, .slice xta xtn xtc, .slice xsa xsn xsc, .slice xpa xpn xpc, .slice none 0 0, .slice none 0 0, .int .i64 0, .string ⟨#[]⟩, .int .i64 0, .int .i64 0, .slice none 0 0, .slice none 0 0, .int .i64 0, .string ⟨#[]⟩, .int .i64 0, .int .i64 0, .slice none 0 0, .slice none 0 0] 86)).heap.size = w.heap.size + 1 := by simp
  have HZ := Lib.hid hz; clear hz h
  go_enter Try.func47, Try.ntmps47
  have c0 := XA.out.2 0
  have c1 := XA.out.2 1
  have c2 := XA.out.2 2
  have c3 := XA.out.2 3
  have c4 := XA.out.2 4
  have c5 := XA.out.2 5
  have c6 := XA.out.2 6
  have c7 := XA.out.2 7
  have c8 := XA.out.2 8
  go_wp2_with fail
  clear c0 c1 c2 c3 c4 c5 c6 c7 c8
  refine (markHis0 B 2 (⟨(.node 1 ⟨#[]⟩ 1 (.node 0 []) []), []⟩ : Edi) lo hi 1 _ hB (by have := HZ.out; omega) (by omega) (by rw [leaf_ewt]; omega) leaf_ebulk HE.out).mono ?_
  rintro e w1 ⟨rfl, hm, hb0, hk⟩
  rw [leaf_ewt]
  rw [leaf_emark] at hm
  replace HE := Lib.hid hm
  replace K := Lib.hid (K.out.again hk)
  replace G := Lib.hid (G.out.trans hb0)
  replace XA := Lib.hid (XA.out.beside hk (Or.inr hhi))
  have hz1 := hk.1
  clear hm hb0 hk
  have c9 := XA.out.2 9
  go_wp2_with fail
  clear c9
  refine (markTests0 _ _).mono ?_
  rintro e w2 ⟨rfl, hb⟩
  replace HE := Lib.hid (HE.out.below hb)
  replace K := Lib.hid (K.out.onto hb)
  replace G := Lib.hid (below_on G.out hb (by have := G.out.size; omega))
  replace XA := Lib.hid (XA.out.below hb)
  clear hb
  have c10 := XA.out.2 10
  have c11 := XA.out.2 11
  have c12 := XA.out.2 12
  have c13 := XA.out.2 13
  have c14 := XA.out.2 14
  have c15 := XA.out.2 15
  go_wp2_with fail
  clear c10 c11 c12 c13 c14 c15
  refine (markZero _).mono ?_
  rintro e w3 ⟨rfl, hb⟩
  replace HE := Lib.hid (HE.out.below hb)
  replace K := Lib.hid (K.out.onto hb)
  replace G := Lib.hid (below_on G.out hb (by have := G.out.size; omega))
  replace XA := Lib.hid (XA.out.below hb)
  clear hb
  have c16 := XA.out.2 16
  have c17 := XA.out.2 17
  have c18 := XA.out.2 18
  have c19 := XA.out.2 19
  have c20 := XA.out.2 20
  have c21 := XA.out.2 21
  go_wp2_with fail
  clear c16 c17 c18 c19 c20 c21
  refine (markZero _).mono ?_
  rintro e w4 ⟨rfl, hb⟩
  replace HE := Lib.hid (HE.out.below hb)
  replace K := Lib.hid (K.out.onto hb)
  replace G := Lib.hid (below_on G.out hb (by have := G.out.size; omega))
  replace XA := Lib.hid (XA.out.below hb)
  clear hb
  go_wp2_with fail
  go_ret
  exact ⟨rfl, HE.out, G.out, K.out⟩
set_option maxRecDepth 100000 in
set_option maxHeartbeats 4000000 in
theorem heldSesNew (w : World) {xk xn xtk : Int} {xnm : ByteArray} {xta xsa xpa : Option Addr} {xtn xtc xsn xsc xpn xpc : Nat} (h : EditAt w 2 (.agg #[.int .i64 xk, .string xnm, .int .i64 xn, .int .i64 xtk, .slice xta xtn xtc, .slice xsa xsn xsc, .slice xpa xpn xpc]) (⟨(.node 1 ⟨#[]⟩ 1 (.node 0 []) []), []⟩ : Edi)) :
    Calls Try.prog 48 #[.agg #[.slice none 0 0, .int .i64 xk, .string xnm, .int .i64 xn, .int .i64 xtk, .slice xta xtn xtc, .slice xsa xsn xsc, .slice xpa xpn xpc, .slice none 0 0, .slice none 0 0, .int .i64 0, .string ⟨#[]⟩, .int .i64 0, .int .i64 0, .slice none 0 0, .slice none 0 0, .int .i64 0, .string ⟨#[]⟩, .int .i64 0, .int .i64 0, .slice none 0 0, .slice none 0 0], .int .i64 1] w fun e w' => e = .returned (.int .i64 1) ∧ Below w.heap.size w w' := by
  have HE := Lib.hid (h.below (below_alloc w (.cells #[.slice none 0 0, .int .i64 xk, .string xnm, .int .i64 xn, .int .i64 xtk, .slice xta xtn xtc, .slice xsa xsn xsc, .slice xpa xpn xpc, .slice none 0 0, .slice none 0 0, .int .i64 0, .string ⟨#[]⟩, .int .i64 0, .int .i64 0, .slice none 0 0, .slice none 0 0, .int .i64 0, .string ⟨#[]⟩, .int .i64 0, .int .i64 0, .slice none 0 0, .slice none 0 0] 86)))
  have XA : Hid (BoxAt (w.alloc (.cells #[.slice none 0 0, .int .i64 xk, .string xnm, .int .i64 xn, .int .i64 xtk, .slice xta xtn xtc, .slice xsa xsn xsc, .slice xpa xpn xpc, .slice none 0 0, .slice none 0 0, .int .i64 0, .string ⟨#[]⟩, .int .i64 0, .int .i64 0, .slice none 0 0, .slice none 0 0, .int .i64 0, .string ⟨#[]⟩, .int .i64 0, .int .i64 0, .slice none 0 0, .slice none 0 0] 86)) w.heap.size #[.slice none 0 0, .int .i64 xk, .string xnm, .int .i64 xn, .int .i64 xtk, .slice xta xtn xtc, .slice xsa xsn xsc, .slice xpa xpn xpc, .slice none 0 0, .slice none 0 0, .int .i64 0, .string ⟨#[]⟩, .int .i64 0, .int .i64 0, .slice none 0 0, .slice none 0 0, .int .i64 0, .string ⟨#[]⟩, .int .i64 0, .int .i64 0, .slice none 0 0, .slice none 0 0]) := BoxAt.new _ _ _
  have G : Hid (Below w.heap.size w (w.alloc (.cells #[.slice none 0 0, .int .i64 xk, .string xnm, .int .i64 xn, .int .i64 xtk, .slice xta xtn xtc, .slice xsa xsn xsc, .slice xpa xpn xpc, .slice none 0 0, .slice none 0 0, .int .i64 0, .string ⟨#[]⟩, .int .i64 0, .int .i64 0, .slice none 0 0, .slice none 0 0, .int .i64 0, .string ⟨#[]⟩, .int .i64 0, .int .i64 0, .slice none 0 0, .slice none 0 0] 86))) := below_alloc _ _
  clear h
  go_enter Try.func48, Try.ntmps48
  have c0 := XA.out.2 0
  have c1 := XA.out.2 1
  have c2 := XA.out.2 2
  have c3 := XA.out.2 3
  have c4 := XA.out.2 4
  have c5 := XA.out.2 5
  have c6 := XA.out.2 6
  have c7 := XA.out.2 7
  have c8 := XA.out.2 8
  go_wp2_with fail
  clear c0 c1 c2 c3 c4 c5 c6 c7 c8
  refine (heldHis0 2 (⟨(.node 1 ⟨#[]⟩ 1 (.node 0 []) []), []⟩ : Edi) 1 _ (by omega) (by rw [leaf_ewt]; omega) leaf_ebulk (by rw [leaf_emark]; exact HE.out)).mono ?_
  rintro e w1 ⟨rfl, hb⟩
  rw [leaf_ewt]
  clear HE
  replace G := Lib.hid (below_thru G.out (Nat.le_refl _) hb)
  replace XA := Lib.hid (XA.out.below hb)
  clear hb
  have c9 := XA.out.2 9
  go_wp2_with fail
  clear c9
  refine (heldTests0 _ _).mono ?_
  rintro e w2 ⟨rfl, hb⟩
  replace G := Lib.hid (below_thru G.out (Nat.le_refl _) hb)
  replace XA := Lib.hid (XA.out.below hb)
  clear hb
  have c10 := XA.out.2 10
  have c11 := XA.out.2 11
  have c12 := XA.out.2 12
  have c13 := XA.out.2 13
  have c14 := XA.out.2 14
  have c15 := XA.out.2 15
  go_wp2_with fail
  clear c10 c11 c12 c13 c14 c15
  refine (heldZero _).mono ?_
  rintro e w3 ⟨rfl, hb⟩
  replace G := Lib.hid (below_thru G.out (Nat.le_refl _) hb)
  replace XA := Lib.hid (XA.out.below hb)
  clear hb
  have c16 := XA.out.2 16
  have c17 := XA.out.2 17
  have c18 := XA.out.2 18
  have c19 := XA.out.2 19
  have c20 := XA.out.2 20
  have c21 := XA.out.2 21
  go_wp2_with fail
  clear c16 c17 c18 c19 c20 c21
  refine (heldZero _).mono ?_
  rintro e w4 ⟨rfl, hb⟩
  replace G := Lib.hid (below_thru G.out (Nat.le_refl _) hb)
  replace XA := Lib.hid (XA.out.below hb)
  clear hb
  go_wp2_with fail
  go_ret
  exact ⟨rfl, G.out⟩
def newSes : Ses := ⟨⟨[], ⟨(.node 1 ⟨#[]⟩ 1 (.node 0 []) []), []⟩, []⟩, [], .node 0 ⟨#[]⟩ 0 (.node 0 []) [], .node 0 ⟨#[]⟩ 0 (.node 0 []) []⟩
theorem tsts_none (w : World) (d : Nat) : TstsAt w d (.slice none 0 0) [] := ⟨none, 0, rfl, Nat.le_refl _, by omega, fun j h => absurd h (by simp)⟩
theorem newSes_at {w : World} {xk xn xtk : Int} {xnm : ByteArray} {xta xsa xpa : Option Addr} {xtn xtc xsn xsc xpn xpc : Nat} (h : EditAt w 2 (.agg #[.int .i64 xk, .string xnm, .int .i64 xn, .int .i64 xtk, .slice xta xtn xtc, .slice xsa xsn xsc, .slice xpa xpn xpc]) (⟨(.node 1 ⟨#[]⟩ 1 (.node 0 []) []), []⟩ : Edi)) : SesAt w 2 (.agg #[.slice none 0 0, .int .i64 xk, .string xnm, .int .i64 xn, .int .i64 xtk, .slice xta xtn xtc, .slice xsa xsn xsc, .slice xpa xpn xpc, .slice none 0 0, .slice none 0 0, .int .i64 0, .string ⟨#[]⟩, .int .i64 0, .int .i64 0, .slice none 0 0, .slice none 0 0, .int .i64 0, .string ⟨#[]⟩, .int .i64 0, .int .i64 0, .slice none 0 0, .slice none 0 0]) newSes :=
  ⟨_, _, _, _, _, _, _, _, _, _, _, _, _, _, _, _, _, _, _, _, _, _, _, _, _, _, _, _, _, _, _, _, _, _, _, _, _, _, _, _, _, _, rfl,
   ⟨_, _, _, _, _, _, _, _, _, _, _, _, _, _, _, _, _, _, _, rfl, edts_none _ _, edt_of_edit h, edts_none _ _⟩, tsts_none _ _, (zero_own _).at_, (zero_own _).at_⟩
theorem leaf_any {w w' : World} {v : Value} (h : EditAt w 2 v (⟨(.node 1 ⟨#[]⟩ 1 (.node 0 []) []), []⟩ : Edi)) : EditAt w' 2 v (⟨(.node 1 ⟨#[]⟩ 1 (.node 0 []) []), []⟩ : Edi) := by
  obtain ⟨k, nm, n, tk, ta, tn, tc, sa, sn, sc, pa, pn, pc, hv, he, hp, hl⟩ := h
  obtain ⟨c3, c4, sl, hv2, b0, b1, b2, b3, b4, hty, a, cap, hsl, b5, b6, _⟩ := he
  obtain ⟨sl2, hv3, d0, d1, a2, cap2, hsl2, d2, d3, _⟩ := hty
  obtain ⟨a3, cap3, hv4, e1, _⟩ := hp
  exact ⟨k, nm, n, tk, ta, tn, tc, sa, sn, sc, pa, pn, pc, hv, ⟨c3, c4, sl, hv2, b0, b1, b2, b3, b4, ⟨sl2, hv3, d0, d1, a2, cap2, hsl2, d2, d3, fun j hj => absurd hj (by simp)⟩, a, cap, hsl, b5, b6, fun j hj => absurd hj (by simp)⟩, ⟨a3, cap3, hv4, e1, fun j hj => absurd hj (by simp)⟩, hl⟩
theorem kept_all {p : Nat} : ∀ (us : List Value) (j : Nat) (w : World), Kept p (p + 1) w (allStored p j us w)
  | [], _, w => ⟨Nat.le_refl _, fun _ _ _ => rfl⟩
  | u :: r, j, w => by
    have h := kept_all (p := p) r (j + 1) (w.setCell ⟨p, j, none⟩ u)
    exact ⟨by rw [size_storeAll]; exact Nat.le_refl _, fun b hb ho => (h.2 b (by simpa using hb) ho).trans (heap_setCell_other _ _ _ _ (show b ≠ p by omega))⟩
set_option maxRecDepth 100000 in
set_option maxHeartbeats 4000000 in
theorem specNewSes (w : World) : Calls Try.prog 44 #[] w fun e w' => ∃ yk ynm yn ytk yta ytn ytc ysa ysn ysc ypa ypn ypc, e = .returned (.agg #[.slice none 0 0, .int .i64 yk, .string ynm, .int .i64 yn, .int .i64 ytk, .slice yta ytn ytc, .slice ysa ysn ysc, .slice ypa ypn ypc, .slice none 0 0, .slice none 0 0, .int .i64 0, .string ⟨#[]⟩, .int .i64 0, .int .i64 0, .slice none 0 0, .slice none 0 0, .int .i64 0, .string ⟨#[]⟩, .int .i64 0, .int .i64 0, .slice none 0 0, .slice none 0 0]) ∧ EditAt w' 2 (.agg #[.int .i64 yk, .string ynm, .int .i64 yn, .int .i64 ytk, .slice yta ytn ytc, .slice ysa ysn ysc, .slice ypa ypn ypc]) (⟨(.node 1 ⟨#[]⟩ 1 (.node 0 []) []), []⟩ : Edi) ∧ Below w.heap.size w w' := by
  have G : Hid (Below w.heap.size w (w.alloc (.cells #[.slice none 0 0, .int .i64 0, .string ⟨#[]⟩, .int .i64 0, .int .i64 0, .slice none 0 0, .slice none 0 0, .slice none 0 0, .slice none 0 0, .slice none 0 0, .int .i64 0, .string ⟨#[]⟩, .int .i64 0, .int .i64 0, .slice none 0 0, .slice none 0 0, .int .i64 0, .string ⟨#[]⟩, .int .i64 0, .int .i64 0, .slice none 0 0, .slice none 0 0] 86))) := below_alloc _ _
  have XR : Hid (BoxAt (w.alloc (.cells #[.slice none 0 0, .int .i64 0, .string ⟨#[]⟩, .int .i64 0, .int .i64 0, .slice none 0 0, .slice none 0 0, .slice none 0 0, .slice none 0 0, .slice none 0 0, .int .i64 0, .string ⟨#[]⟩, .int .i64 0, .int .i64 0, .slice none 0 0, .slice none 0 0, .int .i64 0, .string ⟨#[]⟩, .int .i64 0, .int .i64 0, .slice none 0 0, .slice none 0 0] 86)) w.heap.size #[.slice none 0 0, .int .i64 0, .string ⟨#[]⟩, .int .i64 0, .int .i64 0, .slice none 0 0, .slice none 0 0, .slice none 0 0, .slice none 0 0, .slice none 0 0, .int .i64 0, .string ⟨#[]⟩, .int .i64 0, .int .i64 0, .slice none 0 0, .slice none 0 0, .int .i64 0, .string ⟨#[]⟩, .int .i64 0, .int .i64 0, .slice none 0 0, .slice none 0 0]) := BoxAt.new _ _ _
  have FR : Hid (FreeAt (w.alloc (.cells #[.slice none 0 0, .int .i64 0, .string ⟨#[]⟩, .int .i64 0, .int .i64 0, .slice none 0 0, .slice none 0 0, .slice none 0 0, .slice none 0 0, .slice none 0 0, .int .i64 0, .string ⟨#[]⟩, .int .i64 0, .int .i64 0, .slice none 0 0, .slice none 0 0, .int .i64 0, .string ⟨#[]⟩, .int .i64 0, .int .i64 0, .slice none 0 0, .slice none 0 0] 86)) w.heap.size) := FreeAt.new _ _ _
  go_enter Try.func44, Try.ntmps44
  go_wp2_with fail
  refine (specStartEdit _).mono ?_
  rintro e w1 ⟨rfl, hb⟩
  have hz1 := hb.size
  simp only [World.size_alloc] at hz1
  replace G := Lib.hid (below_thru G.out (Nat.le_refl _) hb)
  replace XR := Lib.hid (XR.out.below hb)
  replace FR := Lib.hid (FR.out.below hb)
  clear hb
  go_wp2_with fail
  refine (specStart 2 _ (⟨(.node 1 ⟨#[]⟩ 1 (.node 0 []) []), []⟩ : Edi) _ (leaf_edit _) leaf_ebulk).mono ?_
  rintro e w2 ⟨yk, ynm, yn, ytk, yta, ytn, ytc, ysa, ysn, ysc, ypa, ypn, ypc, rfl, hv, hb⟩
  have HV := Lib.hid hv
  have hz2 := hb.size
  replace G := Lib.hid (below_thru G.out (Nat.le_refl _) hb)
  replace XR := Lib.hid (XR.out.below hb)
  replace FR := Lib.hid (FR.out.below hb)
  clear hb hv
  go_wp2_with (refine wpList_store_box rfl _ _ _ rfl w.heap.size [.slice none 0 0, .int .i64 yk, .string ynm, .int .i64 yn, .int .i64 ytk, .slice yta ytn ytc, .slice ysa ysn ysc, .slice ypa ypn ypc, .slice none 0 0, .slice none 0 0, .int .i64 0, .string ⟨#[]⟩, .int .i64 0, .int .i64 0, .slice none 0 0, .slice none 0 0, .int .i64 0, .string ⟨#[]⟩, .int .i64 0, .int .i64 0, .slice none 0 0, .slice none 0 0] [.slice none 0 0, .int .i64 0, .string ⟨#[]⟩, .int .i64 0, .int .i64 0, .slice none 0 0, .slice none 0 0, .slice none 0 0, .slice none 0 0, .slice none 0 0, .int .i64 0, .string ⟨#[]⟩, .int .i64 0, .int .i64 0, .slice none 0 0, .slice none 0 0, .int .i64 0, .string ⟨#[]⟩, .int .i64 0, .int .i64 0, .slice none 0 0, .slice none 0 0] rfl rfl rfl (by kernel_rfl) (fun u hu => by simp only [List.mem_cons, List.not_mem_nil, or_false] at hu; rcases hu with rfl | rfl | rfl | rfl | rfl | rfl | rfl | rfl | rfl | rfl | rfl | rfl | rfl | rfl | rfl | rfl | rfl | rfl | rfl | rfl | rfl | rfl <;> rfl) XR.out FR.out rfl ?_)
  have XF : BoxAt (allStored w.heap.size 0 [.slice none 0 0, .int .i64 yk, .string ynm, .int .i64 yn, .int .i64 ytk, .slice yta ytn ytc, .slice ysa ysn ysc, .slice ypa ypn ypc, .slice none 0 0, .slice none 0 0, .int .i64 0, .string ⟨#[]⟩, .int .i64 0, .int .i64 0, .slice none 0 0, .slice none 0 0, .int .i64 0, .string ⟨#[]⟩, .int .i64 0, .int .i64 0, .slice none 0 0, .slice none 0 0] w2) w.heap.size #[.slice none 0 0, .int .i64 yk, .string ynm, .int .i64 yn, .int .i64 ytk, .slice yta ytn ytc, .slice ysa ysn ysc, .slice ypa ypn ypc, .slice none 0 0, .slice none 0 0, .int .i64 0, .string ⟨#[]⟩, .int .i64 0, .int .i64 0, .slice none 0 0, .slice none 0 0, .int .i64 0, .string ⟨#[]⟩, .int .i64 0, .int .i64 0, .slice none 0 0, .slice none 0 0] := box22 XR.out
  have GF := Lib.hid (Below.storeAll [.slice none 0 0, .int .i64 yk, .string ynm, .int .i64 yn, .int .i64 ytk, .slice yta ytn ytc, .slice ysa ysn ysc, .slice ypa ypn ypc, .slice none 0 0, .slice none 0 0, .int .i64 0, .string ⟨#[]⟩, .int .i64 0, .int .i64 0, .slice none 0 0, .slice none 0 0, .int .i64 0, .string ⟨#[]⟩, .int .i64 0, .int .i64 0, .slice none 0 0, .slice none 0 0] 0 w2 G.out (Nat.le_refl w.heap.size))
  have hzf := size_storeAll (p := w.heap.size) [.slice none 0 0, .int .i64 yk, .string ynm, .int .i64 yn, .int .i64 ytk, .slice yta ytn ytc, .slice ysa ysn ysc, .slice ypa ypn ypc, .slice none 0 0, .slice none 0 0, .int .i64 0, .string ⟨#[]⟩, .int .i64 0, .int .i64 0, .slice none 0 0, .slice none 0 0, .int .i64 0, .string ⟨#[]⟩, .int .i64 0, .int .i64 0, .slice none 0 0, .slice none 0 0] 0 w2
  have HF := Lib.hid (leaf_any (w' := allStored w.heap.size 0 [.slice none 0 0, .int .i64 yk, .string ynm, .int .i64 yn, .int .i64 ytk, .slice yta ytn ytc, .slice ysa ysn ysc, .slice ypa ypn ypc, .slice none 0 0, .slice none 0 0, .int .i64 0, .string ⟨#[]⟩, .int .i64 0, .int .i64 0, .slice none 0 0, .slice none 0 0, .int .i64 0, .string ⟨#[]⟩, .int .i64 0, .int .i64 0, .slice none 0 0, .slice none 0 0] w2) HV.out)
  clear hzf G XR FR
  generalize allStored w.heap.size 0 [.slice none 0 0, .int .i64 yk, .string ynm, .int .i64 yn, .int .i64 ytk, .slice yta ytn ytc, .slice ysa ysn ysc, .slice ypa ypn ypc, .slice none 0 0, .slice none 0 0, .int .i64 0, .string ⟨#[]⟩, .int .i64 0, .int .i64 0, .slice none 0 0, .slice none 0 0, .int .i64 0, .string ⟨#[]⟩, .int .i64 0, .int .i64 0, .slice none 0 0, .slice none 0 0] w2 = WX at XF GF HF ⊢
  refine ret_box Try.results44 w.heap.size [.slice none 0 0, .int .i64 yk, .string ynm, .int .i64 yn, .int .i64 ytk, .slice yta ytn ytc, .slice ysa ysn ysc, .slice ypa ypn ypc, .slice none 0 0, .slice none 0 0, .int .i64 0, .string ⟨#[]⟩, .int .i64 0, .int .i64 0, .slice none 0 0, .slice none 0 0, .int .i64 0, .string ⟨#[]⟩, .int .i64 0, .int .i64 0, .slice none 0 0, .slice none 0 0] rfl XF Try.underlying86 rfl (by kernel_rfl) rfl ?_
  exact ⟨yk, ynm, yn, ytk, yta, ytn, ytc, ysa, ysn, ysc, ypa, ypn, ypc, rfl, HF.out, GF.out⟩
set_option maxRecDepth 100000 in
set_option maxHeartbeats 4000000 in
theorem implNewSes (w : World) : Calls Try.prog 45 #[] w fun e w' => ∃ yk ynm yn ytk yta ytn ytc ysa ysn ysc ypa ypn ypc, e = .returned (.agg #[.slice none 0 0, .int .i64 yk, .string ynm, .int .i64 yn, .int .i64 ytk, .slice yta ytn ytc, .slice ysa ysn ysc, .slice ypa ypn ypc, .slice none 0 0, .slice none 0 0, .int .i64 0, .string ⟨#[]⟩, .int .i64 0, .int .i64 0, .slice none 0 0, .slice none 0 0, .int .i64 0, .string ⟨#[]⟩, .int .i64 0, .int .i64 0, .slice none 0 0, .slice none 0 0]) ∧ EditIn w' 2 (.agg #[.int .i64 yk, .string ynm, .int .i64 yn, .int .i64 ytk, .slice yta ytn ytc, .slice ysa ysn ysc, .slice ypa ypn ypc]) (⟨(.node 1 ⟨#[]⟩ 1 (.node 0 []) []), []⟩ : Edi) (w.heap.size + 1) w'.heap.size ∧ Below w.heap.size w w' := by
  have G : Hid (Below w.heap.size w (w.alloc (.cells #[.slice none 0 0, .int .i64 0, .string ⟨#[]⟩, .int .i64 0, .int .i64 0, .slice none 0 0, .slice none 0 0, .slice none 0 0, .slice none 0 0, .slice none 0 0, .int .i64 0, .string ⟨#[]⟩, .int .i64 0, .int .i64 0, .slice none 0 0, .slice none 0 0, .int .i64 0, .string ⟨#[]⟩, .int .i64 0, .int .i64 0, .slice none 0 0, .slice none 0 0] 86))) := below_alloc _ _
  have XR : Hid (BoxAt (w.alloc (.cells #[.slice none 0 0, .int .i64 0, .string ⟨#[]⟩, .int .i64 0, .int .i64 0, .slice none 0 0, .slice none 0 0, .slice none 0 0, .slice none 0 0, .slice none 0 0, .int .i64 0, .string ⟨#[]⟩, .int .i64 0, .int .i64 0, .slice none 0 0, .slice none 0 0, .int .i64 0, .string ⟨#[]⟩, .int .i64 0, .int .i64 0, .slice none 0 0, .slice none 0 0] 86)) w.heap.size #[.slice none 0 0, .int .i64 0, .string ⟨#[]⟩, .int .i64 0, .int .i64 0, .slice none 0 0, .slice none 0 0, .slice none 0 0, .slice none 0 0, .slice none 0 0, .int .i64 0, .string ⟨#[]⟩, .int .i64 0, .int .i64 0, .slice none 0 0, .slice none 0 0, .int .i64 0, .string ⟨#[]⟩, .int .i64 0, .int .i64 0, .slice none 0 0, .slice none 0 0]) := BoxAt.new _ _ _
  have FR : Hid (FreeAt (w.alloc (.cells #[.slice none 0 0, .int .i64 0, .string ⟨#[]⟩, .int .i64 0, .int .i64 0, .slice none 0 0, .slice none 0 0, .slice none 0 0, .slice none 0 0, .slice none 0 0, .int .i64 0, .string ⟨#[]⟩, .int .i64 0, .int .i64 0, .slice none 0 0, .slice none 0 0, .int .i64 0, .string ⟨#[]⟩, .int .i64 0, .int .i64 0, .slice none 0 0, .slice none 0 0] 86)) w.heap.size) := FreeAt.new _ _ _
  go_enter Try.func45, Try.ntmps45
  go_wp2_with fail
  refine (implStartEdit _).mono ?_
  rintro e w1 ⟨rfl, hb⟩
  have hz1 := hb.size
  simp only [World.size_alloc] at hz1
  replace G := Lib.hid (below_thru G.out (Nat.le_refl _) hb)
  replace XR := Lib.hid (XR.out.below hb)
  replace FR := Lib.hid (FR.out.below hb)
  clear hb
  go_wp2_with fail
  refine (implStart 2 _ (⟨(.node 1 ⟨#[]⟩ 1 (.node 0 []) []), []⟩ : Edi) _ (leaf_edit _) leaf_ebulk).mono ?_
  rintro e w2 ⟨yk, ynm, yn, ytk, yta, ytn, ytc, ysa, ysn, ysc, ypa, ypn, ypc, rfl, hv, hb⟩
  have HV := Lib.hid hv
  have hz2 := hb.size
  replace G := Lib.hid (below_thru G.out (Nat.le_refl _) hb)
  replace XR := Lib.hid (XR.out.below hb)
  replace FR := Lib.hid (FR.out.below hb)
  clear hb hv
  go_wp2_with (refine wpList_store_box rfl _ _ _ rfl w.heap.size [.slice none 0 0, .int .i64 yk, .string ynm, .int .i64 yn, .int .i64 ytk, .slice yta ytn ytc, .slice ysa ysn ysc, .slice ypa ypn ypc, .slice none 0 0, .slice none 0 0, .int .i64 0, .string ⟨#[]⟩, .int .i64 0, .int .i64 0, .slice none 0 0, .slice none 0 0, .int .i64 0, .string ⟨#[]⟩, .int .i64 0, .int .i64 0, .slice none 0 0, .slice none 0 0] [.slice none 0 0, .int .i64 0, .string ⟨#[]⟩, .int .i64 0, .int .i64 0, .slice none 0 0, .slice none 0 0, .slice none 0 0, .slice none 0 0, .slice none 0 0, .int .i64 0, .string ⟨#[]⟩, .int .i64 0, .int .i64 0, .slice none 0 0, .slice none 0 0, .int .i64 0, .string ⟨#[]⟩, .int .i64 0, .int .i64 0, .slice none 0 0, .slice none 0 0] rfl rfl rfl (by kernel_rfl) (fun u hu => by simp only [List.mem_cons, List.not_mem_nil, or_false] at hu; rcases hu with rfl | rfl | rfl | rfl | rfl | rfl | rfl | rfl | rfl | rfl | rfl | rfl | rfl | rfl | rfl | rfl | rfl | rfl | rfl | rfl | rfl | rfl <;> rfl) XR.out FR.out rfl ?_)
  have XF : BoxAt (allStored w.heap.size 0 [.slice none 0 0, .int .i64 yk, .string ynm, .int .i64 yn, .int .i64 ytk, .slice yta ytn ytc, .slice ysa ysn ysc, .slice ypa ypn ypc, .slice none 0 0, .slice none 0 0, .int .i64 0, .string ⟨#[]⟩, .int .i64 0, .int .i64 0, .slice none 0 0, .slice none 0 0, .int .i64 0, .string ⟨#[]⟩, .int .i64 0, .int .i64 0, .slice none 0 0, .slice none 0 0] w2) w.heap.size #[.slice none 0 0, .int .i64 yk, .string ynm, .int .i64 yn, .int .i64 ytk, .slice yta ytn ytc, .slice ysa ysn ysc, .slice ypa ypn ypc, .slice none 0 0, .slice none 0 0, .int .i64 0, .string ⟨#[]⟩, .int .i64 0, .int .i64 0, .slice none 0 0, .slice none 0 0, .int .i64 0, .string ⟨#[]⟩, .int .i64 0, .int .i64 0, .slice none 0 0, .slice none 0 0] := box22 XR.out
  have GF := Lib.hid (Below.storeAll [.slice none 0 0, .int .i64 yk, .string ynm, .int .i64 yn, .int .i64 ytk, .slice yta ytn ytc, .slice ysa ysn ysc, .slice ypa ypn ypc, .slice none 0 0, .slice none 0 0, .int .i64 0, .string ⟨#[]⟩, .int .i64 0, .int .i64 0, .slice none 0 0, .slice none 0 0, .int .i64 0, .string ⟨#[]⟩, .int .i64 0, .int .i64 0, .slice none 0 0, .slice none 0 0] 0 w2 G.out (Nat.le_refl w.heap.size))
  have hzf := size_storeAll (p := w.heap.size) [.slice none 0 0, .int .i64 yk, .string ynm, .int .i64 yn, .int .i64 ytk, .slice yta ytn ytc, .slice ysa ysn ysc, .slice ypa ypn ypc, .slice none 0 0, .slice none 0 0, .int .i64 0, .string ⟨#[]⟩, .int .i64 0, .int .i64 0, .slice none 0 0, .slice none 0 0, .int .i64 0, .string ⟨#[]⟩, .int .i64 0, .int .i64 0, .slice none 0 0, .slice none 0 0] 0 w2
  have hkp : Kept w.heap.size (w.heap.size + 1) w2 (allStored w.heap.size 0 [.slice none 0 0, .int .i64 yk, .string ynm, .int .i64 yn, .int .i64 ytk, .slice yta ytn ytc, .slice ysa ysn ysc, .slice ypa ypn ypc, .slice none 0 0, .slice none 0 0, .int .i64 0, .string ⟨#[]⟩, .int .i64 0, .int .i64 0, .slice none 0 0, .slice none 0 0, .int .i64 0, .string ⟨#[]⟩, .int .i64 0, .int .i64 0, .slice none 0 0, .slice none 0 0] w2) := kept_all _ _ _
  have HF := Lib.hid (((HV.out.beside hkp (Or.inr hz1)).wide hz1 (Nat.le_refl w2.heap.size) (by rw [hzf]; exact Nat.le_refl _)))
  rw [← hzf] at HF
  clear hzf G XR FR
  generalize allStored w.heap.size 0 [.slice none 0 0, .int .i64 yk, .string ynm, .int .i64 yn, .int .i64 ytk, .slice yta ytn ytc, .slice ysa ysn ysc, .slice ypa ypn ypc, .slice none 0 0, .slice none 0 0, .int .i64 0, .string ⟨#[]⟩, .int .i64 0, .int .i64 0, .slice none 0 0, .slice none 0 0, .int .i64 0, .string ⟨#[]⟩, .int .i64 0, .int .i64 0, .slice none 0 0, .slice none 0 0] w2 = WX at XF GF HF ⊢
  refine ret_box Try.results45 w.heap.size [.slice none 0 0, .int .i64 yk, .string ynm, .int .i64 yn, .int .i64 ytk, .slice yta ytn ytc, .slice ysa ysn ysc, .slice ypa ypn ypc, .slice none 0 0, .slice none 0 0, .int .i64 0, .string ⟨#[]⟩, .int .i64 0, .int .i64 0, .slice none 0 0, .slice none 0 0, .int .i64 0, .string ⟨#[]⟩, .int .i64 0, .int .i64 0, .slice none 0 0, .slice none 0 0] rfl XF Try.underlying86 rfl (by kernel_rfl) rfl ?_
  exact ⟨yk, ynm, yn, ytk, yta, ytn, ytc, ysa, ysn, ysc, ypa, ypn, ypc, rfl, HF.out, GF.out⟩
end Go.Proofs.Ytcohfbdhdngplaa
/-
  Proved: the law FnExactNewSession answers true, and leaves the memory that was there as it was.
-/
namespace Go.Proofs.Ytcohfbdhdngplaa
open Go.RowKit

set_option maxRecDepth 100000 in
set_option maxHeartbeats 4000000 in
theorem newSessionWalk (w : World) : Calls Try.prog 9 #[] w fun e w' => e = .returned (.bool true) ∧ Below w.heap.size w w' := by
  have B := Lib.hid (Below.refl w.heap.size w)
  go_enter Try.func9, Try.ntmps9
  go_wp2_with fail
  refine (specNewSes _).mono ?_
  rintro e w1 ⟨sk, snm, sn, stk, sta, stn, stc, ssa, ssn, ssc, spa, spn, spc, rfl, hs, hb⟩
  have Hs := Lib.hid hs
  have hzw1 := hb.size
  clear hs
  replace B := Lib.hid (below_thru B.out (Nat.le_refl _) hb)
  clear hb
  have Xs : Hid (BoxAt (w1.alloc (.cells #[.slice none 0 0, .int .i64 sk, .string snm, .int .i64 sn, .int .i64 stk, .slice sta stn stc, .slice ssa ssn ssc, .slice spa spn spc, .slice none 0 0, .slice none 0 0, .int .i64 0, .string ⟨#[]⟩, .int .i64 0, .int .i64 0, .slice none 0 0, .slice none 0 0, .int .i64 0, .string ⟨#[]⟩, .int .i64 0, .int .i64 0, .slice none 0 0, .slice none 0 0] 86)) w1.heap.size #[.slice none 0 0, .int .i64 sk, .string snm, .int .i64 sn, .int .i64 stk, .slice sta stn stc, .slice ssa ssn ssc, .slice spa spn spc, .slice none 0 0, .slice none 0 0, .int .i64 0, .string ⟨#[]⟩, .int .i64 0, .int .i64 0, .slice none 0 0, .slice none 0 0, .int .i64 0, .string ⟨#[]⟩, .int .i64 0, .int .i64 0, .slice none 0 0, .slice none 0 0]) := BoxAt.new _ _ _
  have hl := below_alloc w1 (.cells #[.slice none 0 0, .int .i64 sk, .string snm, .int .i64 sn, .int .i64 stk, .slice sta stn stc, .slice ssa ssn ssc, .slice spa spn spc, .slice none 0 0, .slice none 0 0, .int .i64 0, .string ⟨#[]⟩, .int .i64 0, .int .i64 0, .slice none 0 0, .slice none 0 0, .int .i64 0, .string ⟨#[]⟩, .int .i64 0, .int .i64 0, .slice none 0 0, .slice none 0 0] 86)
  replace B := Lib.hid (below_thru B.out (Nat.le_refl _) hl)
  replace Hs := Lib.hid (Hs.out.below hl)
  have HZW1 : Hid ((w1.alloc (.cells #[.slice none 0 0, .int .i64 sk, .string snm, .int .i64 sn, .int .i64 stk, .slice sta stn stc, .slice ssa ssn ssc, .slice spa spn spc, .slice none 0 0, .slice none 0 0, .int .i64 0, .string ⟨#[]⟩, .int .i64 0, .int .i64 0, .slice none 0 0, .slice none 0 0, .int .i64 0, .string ⟨#[]⟩, .int .i64 0, .int .i64 0, .slice none 0 0, .slice none 0 0] 86)).heap.size = w1.heap.size + 1) := by show _ = _; simp
  clear hl
  go_upto_region 2 with (refine wpList_store_last rfl _ _ _ rfl w1 _ [.slice none 0 0, .int .i64 sk, .string snm, .int .i64 sn, .int .i64 stk, .slice sta stn stc, .slice ssa ssn ssc, .slice spa spn spc, .slice none 0 0, .slice none 0 0, .int .i64 0, .string ⟨#[]⟩, .int .i64 0, .int .i64 0, .slice none 0 0, .slice none 0 0, .int .i64 0, .string ⟨#[]⟩, .int .i64 0, .int .i64 0, .slice none 0 0, .slice none 0 0] rfl rfl (by kernel_rfl) rfl (fun u hu => by simp only [List.mem_cons, List.not_mem_nil, or_false] at hu; rcases hu with rfl | rfl | rfl | rfl | rfl | rfl | rfl | rfl | rfl | rfl | rfl | rfl | rfl | rfl | rfl | rfl | rfl | rfl | rfl | rfl | rfl | rfl <;> rfl) ?_)
  generalize w1.alloc (.cells #[.slice none 0 0, .int .i64 sk, .string snm, .int .i64 sn, .int .i64 stk, .slice sta stn stc, .slice ssa ssn ssc, .slice spa spn spc, .slice none 0 0, .slice none 0 0, .int .i64 0, .string ⟨#[]⟩, .int .i64 0, .int .i64 0, .slice none 0 0, .slice none 0 0, .int .i64 0, .string ⟨#[]⟩, .int .i64 0, .int .i64 0, .slice none 0 0, .slice none 0 0] 86) = W1 at B Xs Hs HZW1  ⊢
  go_wp2_with fail
  refine (implNewSes _).mono ?_
  rintro e w2 ⟨gk, gnm, gn, gtk, gta, gtn, gtc, gsa, gsn, gsc, gpa, gpn, gpc, rfl, hg, hb⟩
  have Hg := Lib.hid hg
  have hzw2 := hb.size
  clear hg
  replace B := Lib.hid (below_thru B.out (Nat.le_refl _) hb)
  replace Xs := Lib.hid (Xs.out.below hb)
  replace Hs := Lib.hid (Hs.out.below hb)
  clear hb
  have Xg : Hid (BoxAt (w2.alloc (.cells #[.slice none 0 0, .int .i64 gk, .string gnm, .int .i64 gn, .int .i64 gtk, .slice gta gtn gtc, .slice gsa gsn gsc, .slice gpa gpn gpc, .slice none 0 0, .slice none 0 0, .int .i64 0, .string ⟨#[]⟩, .int .i64 0, .int .i64 0, .slice none 0 0, .slice none 0 0, .int .i64 0, .string ⟨#[]⟩, .int .i64 0, .int .i64 0, .slice none 0 0, .slice none 0 0] 86)) w2.heap.size #[.slice none 0 0, .int .i64 gk, .string gnm, .int .i64 gn, .int .i64 gtk, .slice gta gtn gtc, .slice gsa gsn gsc, .slice gpa gpn gpc, .slice none 0 0, .slice none 0 0, .int .i64 0, .string ⟨#[]⟩, .int .i64 0, .int .i64 0, .slice none 0 0, .slice none 0 0, .int .i64 0, .string ⟨#[]⟩, .int .i64 0, .int .i64 0, .slice none 0 0, .slice none 0 0]) := BoxAt.new _ _ _
  have hl := below_alloc w2 (.cells #[.slice none 0 0, .int .i64 gk, .string gnm, .int .i64 gn, .int .i64 gtk, .slice gta gtn gtc, .slice gsa gsn gsc, .slice gpa gpn gpc, .slice none 0 0, .slice none 0 0, .int .i64 0, .string ⟨#[]⟩, .int .i64 0, .int .i64 0, .slice none 0 0, .slice none 0 0, .int .i64 0, .string ⟨#[]⟩, .int .i64 0, .int .i64 0, .slice none 0 0, .slice none 0 0] 86)
  replace B := Lib.hid (below_thru B.out (Nat.le_refl _) hl)
  replace Xs := Lib.hid (Xs.out.below hl)
  replace Hs := Lib.hid (Hs.out.below hl)
  replace Hg := Lib.hid (Hg.out.below hl)
  have HZW2 : Hid ((w2.alloc (.cells #[.slice none 0 0, .int .i64 gk, .string gnm, .int .i64 gn, .int .i64 gtk, .slice gta gtn gtc, .slice gsa gsn gsc, .slice gpa gpn gpc, .slice none 0 0, .slice none 0 0, .int .i64 0, .string ⟨#[]⟩, .int .i64 0, .int .i64 0, .slice none 0 0, .slice none 0 0, .int .i64 0, .string ⟨#[]⟩, .int .i64 0, .int .i64 0, .slice none 0 0, .slice none 0 0] 86)).heap.size = w2.heap.size + 1) := by show _ = _; simp
  clear hl
  go_upto_region 3 with (refine wpList_store_last rfl _ _ _ rfl w2 _ [.slice none 0 0, .int .i64 gk, .string gnm, .int .i64 gn, .int .i64 gtk, .slice gta gtn gtc, .slice gsa gsn gsc, .slice gpa gpn gpc, .slice none 0 0, .slice none 0 0, .int .i64 0, .string ⟨#[]⟩, .int .i64 0, .int .i64 0, .slice none 0 0, .slice none 0 0, .int .i64 0, .string ⟨#[]⟩, .int .i64 0, .int .i64 0, .slice none 0 0, .slice none 0 0] rfl rfl (by kernel_rfl) rfl (fun u hu => by simp only [List.mem_cons, List.not_mem_nil, or_false] at hu; rcases hu with rfl | rfl | rfl | rfl | rfl | rfl | rfl | rfl | rfl | rfl | rfl | rfl | rfl | rfl | rfl | rfl | rfl | rfl | rfl | rfl | rfl | rfl <;> rfl) ?_)
  generalize w2.alloc (.cells #[.slice none 0 0, .int .i64 gk, .string gnm, .int .i64 gn, .int .i64 gtk, .slice gta gtn gtc, .slice gsa gsn gsc, .slice gpa gpn gpc, .slice none 0 0, .slice none 0 0, .int .i64 0, .string ⟨#[]⟩, .int .i64 0, .int .i64 0, .slice none 0 0, .slice none 0 0, .int .i64 0, .string ⟨#[]⟩, .int .i64 0, .int .i64 0, .slice none 0 0, .slice none 0 0] 86) = W2 at B Xg Hg HZW2 Xs Hs ⊢
  have hzA := HZW1.out
  have hzB := HZW2.out
  have hb2 : w1.heap.size + 1 ≤ w2.heap.size := by omega
  have hbw := B.out.size
  go_wp2_with (refine wpList_load_box rfl _ _ rfl (w2.heap.size) [.slice none 0 0, .int .i64 gk, .string gnm, .int .i64 gn, .int .i64 gtk, .slice gta gtn gtc, .slice gsa gsn gsc, .slice gpa gpn gpc, .slice none 0 0, .slice none 0 0, .int .i64 0, .string ⟨#[]⟩, .int .i64 0, .int .i64 0, .slice none 0 0, .slice none 0 0, .int .i64 0, .string ⟨#[]⟩, .int .i64 0, .int .i64 0, .slice none 0 0, .slice none 0 0] rfl Xg.out Try.underlying86 rfl (by kernel_rfl) ?_; (try simp only [Act.put]; try simp only [List.setIfInBounds_toArray]; try simp only [List.set_cons_succ]; try simp only [List.set_cons_zero]); refine wpList_load_box rfl _ _ rfl (w1.heap.size) [.slice none 0 0, .int .i64 sk, .string snm, .int .i64 sn, .int .i64 stk, .slice sta stn stc, .slice ssa ssn ssc, .slice spa spn spc, .slice none 0 0, .slice none 0 0, .int .i64 0, .string ⟨#[]⟩, .int .i64 0, .int .i64 0, .slice none 0 0, .slice none 0 0, .int .i64 0, .string ⟨#[]⟩, .int .i64 0, .int .i64 0, .slice none 0 0, .slice none 0 0] rfl Xs.out Try.underlying86 rfl (by kernel_rfl) ?_)
  refine (eqSes 2 _ _ newSes _ (newSes_at Hg.out.at_) (newSes_at Hs.out)).mono ?_
  rintro e w3 ⟨rfl, hb⟩
  replace B := Lib.hid (below_thru B.out (Nat.le_refl _) hb)
  replace Xs := Lib.hid (Xs.out.below hb)
  replace Hs := Lib.hid (Hs.out.below hb)
  replace Xg := Lib.hid (Xg.out.below hb)
  replace Hg := Lib.hid (Hg.out.below hb)
  clear hb
  go_wp2_with (refine wpList_load_box rfl _ _ rfl (w2.heap.size) [.slice none 0 0, .int .i64 gk, .string gnm, .int .i64 gn, .int .i64 gtk, .slice gta gtn gtc, .slice gsa gsn gsc, .slice gpa gpn gpc, .slice none 0 0, .slice none 0 0, .int .i64 0, .string ⟨#[]⟩, .int .i64 0, .int .i64 0, .slice none 0 0, .slice none 0 0, .int .i64 0, .string ⟨#[]⟩, .int .i64 0, .int .i64 0, .slice none 0 0, .slice none 0 0] rfl Xg.out Try.underlying86 rfl (by kernel_rfl) ?_)
  refine (markSesNew w.heap.size _ _ _ (by omega) B.out.size Hg.out).mono ?_
  rintro e w4 ⟨rfl, hm, hb0, hk⟩
  replace B := Lib.hid (B.out.trans hb0)
  replace Hs := Lib.hid (leaf_any (w' := w4) Hs.out)
  replace Xs := Lib.hid (Xs.out.beside hk (Or.inl (by omega)))
  replace Xg := Lib.hid (Xg.out.beside hk (Or.inr (Nat.le_refl _)))
  replace Hg := Lib.hid hm
  clear hm hb0 hk
  go_wp2_with (refine wpList_load_box rfl _ _ rfl (w2.heap.size) [.slice none 0 0, .int .i64 gk, .string gnm, .int .i64 gn, .int .i64 gtk, .slice gta gtn gtc, .slice gsa gsn gsc, .slice gpa gpn gpc, .slice none 0 0, .slice none 0 0, .int .i64 0, .string ⟨#[]⟩, .int .i64 0, .int .i64 0, .slice none 0 0, .slice none 0 0, .int .i64 0, .string ⟨#[]⟩, .int .i64 0, .int .i64 0, .slice none 0 0, .slice none 0 0] rfl Xg.out Try.underlying86 rfl (by kernel_rfl) ?_)
  refine (heldSesNew _ Hg.out.at_).mono ?_
  rintro e w5 ⟨rfl, hb⟩
  replace B := Lib.hid (below_thru B.out (Nat.le_refl _) hb)
  replace Xs := Lib.hid (Xs.out.below hb)
  replace Hs := Lib.hid (Hs.out.below hb)
  replace Xg := Lib.hid (Xg.out.below hb)
  replace Hg := Lib.hid (Hg.out.below hb)
  clear hb
  go_wp2_with fail
  refine (implNewSes _).mono ?_
  rintro e w6 ⟨pk, pnm, pn, ptk, pta, ptn, ptc, psa, psn, psc, ppa, ppn, ppc, rfl, hp, hb⟩
  have Hp := Lib.hid hp
  have hzw6 := hb.size
  clear hp
  replace B := Lib.hid (below_thru B.out (Nat.le_refl _) hb)
  replace Xs := Lib.hid (Xs.out.below hb)
  replace Hs := Lib.hid (Hs.out.below hb)
  replace Xg := Lib.hid (Xg.out.below hb)
  replace Hg := Lib.hid (Hg.out.below hb)
  clear hb
  have Xp : Hid (BoxAt (w6.alloc (.cells #[.slice none 0 0, .int .i64 pk, .string pnm, .int .i64 pn, .int .i64 ptk, .slice pta ptn ptc, .slice psa psn psc, .slice ppa ppn ppc, .slice none 0 0, .slice none 0 0, .int .i64 0, .string ⟨#[]⟩, .int .i64 0, .int .i64 0, .slice none 0 0, .slice none 0 0, .int .i64 0, .string ⟨#[]⟩, .int .i64 0, .int .i64 0, .slice none 0 0, .slice none 0 0] 86)) w6.heap.size #[.slice none 0 0, .int .i64 pk, .string pnm, .int .i64 pn, .int .i64 ptk, .slice pta ptn ptc, .slice psa psn psc, .slice ppa ppn ppc, .slice none 0 0, .slice none 0 0, .int .i64 0, .string ⟨#[]⟩, .int .i64 0, .int .i64 0, .slice none 0 0, .slice none 0 0, .int .i64 0, .string ⟨#[]⟩, .int .i64 0, .int .i64 0, .slice none 0 0, .slice none 0 0]) := BoxAt.new _ _ _
  have hl := below_alloc w6 (.cells #[.slice none 0 0, .int .i64 pk, .string pnm, .int .i64 pn, .int .i64 ptk, .slice pta ptn ptc, .slice psa psn psc, .slice ppa ppn ppc, .slice none 0 0, .slice none 0 0, .int .i64 0, .string ⟨#[]⟩, .int .i64 0, .int .i64 0, .slice none 0 0, .slice none 0 0, .int .i64 0, .string ⟨#[]⟩, .int .i64 0, .int .i64 0, .slice none 0 0, .slice none 0 0] 86)
  replace B := Lib.hid (below_thru B.out (Nat.le_refl _) hl)
  replace Xs := Lib.hid (Xs.out.below hl)
  replace Hs := Lib.hid (Hs.out.below hl)
  replace Xg := Lib.hid (Xg.out.below hl)
  replace Hg := Lib.hid (Hg.out.below hl)
  replace Hp := Lib.hid (Hp.out.below hl)
  have HZW6 : Hid ((w6.alloc (.cells #[.slice none 0 0, .int .i64 pk, .string pnm, .int .i64 pn, .int .i64 ptk, .slice pta ptn ptc, .slice psa psn psc, .slice ppa ppn ppc, .slice none 0 0, .slice none 0 0, .int .i64 0, .string ⟨#[]⟩, .int .i64 0, .int .i64 0, .slice none 0 0, .slice none 0 0, .int .i64 0, .string ⟨#[]⟩, .int .i64 0, .int .i64 0, .slice none 0 0, .slice none 0 0] 86)).heap.size = w6.heap.size + 1) := by show _ = _; simp
  clear hl
  go_upto_region 14 with (refine wpList_store_last rfl _ _ _ rfl w6 _ [.slice none 0 0, .int .i64 pk, .string pnm, .int .i64 pn, .int .i64 ptk, .slice pta ptn ptc, .slice psa psn psc, .slice ppa ppn ppc, .slice none 0 0, .slice none 0 0, .int .i64 0, .string ⟨#[]⟩, .int .i64 0, .int .i64 0, .slice none 0 0, .slice none 0 0, .int .i64 0, .string ⟨#[]⟩, .int .i64 0, .int .i64 0, .slice none 0 0, .slice none 0 0] rfl rfl (by kernel_rfl) rfl (fun u hu => by simp only [List.mem_cons, List.not_mem_nil, or_false] at hu; rcases hu with rfl | rfl | rfl | rfl | rfl | rfl | rfl | rfl | rfl | rfl | rfl | rfl | rfl | rfl | rfl | rfl | rfl | rfl | rfl | rfl | rfl | rfl <;> rfl) ?_)
  generalize w6.alloc (.cells #[.slice none 0 0, .int .i64 pk, .string pnm, .int .i64 pn, .int .i64 ptk, .slice pta ptn ptc, .slice psa psn psc, .slice ppa ppn ppc, .slice none 0 0, .slice none 0 0, .int .i64 0, .string ⟨#[]⟩, .int .i64 0, .int .i64 0, .slice none 0 0, .slice none 0 0, .int .i64 0, .string ⟨#[]⟩, .int .i64 0, .int .i64 0, .slice none 0 0, .slice none 0 0] 86) = W6 at B Xp Hp HZW6 Xs Hs Xg Hg ⊢
  go_wp2_with (refine wpList_load_box rfl _ _ rfl (w6.heap.size) [.slice none 0 0, .int .i64 pk, .string pnm, .int .i64 pn, .int .i64 ptk, .slice pta ptn ptc, .slice psa psn psc, .slice ppa ppn ppc, .slice none 0 0, .slice none 0 0, .int .i64 0, .string ⟨#[]⟩, .int .i64 0, .int .i64 0, .slice none 0 0, .slice none 0 0, .int .i64 0, .string ⟨#[]⟩, .int .i64 0, .int .i64 0, .slice none 0 0, .slice none 0 0] rfl Xp.out Try.underlying86 rfl (by kernel_rfl) ?_; (try simp only [Act.put]; try simp only [List.setIfInBounds_toArray]; try simp only [List.set_cons_succ]; try simp only [List.set_cons_zero]); refine wpList_load_box rfl _ _ rfl (w1.heap.size) [.slice none 0 0, .int .i64 sk, .string snm, .int .i64 sn, .int .i64 stk, .slice sta stn stc, .slice ssa ssn ssc, .slice spa spn spc, .slice none 0 0, .slice none 0 0, .int .i64 0, .string ⟨#[]⟩, .int .i64 0, .int .i64 0, .slice none 0 0, .slice none 0 0, .int .i64 0, .string ⟨#[]⟩, .int .i64 0, .int .i64 0, .slice none 0 0, .slice none 0 0] rfl Xs.out Try.underlying86 rfl (by kernel_rfl) ?_)
  refine (eqSes 2 _ _ newSes _ (newSes_at Hp.out.at_) (newSes_at Hs.out)).mono ?_
  rintro e w7 ⟨rfl, hb⟩
  replace B := Lib.hid (below_thru B.out (Nat.le_refl _) hb)
  replace Xs := Lib.hid (Xs.out.below hb)
  replace Hs := Lib.hid (Hs.out.below hb)
  replace Xg := Lib.hid (Xg.out.below hb)
  replace Hg := Lib.hid (Hg.out.below hb)
  replace Xp := Lib.hid (Xp.out.below hb)
  replace Hp := Lib.hid (Hp.out.below hb)
  clear hb
  go_wp2_with (refine wpList_load_box rfl _ _ rfl (w2.heap.size) [.slice none 0 0, .int .i64 gk, .string gnm, .int .i64 gn, .int .i64 gtk, .slice gta gtn gtc, .slice gsa gsn gsc, .slice gpa gpn gpc, .slice none 0 0, .slice none 0 0, .int .i64 0, .string ⟨#[]⟩, .int .i64 0, .int .i64 0, .slice none 0 0, .slice none 0 0, .int .i64 0, .string ⟨#[]⟩, .int .i64 0, .int .i64 0, .slice none 0 0, .slice none 0 0] rfl Xg.out Try.underlying86 rfl (by kernel_rfl) ?_)
  refine (heldSesNew _ Hg.out.at_).mono ?_
  rintro e w8 ⟨rfl, hb⟩
  replace B := Lib.hid (below_thru B.out (Nat.le_refl _) hb)
  replace Xs := Lib.hid (Xs.out.below hb)
  replace Hs := Lib.hid (Hs.out.below hb)
  replace Xg := Lib.hid (Xg.out.below hb)
  replace Hg := Lib.hid (Hg.out.below hb)
  replace Xp := Lib.hid (Xp.out.below hb)
  replace Hp := Lib.hid (Hp.out.below hb)
  clear hb
  go_wp2_with fail
  go_ret
  exact ⟨rfl, B.out⟩
end Go.Proofs.Ytcohfbdhdngplaa
namespace Go.Proofs.Ytcohfbdhdngplaa.ExactNewSession
open Go.ChangeShapes Go.WideShapes Go.ChangeAt Go.RowKit Go.WideMaps Go.WideElems
open Go.ChangeMaps (setBlock shut_map_nil open_string shut_string keptBut_setBlock frozen?_setBlock heap_setBlock_same)
set_option maxRecDepth 100000 in
theorem contract (H : Type) (enc : TypeId × Value → H) (W : World) (base : Nat) (args : Array Value) (ds gs : List (DataW H)) (before : List MemPlace)
    (hval : ∀ (j : Nat) t v, Try.f9.params[j]? = some t → args[j]? = some v → Value.okWide Try.prog W .any base t v)
    (hW : DataW.Whole enc Try.prog Try.f9.params.toList Rows.fnExactNewSessionSpec.vars false W args.toList ds gs before) 
    (_hsz : (DataW.weightsEach Try.prog (Try.f9.params.toList ++ (OpenSpec.ofChange Rows.fnExactNewSessionSpec).bare.plain.varTypes Try.prog) (ds ++ gs)).all (· ≤ reachBytes) = true) (_hsh : W.ShapedOpen Try.prog) :
    Calls Try.prog 9 args W fun e W' => ∃ v, e = .returned v ∧ Rows.fnExactNewSessionSpec.post enc Try.prog Try.f9 false true false false W args v W' := by
  have hW' := hW
  obtain ⟨p, q, hA0, hV, rfl, hfz, hnd⟩ := hW
  have hA : DataW.TrodAll enc Try.prog W 0 (fun _ => true) true Try.f9.params.toList args.toList ds p := hA0
  rw [Try.params9] at hA hval
  obtain ⟨hargs, rfl, rfl⟩ := trodAll_nil hA
  obtain rfl : args = #[] := by cases args; simp_all
  obtain ⟨rfl, rfl⟩ := trodVars_none hV
  refine Calls.mono (newSessionWalk W) fun e W' ⟨he, hg⟩ => ?_
  subst he
  exact ⟨_, rfl, Law.law_post hW' rfl (by kernel_rfl) Try.underlying4 (by kernel_rfl) (by kernel_rfl) (fun _ => rfl) hg⟩
set_option maxRecDepth 100000 in
theorem laid_met (os : Os) : laidMet Try.prog Rows.fnExactNewSessionRow.laid (((World.holding Try.prog os ⟨#[], #[], []⟩)).forCall (fun _ _ => 0) ⟨#[], #[], []⟩).memory :=
  laidMet_of_run' 8 (by kernel_rfl) (by kernel_rfl)
theorem reads (os : Os) {H : Type} (enc : TypeId × Value → H) : ∃ places, DataW.whole enc Try.prog (((World.holding Try.prog os ⟨#[], #[], []⟩)).forCall (fun _ _ => 0) ⟨#[], #[], []⟩).memory Try.f9.params.toList Rows.fnExactNewSessionSpec.vars false (#[] : Array Value).toList 8 = some ([], [], places) :=
  ⟨[], by kernel_rfl⟩
set_option maxRecDepth 100000 in
theorem lifted (os : Os) (started : os.Started) (H : Type) (enc : TypeId × Value → H) (F : Stop.Interp) :
    ReturnsInHanded {} Try.checked os 9 .any ((OpenSpec.ofChange Rows.fnExactNewSessionSpec).preRow enc Try.prog Try.f9 Rows.fnExactNewSessionRow.domain false Rows.fnExactNewSessionRow.laid) (((OpenSpec.ofChange Rows.fnExactNewSessionSpec).at F).post enc Try.prog Try.f9 false true false false) := by
  obtain ⟨places, hx⟩ := reads os enc
  refine returnsInHanded_of_row (C := Try.checked) (s := OpenSpec.ofChange Rows.fnExactNewSessionSpec) (by kernel_rfl) started (by kernel_rfl) Try.func9
    (witness_row_atRef (enc := enc) (C := Try.checked) false (World.holding Try.prog os ⟨#[], #[], []⟩) #[] rfl (by kernel_rfl) (by kernel_rfl) (by kernel_rfl)
      (OpenSpec.preRow_of_cond 8 hx (by kernel_rfl) (fun k hk => by cases hk) (by kernel_rfl) (laid_met os))) ?_
  intro W base args ds gs before hval hW _ _ hsz _ hsh _
  exact contract H enc W base args ds gs before hval hW hsz hsh
theorem said : Rows.FnExactNewSessionSaid :=
  OpenClaim.holds_of_cond 9 Try.f9 rfl rfl rfl rfl rfl rfl rfl ⟨rfl, rfl, rfl, rfl, rfl⟩ rfl rfl rfl rfl rfl (by kernel_rfl) Try.func9 (by kernel_rfl)
    (of_decide_eq_true (by kernel_rfl)) (by unfold Func.isWrapper; first | (rw [if_pos (by decide +kernel)]; kernel_rfl) | (rw [if_neg (by decide +kernel)]; exact ⟨rfl, rfl⟩))
    (fun os started H enc _ F => by rw [OpenClaim.pre_eq_preRow]; exact lifted os started H enc F)
end Go.Proofs.Ytcohfbdhdngplaa.ExactNewSession
