/-
  Proved: impl.isExprNode says whether the fields and the number of parts of a node belong to its kind; the memory that was there stays as it was.
-/
import Derived.Test.YtfidcblaabeaaaaDoorSpecValid
import Derived.Test.YtfidcblaabeaaaaDoorSpecSize
import Derived.Test.YtfidcblaabeaaaaDoorPart
import Derived.Test.YtfidcblaabeaaaaDoorExNum
import Derived.Test.YtfidcblaabeaaaaDoorName
import Derived.Test.YtfidcblaabeaaaaDoorArity
import Derived.Test.YtfidcblaabeaaaaDoorTyEq
import Derived.Test.YtfidcblaabeaaaaDoorEditAt
import Derived.Test.YtfidcblaabeaaaaDoorSubEx
import Derived.Test.YtfidcblaabeaaaaDoorToExpr
import Derived.Test.YtfidcblaabeaaaaDoorHold
import Derived.Deep.AppendLies
import Derived.Test.YtfidcblaabeaaaaDoorToType
import Derived.Deep.RegionLaw
import Derived.Deep.DeepCutAuto
import Derived.Deep.RegionHeld3
import Derived.Test.YtfidcblaabeaaaaDoorSpecIn
import Derived.Test.YtfidcblaabeaaaaDoorExIn
import Derived.Test.YtfidcblaabeaaaaDoorPut
import Derived.BigQuiet
import Derived.Deep.QuietTactic
import Derived.Test.YtfidcblaabeaaaaDoorSzExpr
import Derived.Test.YtfidcblaabeaaaaDoorSpecMax
import Derived.Test.YtfidcblaabeaaaaDoorTwo
import Derived.Laws.RangeAny
import Derived.Test.YtfidcblaabeaaaaDoorSpecForm
/-
  Proved: spec.IsNote says whether a type's tree is a note; it leaves the memory that was there as it was.
-/
namespace Go.Proofs.YtfidcblaabeaaaaDoor
open Go.RowKit

/-- A note: a valid type of at most 15 nodes, at most 5 deep. -/
def Ty.note (t : Ty) : Bool := t.valid && (decide (t.size ≤ 15) && decide (t.depth ≤ 5))
set_option maxRecDepth 100000 in
set_option maxHeartbeats 1000000 in
theorem specNote' (d : Nat) (v : Value) (t : Ty) (w : World) (h : TyAt w d v t) (hsz : t.size ≤ 1048577) :
    Calls Tryd.prog 78 #[v] w fun e w' => e = .returned (.bool (t.valid && (decide (t.size ≤ 15) && decide (t.depth ≤ 5)))) ∧ Below w.heap.size w w' := by
  have HT := Lib.hid h
  obtain ⟨yk, ya, yn, yc, rfl⟩ := agg_parts h
  clear h
  have E0 : Below w.heap.size w (w.alloc (.cells #[.int .i64 yk, .slice ya yn yc] 35)) := (Below.refl _ _).alloc (Nat.le_refl _) _
  have HT0 := Lib.hid (HT.out.below E0)
  clear E0
  go_enter Tryd.func78, Tryd.ntmps78
  go_wp2_with fail
  refine (specValid d _ t _ HT0.out hsz).mono ?_
  rintro e w1 ⟨rfl, hb1⟩
  have B1 := Lib.hid (box_next (Below.refl _ _) hb1); clear hb1
  have c0 := box_cell B1.out 0
  have c1 := box_cell B1.out 1
  cases hv : t.valid with
  | false =>
    have HV := Lib.hid hv; clear hv
    go_wp2_with fail
    go_ret
    exact ⟨by simp [HV.out], box_below B1.out⟩
  | true =>
    have HV := Lib.hid hv; clear hv
    go_wp2_with fail
    refine (specSize d _ t _ (HT.out.below (box_below B1.out)) (by omega)).mono ?_
    rintro e w2 ⟨rfl, hb2⟩
    have B2 := Lib.hid (box_next B1.out hb2); clear hb2 B1 c0 c1
    have c0 := box_cell B2.out 0
    have c1 := box_cell B2.out 1
    by_cases q1 : t.size ≤ 15
    · go_wp2_with fail
      refine (specDepth d _ t _ (HT.out.below (box_below B2.out)) (by omega)).mono ?_
      rintro e w3 ⟨rfl, hb3⟩
      have B3 := Lib.hid (box_next B2.out hb3); clear hb3 B2
      by_cases q2 : t.depth ≤ 5
      · have q3 : (t.depth : Int) ≤ 5 := by omega
        go_wp2_with fail
        go_ret
        exact ⟨by simp [HV.out, q1, q2], box_below B3.out⟩
      · have q3 : ¬ ((t.depth : Int) ≤ 5) := by omega
        go_wp2_with fail
        go_ret
        exact ⟨by simp [q2, q3], box_below B3.out⟩
    · go_wp2_with fail
      go_ret
      exact ⟨rfl, box_below B2.out⟩
theorem specNote (d : Nat) (v : Value) (t : Ty) (w : World) (h : TyAt w d v t) (hsz : t.size ≤ 1048577) :
    Calls Tryd.prog 78 #[v] w fun e w' => e = .returned (.bool t.note) ∧ Below w.heap.size w w' :=
  (specNote' d v t w h hsz).mono fun _ _ h => h
end Go.Proofs.YtfidcblaabeaaaaDoor
/-
  Proved: plain facts on the form of expressions: which names, numbers and types a kind has, and what a whole tree of such nodes is.
-/
namespace Go.Proofs.YtfidcblaabeaaaaDoor
open Go.RowKit

def nameFor (k : Int) (nm : ByteArray) : Bool := if k = 2 ∨ k = 3 then nameB nm else decide (nm.size = 0)
def numFor (k n : Int) : Bool := if k = 1 ∨ k = 14 then decide (1 ≤ n) && decide (n ≤ 99) else if k = 5 then decide (0 ≤ n) && decide (n ≤ 999) else if k = 8 then decide (0 ≤ n) && decide (n ≤ 1) else decide (n = 0)
def typeFor (k : Int) (t : Ty) : Bool := if k = 3 ∨ k = 13 then t.note else t.beq (.node 0 [])
def Ex.kind : Ex → Int
  | .node k _ _ _ _ => k
/-- The root has the fields and the number of parts that belong to its kind. -/
def fitsB (k : Int) (nm : ByteArray) (n : Int) (ty : Ty) (len : Nat) : Bool := decide ((len : Int) = arity k) && (nameFor k nm && (numFor k n && typeFor k ty))
/-- No mark stands right in a mark. -/
def bareB (k : Int) : List Ex → Bool
  | [] => true
  | e :: _ => !(decide (k = 14) && decide (e.kind = 14))
mutual
def Ex.form : Ex → Bool
  | .node k nm n ty es => Ex.forms es && (bareB k es && fitsB k nm n ty es.length)
def Ex.forms : List Ex → Bool
  | [] => true
  | e :: r => e.form && Ex.forms r
end
theorem Ex.forms_take (es : List Ex) : ∀ k (h : k < es.length), Ex.forms (es.take (k + 1)) = (Ex.forms (es.take k) && es[k].form) := by
  induction es with
  | nil => intro k h; simp at h
  | cons s r ih =>
    intro k h
    cases k with
    | zero => simp [Ex.forms]
    | succ k =>
      simp only [List.take_succ_cons, Ex.forms, List.getElem_cons_succ]
      rw [ih k (by simpa using h), Bool.and_assoc]
theorem Ex.forms_false (es : List Ex) (k : Nat) (h : Ex.forms (es.take k) = false) : Ex.forms es = false := by
  induction es generalizing k with
  | nil => simp [Ex.forms] at h
  | cons s r ih =>
    cases k with
    | zero => simp [Ex.forms] at h
    | succ k =>
      simp only [List.take_succ_cons, Ex.forms, Bool.and_eq_false_iff] at h ⊢
      rcases h with h | h
      · exact Or.inl h
      · exact Or.inr (ih k h)
theorem Ex.forms_get (es : List Ex) (k : Nat) (h : k < es.length) (hf : Ex.forms es = true) : es[k].form = true := by
  have e := Ex.forms_take es k h
  cases hk : es[k].form with
  | true => rfl
  | false =>
    rw [hk, Bool.and_false] at e
    rw [Ex.forms_false es (k + 1) e] at hf; cases hf
theorem Ex.highs_get (es : List Ex) (k : Nat) (h : k < es.length) : es[k].high ≤ Ex.highs es := by
  induction es generalizing k with
  | nil => simp at h
  | cons s r ih =>
    cases k with
    | zero => simp only [List.getElem_cons_zero, Ex.highs]; omega
    | succ k => simp only [List.getElem_cons_succ, Ex.highs]; have := ih k (by simpa using h); omega
theorem Ex.highs_upto (es : List Ex) (k : Nat) : Ex.highs (es.take k) ≤ Ex.highs es := by
  induction es generalizing k with
  | nil => simp
  | cons s r ih =>
    cases k with
    | zero => simp [Ex.highs]
    | succ k => simp only [List.take_succ_cons, Ex.highs]; have := ih k; omega
theorem Ex.counts_le_all (es : List Ex) (k : Nat) : Ex.counts (es.take k) ≤ Ex.counts es := by
  induction es generalizing k with
  | nil => simp
  | cons s r ih =>
    cases k with
    | zero => simp [Ex.counts]
    | succ k => simp only [List.take_succ_cons, Ex.counts]; have := ih k; omega
/-- A valid expression: at most 40 nodes, at most 12 deep (marks do not count), every node of its kind's form. -/
def Ex.valid (e : Ex) : Bool := decide (e.count ≤ 40) && (decide (e.high ≤ 12) && e.form)
theorem note_zero : (Ty.node 0 []).note = false := by
  simp [Ty.note, Ty.valid, Ty.form, Ty.forms, kindOk]
theorem beq_zero (k : Int) (ts : List Ty) : (Ty.node k ts).beq (.node 0 []) = (decide (k = 0) && decide (ts.length = 0)) := by
  cases ts with
  | nil => simp [Ty.beq, Ty.beqs]
  | cons a r => simp [Ty.beq, Ty.beqs]
theorem nameB_empty {s : ByteArray} (h : s.size = 0) : nameB s = false := by simp [nameB, h]
end Go.Proofs.YtfidcblaabeaaaaDoor
/-
  Proved: plain facts on types no part of which is unknown; no program.
-/
namespace Go.Proofs.YtfidcblaabeaaaaDoor
open Go.RowKit

mutual
def Ty.known : Ty → Bool
  | .node k ts => Ty.knowns ts && !decide (k = 1)
def Ty.knowns : List Ty → Bool
  | [] => true
  | t :: r => t.known && Ty.knowns r
end
theorem Ty.knowns_take (ts : List Ty) : ∀ k (h : k < ts.length), Ty.knowns (ts.take (k + 1)) = (Ty.knowns (ts.take k) && ts[k].known) := by
  induction ts with
  | nil => intro k h; simp at h
  | cons s r ih =>
    intro k h
    cases k with
    | zero => simp [Ty.knowns]
    | succ k =>
      simp only [List.take_succ_cons, Ty.knowns, List.getElem_cons_succ]
      rw [ih k (by simpa using h), Bool.and_assoc]
theorem Ty.knowns_false (ts : List Ty) (k : Nat) (h : Ty.knowns (ts.take k) = false) : Ty.knowns ts = false := by
  induction ts generalizing k with
  | nil => simp [Ty.knowns] at h
  | cons s r ih =>
    cases k with
    | zero => simp [Ty.knowns] at h
    | succ k =>
      simp only [List.take_succ_cons, Ty.knowns, Bool.and_eq_false_iff] at h ⊢
      rcases h with h | h
      · exact Or.inl h
      · exact Or.inr (ih k h)

end Go.Proofs.YtfidcblaabeaaaaDoor
/-
  Proved: plain facts on what occurs in an expression: a kind, and types that say all.
-/
namespace Go.Proofs.YtfidcblaabeaaaaDoor
open Go.RowKit

mutual
/-- A node of the kind x occurs. -/
def Ex.has (x : Int) : Ex → Bool
  | .node k _ _ _ es => Ex.hass x es || decide (k = x)
def Ex.hass (x : Int) : List Ex → Bool
  | [] => false
  | e :: r => e.has x || Ex.hass x r
end
mutual
/-- The types of functions and of ascriptions say all. -/
def Ex.full : Ex → Bool
  | .node k _ _ ty es => Ex.fulls es && (!(decide (k = 3) || decide (k = 13)) || (ty.valid && ty.known))
def Ex.fulls : List Ex → Bool
  | [] => true
  | e :: r => e.full && Ex.fulls r
end
theorem Ex.hass_take (x : Int) (es : List Ex) : ∀ k (h : k < es.length), Ex.hass x (es.take (k + 1)) = (Ex.hass x (es.take k) || es[k].has x) := by
  induction es with
  | nil => intro k h; simp at h
  | cons s r ih =>
    intro k h
    cases k with
    | zero => simp [Ex.hass]
    | succ k =>
      simp only [List.take_succ_cons, Ex.hass, List.getElem_cons_succ]
      rw [ih k (by simpa using h), Bool.or_assoc]
theorem Ex.hass_true (x : Int) (es : List Ex) (k : Nat) (h : Ex.hass x (es.take k) = true) : Ex.hass x es = true := by
  induction es generalizing k with
  | nil => simp [Ex.hass] at h
  | cons s r ih =>
    cases k with
    | zero => simp [Ex.hass] at h
    | succ k =>
      simp only [List.take_succ_cons, Ex.hass, Bool.or_eq_true] at h ⊢
      rcases h with h | h
      · exact Or.inl h
      · exact Or.inr (ih k h)
theorem Ex.fulls_take (es : List Ex) : ∀ k (h : k < es.length), Ex.fulls (es.take (k + 1)) = (Ex.fulls (es.take k) && es[k].full) := by
  induction es with
  | nil => intro k h; simp at h
  | cons s r ih =>
    intro k h
    cases k with
    | zero => simp [Ex.fulls]
    | succ k =>
      simp only [List.take_succ_cons, Ex.fulls, List.getElem_cons_succ]
      rw [ih k (by simpa using h), Bool.and_assoc]
theorem Ex.fulls_false (es : List Ex) (k : Nat) (h : Ex.fulls (es.take k) = false) : Ex.fulls es = false := by
  induction es generalizing k with
  | nil => simp [Ex.fulls] at h
  | cons s r ih =>
    cases k with
    | zero => simp [Ex.fulls] at h
    | succ k =>
      simp only [List.take_succ_cons, Ex.fulls, Bool.and_eq_false_iff] at h ⊢
      rcases h with h | h
      · exact Or.inl h
      · exact Or.inr (ih k h)
end Go.Proofs.YtfidcblaabeaaaaDoor
/-
  Proved: plain facts on valid edits; no program.
-/
namespace Go.Proofs.YtfidcblaabeaaaaDoor

/-- An edit: a raw expression, and the path of one of its nodes. -/
def Edi.okB (a : Edi) : Bool := (a.ex.sub a.path).isSome && (a.ex.valid && !a.ex.has 14)
end Go.Proofs.YtfidcblaabeaaaaDoor
/-
  Proved: plain facts on a row of expressions that a call builds by append: each has blocks of its own, apart from the row's.
-/
namespace Go.Proofs.YtfidcblaabeaaaaDoor
open Go.RowKit

def ExRow (w : World) (base d : Nat) (v : Value) (ts : List Ex) : Prop :=
  ∃ cs fps, w.ownsRow base 38 6 v ts.length cs ∧ fps.length = ts.length ∧ Fp base w.heap.size (List.flatten fps) ∧ (∀ g, v.ownBlock = some g → g ∉ List.flatten fps) ∧
    ∀ j (h : j < ts.length), ∃ c0 c1 c2 c3 c4 c5 f, cs[j * 6]? = some c0 ∧ cs[j * 6 + 1]? = some c1 ∧ cs[j * 6 + 2]? = some c2 ∧ cs[j * 6 + 3]? = some c3 ∧ cs[j * 6 + 4]? = some c4 ∧ cs[j * 6 + 5]? = some c5 ∧ fps[j]? = some f ∧ ExOwn w d (.agg #[c0, c1, c2, c3, c4, c5]) ts[j] f
theorem ExRow.nil (w : World) (base d : Nat) : ExRow w base d (.slice none 0 0) [] :=
  ⟨[], [], World.ownsRow_nil _ _ _ _, rfl, Fp.nil _ _, fun g hg => by simp, fun j hj => by simp at hj⟩
theorem flat_mem {fps : List (List Nat)} {j b : Nat} {f : List Nat} (h : fps[j]? = some f) (hb : b ∈ f) : b ∈ fps.flatten := List.mem_flatten.2 ⟨f, List.mem_of_getElem? h, hb⟩
theorem ExRow.kept {w w' : World} {base d : Nat} {v : Value} {ts : List Ex} (h : ExRow w base d v ts) (hz : w.heap.size ≤ w'.heap.size) (hk : ∀ b, base ≤ b → b < w.heap.size → w'.heap[b]? = w.heap[b]?) : ExRow w' base d v ts := by
  obtain ⟨cs, fps, hown, hl, hf, hg, hat⟩ := h
  have hlt := hown.lt
  refine ⟨cs, fps, ⟨hown.1, ?_⟩, hl, hf.mono (Nat.le_refl _) hz, hg, fun j hj => ?_⟩
  · rcases hown.2 with h | ⟨g, cap, cur, rfl, r1, r2, r3⟩
    · exact Or.inl h
    · exact Or.inr ⟨g, cap, cur, rfl, r1, by rw [hk g (hlt g rfl).1 (hlt g rfl).2]; exact r2, r3⟩
  · obtain ⟨c0, c1, c2, c3, c4, c5, f, g0, g1, g2, g3, g4, g5, h2, h3⟩ := hat j hj
    exact ⟨c0, c1, c2, c3, c4, c5, f, g0, g1, g2, g3, g4, g5, h2, h3.kept hz fun b hb => by have := hf.2 b (flat_mem h2 hb); exact hk b this.1 this.2⟩
theorem ExRow.below {w w' : World} {base d : Nat} {v : Value} {ts : List Ex} (h : ExRow w base d v ts) (hb : Below w.heap.size w w') : ExRow w' base d v ts :=
  h.kept hb.size fun b _ hlt => hb.block b hlt
theorem ExRow.stored {w : World} {base d : Nat} {v : Value} {ts : List Ex} (h : ExRow w base d v ts) {p o : Nat} (hp : p < base) (u : Value) : ExRow (w.setCell ⟨p, o, none⟩ u) base d v ts :=
  h.kept (by simp) fun b hb _ => heap_setCell_other _ _ _ _ (by simp; omega)
theorem ExRow.form {w : World} {base d : Nat} {v : Value} {ts : List Ex} (h : ExRow w base d v ts) : ∃ a c, v = .slice a ts.length c := by
  obtain ⟨cs, fps, hown, _⟩ := h
  rcases hown.2 with ⟨h1, h2⟩ | ⟨g, cap, cur, h1, _⟩
  · exact ⟨none, 0, by rw [h1, h2]⟩
  · exact ⟨_, cap, h1⟩
/-- An element is appended: wr is the world ahead of the element, w' the one behind it, w1 the one behind the append. -/
theorem ExRow.append {wr w' : World} {base d : Nat} {v z0 z1 z2 z3 z4 z5 : Value} {ts : List Ex} {t : Ex} {f : List Nat} (h : ExRow wr base d v ts) (hb : Below wr.heap.size wr w') (hbase : base ≤ wr.heap.size)
    (ht : ExOwn w' d (.agg #[z0, z1, z2, z3, z4, z5]) t f) (hft : Fp wr.heap.size w'.heap.size f) :
    ∃ cs, w'.ownsRow base 38 6 v ts.length cs ∧ ∀ (o : Obj) (g cap : Nat) (w1 : World), w1.ownsRow base 38 6 (.slice (some ⟨g, 0, none⟩) (ts.length + 1) cap) (ts.length + 1) (cs ++ [z0, z1, z2, z3, z4, z5]) →
      (w'.alloc o).grownBy w1 v.ownBlock → (v.ownBlock = some g ∨ g = w'.heap.size + 1) → ExRow w1 base d (.slice (some ⟨g, 0, none⟩) (ts.length + 1) cap) (ts ++ [t]) := by
  obtain ⟨cs, fps, hown, hl, hf, hg, hat⟩ := h
  have hlt := hown.lt
  have hcs : cs.length = ts.length * 6 := hown.1
  have hz := hb.size
  refine ⟨cs, own_below hown hb, fun o g cap w1 hown1 hgrow hnew => ?_⟩
  have hza : (w'.alloc o).heap.size = w'.heap.size + 1 := by simp
  have hz1 := hgrow.size
  rw [hza] at hz1
  have hkeep : ∀ b, b < w'.heap.size → v.ownBlock ≠ some b → w1.heap[b]? = w'.heap[b]? := fun b h1 h2 => by
    rw [hgrow.block b (by rw [hza]; omega) (fun e => h2 e.symm), heap_alloc_old _ _ h1]
  refine ⟨_, fps ++ [f], by simpa using hown1, by simp [hl], ?_, ?_, fun j hj => ?_⟩
  · rw [List.flatten_append, List.flatten_cons, List.flatten_nil, List.append_nil]
    exact (hf.join hft hbase hz).mono (Nat.le_refl _) (by omega)
  · intro g' hg'
    simp only [Value.ownBlock, Option.some.injEq] at hg'
    subst hg'
    rw [List.flatten_append, List.flatten_cons, List.flatten_nil, List.append_nil]
    intro hm
    rcases List.mem_append.1 hm with hm | hm
    · rcases hnew with h | h
      · exact hg _ h hm
      · have := (hf.2 _ hm).2; omega
    · rcases hnew with h | h
      · have := (hlt _ h).2; have := (hft.2 _ hm).1; omega
      · have := (hft.2 _ hm).2; omega
  · by_cases hjn : j = ts.length
    · subst hjn
      refine ⟨z0, z1, z2, z3, z4, z5, f, ?_, ?_, ?_, ?_, ?_, ?_, ?_, ?_⟩
      · rw [List.getElem?_append_right (by omega), hcs]; simp
      · rw [List.getElem?_append_right (by omega), hcs]; simp
      · rw [List.getElem?_append_right (by omega), hcs]; simp
      · rw [List.getElem?_append_right (by omega), hcs]; simp
      · rw [List.getElem?_append_right (by omega), hcs]; simp
      · rw [List.getElem?_append_right (by omega), hcs]; simp
      · rw [List.getElem?_append_right (by omega), hl]; simp
      · rw [List.getElem_append_right (by omega)]
        simp only [Nat.sub_self, List.getElem_cons_zero]
        exact ht.kept (by omega) fun b hbf => hkeep b (hft.2 b hbf).2 (fun e => by have := (hlt b e).2; have := (hft.2 b hbf).1; omega)
    · have hj2 : j < ts.length := by simp at hj; omega
      obtain ⟨c0, c1, c2, c3, c4, c5, f', g0, g1, g2, g3, g4, g5, h2, h3⟩ := hat j hj2
      refine ⟨c0, c1, c2, c3, c4, c5, f', ?_, ?_, ?_, ?_, ?_, ?_, ?_, ?_⟩
      · rw [List.getElem?_append_left (by omega)]; exact g0
      · rw [List.getElem?_append_left (by omega)]; exact g1
      · rw [List.getElem?_append_left (by omega)]; exact g2
      · rw [List.getElem?_append_left (by omega)]; exact g3
      · rw [List.getElem?_append_left (by omega)]; exact g4
      · rw [List.getElem?_append_left (by omega)]; exact g5
      · rw [List.getElem?_append_left (by omega)]; exact h2
      · rw [List.getElem_append_left hj2]
        exact (h3.kept hb.size fun b hb3 => hb.block b (hf.2 b (flat_mem h2 hb3)).2).kept (by omega) fun b hbf => hkeep b (by have := (hf.2 b (flat_mem h2 hbf)).2; omega) (fun e => hg b e (flat_mem h2 hbf))
/-- The row is whole: the expression with this row has blocks of its own. -/
theorem ExRow.tree {w : World} {base mid d : Nat} {v c3 c4 : Value} {ts : List Ex} (h : ExRow w mid d v ts) (k : Int) (nm : ByteArray) (n : Int) (ty : Ty) (f1 : List Nat) (h0 : -9223372036854775808 ≤ k) (h1 : k ≤ 9223372036854775807) (h2 : -9223372036854775808 ≤ n) (h3 : n ≤ 9223372036854775807) (h4 : nm.size ≤ 9223372036854775807)
    (hty : TyOwn w d (.agg #[c3, c4]) ty f1) (hf1 : Fp base mid f1) (hbm : base ≤ mid) (hmw : mid ≤ w.heap.size) :
    ∃ fp, ExOwn w (d + 1) (.agg #[.int .i64 k, .string nm, .int .i64 n, c3, c4, v]) (.node k nm n ty ts) fp ∧ Fp base w.heap.size fp := by
  obtain ⟨cs, fps, hown, hl, hf, hg, hat⟩ := h
  have hcs : cs.length = ts.length * 6 := hown.1
  rcases hown.2 with ⟨rfl, hn⟩ | ⟨g, cap, cur, rfl, hbg, hgc, hnc, hm, hcur, htake⟩
  · have hts : ts = [] := List.eq_nil_of_length_eq_zero hn
    subst hts
    exact ⟨f1 ++ [], ⟨c3, c4, _, f1, [], rfl, h0, h1, h2, h3, h4, rfl, hty, none, 0, [], [], rfl, Nat.le_refl _, by omega, rfl, rfl, (fun b hb => by cases hb), fun j hj => by simp at hj⟩, by rw [List.append_nil]; exact hf1.mono (Nat.le_refl _) hmw⟩
  · have hlt := (hown.lt g rfl).2
    refine ⟨f1 ++ ([g] ++ fps.flatten), ⟨c3, c4, _, f1, [g] ++ fps.flatten, rfl, h0, h1, h2, h3, h4, rfl, hty, some ⟨g, 0, none⟩, cap, [g], fps, rfl, hnc, by unfold maxLen at hm; omega, hl, rfl, fun b hb => by cases List.mem_singleton.1 hb; exact hlt, fun j hj => ?_⟩, hf1.join ?_ hbm hmw⟩
    · obtain ⟨c0, c1, c2, c3, c4, c5, f, e0, e1, e2, e3, e4, e5, e6, e7⟩ := hat j hj
      exact ⟨g, 0, c0, c1, c2, c3, c4, c5, f, rfl, rfl, hlt, by rw [Nat.zero_add, hown.cellAt (j * 6) (by omega)]; exact e0, by rw [Nat.zero_add, hown.cellAt (j * 6 + 1) (by omega)]; exact e1, by rw [Nat.zero_add, hown.cellAt (j * 6 + 2) (by omega)]; exact e2,
        by rw [Nat.zero_add, hown.cellAt (j * 6 + 3) (by omega)]; exact e3, by rw [Nat.zero_add, hown.cellAt (j * 6 + 4) (by omega)]; exact e4, by rw [Nat.zero_add, hown.cellAt (j * 6 + 5) (by omega)]; exact e5, fun o => hown.frozenAt o, e6, e7⟩
    · refine ⟨?_, fun b hb => ?_⟩
      · rw [List.singleton_append, List.nodup_cons]
        exact ⟨hg g rfl, hf.1⟩
      · rcases List.mem_append.1 hb with hb | hb
        · cases List.mem_singleton.1 hb; exact ⟨hbg, hlt⟩
        · exact hf.2 b hb
end Go.Proofs.YtfidcblaabeaaaaDoor
/-
  Proved: plain facts on a row of trees that a call builds by append: each tree has blocks of its own, apart from the row's.
-/
namespace Go.Proofs.YtfidcblaabeaaaaDoor
open Go.RowKit

def CopyRow (w : World) (base d : Nat) (v : Value) (ts : List Ty) : Prop :=
  ∃ cs fps, w.ownsRow base 35 2 v ts.length cs ∧ fps.length = ts.length ∧ Fp base w.heap.size (List.flatten fps) ∧ (∀ g, v.ownBlock = some g → g ∉ List.flatten fps) ∧
    ∀ j (h : j < ts.length), ∃ c0 c1 f, cs[j * 2]? = some c0 ∧ cs[j * 2 + 1]? = some c1 ∧ fps[j]? = some f ∧ TyOwn w d (.agg #[c0, c1]) ts[j] f
theorem CopyRow.nil (w : World) (base d : Nat) : CopyRow w base d (.slice none 0 0) [] :=
  ⟨[], [], World.ownsRow_nil _ _ _ _, rfl, Fp.nil _ _, fun g hg => by simp, fun j hj => by simp at hj⟩
theorem CopyRow.kept {w w' : World} {base d : Nat} {v : Value} {ts : List Ty} (h : CopyRow w base d v ts) (hz : w.heap.size ≤ w'.heap.size) (hk : ∀ b, base ≤ b → b < w.heap.size → w'.heap[b]? = w.heap[b]?) : CopyRow w' base d v ts := by
  obtain ⟨cs, fps, hown, hl, hf, hg, hat⟩ := h
  have hlt := hown.lt
  refine ⟨cs, fps, ⟨hown.1, ?_⟩, hl, hf.mono (Nat.le_refl _) hz, hg, fun j hj => ?_⟩
  · rcases hown.2 with h | ⟨g, cap, cur, rfl, r1, r2, r3⟩
    · exact Or.inl h
    · exact Or.inr ⟨g, cap, cur, rfl, r1, by rw [hk g (hlt g rfl).1 (hlt g rfl).2]; exact r2, r3⟩
  · obtain ⟨c0, c1, f, h0, h1, h2, h3⟩ := hat j hj
    exact ⟨c0, c1, f, h0, h1, h2, h3.kept hz fun b hb => by have := hf.2 b (flat_mem h2 hb); exact hk b this.1 this.2⟩
theorem CopyRow.below {w w' : World} {base d : Nat} {v : Value} {ts : List Ty} (h : CopyRow w base d v ts) (hb : Below w.heap.size w w') : CopyRow w' base d v ts :=
  h.kept hb.size fun b _ hlt => hb.block b hlt
theorem CopyRow.stored {w : World} {base d : Nat} {v : Value} {ts : List Ty} (h : CopyRow w base d v ts) {p o : Nat} (hp : p < base) (u : Value) : CopyRow (w.setCell ⟨p, o, none⟩ u) base d v ts :=
  h.kept (by simp) fun b hb _ => heap_setCell_other _ _ _ _ (by simp; omega)
theorem CopyRow.form {w : World} {base d : Nat} {v : Value} {ts : List Ty} (h : CopyRow w base d v ts) : ∃ a c, v = .slice a ts.length c := by
  obtain ⟨cs, fps, hown, _⟩ := h
  rcases hown.2 with ⟨h1, h2⟩ | ⟨g, cap, cur, h1, _⟩
  · exact ⟨none, 0, by rw [h1, h2]⟩
  · exact ⟨_, cap, h1⟩
/-- An element is appended: wr is the world ahead of the element, w' the one behind it, w1 the one behind the append. -/
theorem CopyRow.append {wr w' : World} {base d : Nat} {v z0 z1 : Value} {ts : List Ty} {t : Ty} {f : List Nat} (h : CopyRow wr base d v ts) (hb : Below wr.heap.size wr w') (hbase : base ≤ wr.heap.size)
    (ht : TyOwn w' d (.agg #[z0, z1]) t f) (hft : Fp wr.heap.size w'.heap.size f) :
    ∃ cs, w'.ownsRow base 35 2 v ts.length cs ∧ ∀ (o : Obj) (g cap : Nat) (w1 : World), w1.ownsRow base 35 2 (.slice (some ⟨g, 0, none⟩) (ts.length + 1) cap) (ts.length + 1) (cs ++ [z0, z1]) →
      (w'.alloc o).grownBy w1 v.ownBlock → (v.ownBlock = some g ∨ g = w'.heap.size + 1) → CopyRow w1 base d (.slice (some ⟨g, 0, none⟩) (ts.length + 1) cap) (ts ++ [t]) := by
  obtain ⟨cs, fps, hown, hl, hf, hg, hat⟩ := h
  have hlt := hown.lt
  have hcs : cs.length = ts.length * 2 := hown.1
  have hz := hb.size
  refine ⟨cs, own_below hown hb, fun o g cap w1 hown1 hgrow hnew => ?_⟩
  have hza : (w'.alloc o).heap.size = w'.heap.size + 1 := by simp
  have hz1 := hgrow.size
  rw [hza] at hz1
  have hkeep : ∀ b, b < w'.heap.size → v.ownBlock ≠ some b → w1.heap[b]? = w'.heap[b]? := fun b h1 h2 => by
    rw [hgrow.block b (by rw [hza]; omega) (fun e => h2 e.symm), heap_alloc_old _ _ h1]
  refine ⟨_, fps ++ [f], by simpa using hown1, by simp [hl], ?_, ?_, fun j hj => ?_⟩
  · rw [List.flatten_append, List.flatten_cons, List.flatten_nil, List.append_nil]
    exact (hf.join hft hbase hz).mono (Nat.le_refl _) (by omega)
  · intro g' hg'
    simp only [Value.ownBlock, Option.some.injEq] at hg'
    subst hg'
    rw [List.flatten_append, List.flatten_cons, List.flatten_nil, List.append_nil]
    intro hm
    rcases List.mem_append.1 hm with hm | hm
    · rcases hnew with h | h
      · exact hg _ h hm
      · have := (hf.2 _ hm).2; omega
    · rcases hnew with h | h
      · have := (hlt _ h).2; have := (hft.2 _ hm).1; omega
      · have := (hft.2 _ hm).2; omega
  · by_cases hjn : j = ts.length
    · subst hjn
      refine ⟨z0, z1, f, ?_, ?_, ?_, ?_⟩
      · rw [List.getElem?_append_right (by omega), hcs]; simp
      · rw [List.getElem?_append_right (by omega), hcs]; simp
      · rw [List.getElem?_append_right (by omega), hl]; simp
      · rw [List.getElem_append_right (by omega)]
        simp only [Nat.sub_self, List.getElem_cons_zero]
        exact ht.kept (by omega) fun b hbf => hkeep b (hft.2 b hbf).2 (fun e => by have := (hlt b e).2; have := (hft.2 b hbf).1; omega)
    · have hj2 : j < ts.length := by simp at hj; omega
      obtain ⟨c0, c1, f', h0, h1, h2, h3⟩ := hat j hj2
      refine ⟨c0, c1, f', ?_, ?_, ?_, ?_⟩
      · rw [List.getElem?_append_left (by omega)]; exact h0
      · rw [List.getElem?_append_left (by omega)]; exact h1
      · rw [List.getElem?_append_left (by omega)]; exact h2
      · rw [List.getElem_append_left hj2]
        exact (h3.below hb).kept (by omega) fun b hbf => hkeep b (by have := (hf.2 b (flat_mem h2 hbf)).2; omega) (fun e => hg b e (flat_mem h2 hbf))
/-- The row is whole: the tree with this row has blocks of its own. -/
theorem CopyRow.tree {w : World} {base d : Nat} {v : Value} {ts : List Ty} (h : CopyRow w base d v ts) (k : Int) (h0 : -9223372036854775808 ≤ k) (h1 : k ≤ 9223372036854775807) :
    ∃ fp, TyOwn w (d + 1) (.agg #[.int .i64 k, v]) (.node k ts) fp ∧ Fp base w.heap.size fp := by
  obtain ⟨cs, fps, hown, hl, hf, hg, hat⟩ := h
  have hcs : cs.length = ts.length * 2 := hown.1
  rcases hown.2 with ⟨rfl, hn⟩ | ⟨g, cap, cur, rfl, hbg, hgc, hnc, hm, hcur, htake⟩
  · have hts : ts = [] := List.eq_nil_of_length_eq_zero hn
    subst hts
    exact ⟨[], ⟨_, rfl, h0, h1, none, 0, [], [], rfl, Nat.le_refl _, by omega, rfl, rfl, (fun b hb => by cases hb), fun j hj => by simp at hj⟩, Fp.nil _ _⟩
  · have hlt := (hown.lt g rfl).2
    refine ⟨[g] ++ fps.flatten, ⟨_, rfl, h0, h1, some ⟨g, 0, none⟩, cap, [g], fps, rfl, hnc, by unfold maxLen at hm; omega, hl, rfl, fun b hb => by cases List.mem_singleton.1 hb; exact hlt, fun j hj => ?_⟩, ?_⟩
    · obtain ⟨c0, c1, f, e0, e1, e2, e3⟩ := hat j hj
      exact ⟨g, 0, c0, c1, f, rfl, rfl, hlt, by rw [Nat.zero_add, hown.cellAt (j * 2) (by omega)]; exact e0, hown.frozenAt _, by rw [Nat.zero_add, hown.cellAt (j * 2 + 1) (by omega)]; exact e1, e2, e3⟩
    · refine ⟨?_, fun b hb => ?_⟩
      · rw [List.singleton_append, List.nodup_cons]
        exact ⟨hg g rfl, hf.1⟩
      · rcases List.mem_append.1 hb with hb | hb
        · cases List.mem_singleton.1 hb; exact ⟨hbg, hlt⟩
        · exact hf.2 b hb
end Go.Proofs.YtfidcblaabeaaaaDoor
/-
  Proved: spec.l3Copy copies a tree of at most 2^20 nodes into new memory; it leaves the memory that was there as it was.
-/
namespace Go.Proofs.YtfidcblaabeaaaaDoor
open Go.RowKit

/-- Three boxes were laid; below the third one nothing has changed since. -/
theorem three_below {w wr : World} {o q r : Obj} (h : Below (w.heap.size + 2) (((w.alloc o).alloc q).alloc r) wr) : Below w.heap.size w wr :=
  ((((Below.refl _ _).alloc (Nat.le_refl _) _).alloc (by simp) _).alloc (by simp; omega) _).trans (h.mono (by omega))
theorem three_first {w wr : World} {cs : Array Value} {T : TypeId} {q r : Obj} (h : Below (w.heap.size + 2) (((w.alloc (.cells cs T)).alloc q).alloc r) wr) (j : Nat) : wr.cell? ⟨w.heap.size, j, none⟩ = cs[j]? := by
  rw [h.cell (p := ⟨w.heap.size, j, none⟩) (Nat.lt_of_lt_of_le (Nat.lt_succ_self _) (Nat.le_succ _)), World.cell?_alloc_lt _ _ _ (by simp; omega), World.cell?_alloc_lt _ _ _ (by simp)]
  exact World.cell?_alloc_mark w cs T (0, 0) j
theorem three_next {w wr : World} {ds : Array Value} {U : TypeId} {o r : Obj} (h : Below (w.heap.size + 2) (((w.alloc o).alloc (.cells ds U)).alloc r) wr) (j : Nat) : wr.cell? ⟨w.heap.size + 1, j, none⟩ = ds[j]? := by
  rw [h.cell (p := ⟨w.heap.size + 1, j, none⟩) (Nat.lt_succ_self _), World.cell?_alloc_lt _ _ _ (by simp)]
  have := World.cell?_alloc_mark (w.alloc o) ds U (0, 0) j
  rw [show (w.alloc o).heap.size = w.heap.size + 1 from by simp] at this
  exact this
theorem three_frozen {w wr : World} {ds : Array Value} {U : TypeId} {o r : Obj} (h : Below (w.heap.size + 2) (((w.alloc o).alloc (.cells ds U)).alloc r) wr) (j : Nat) : wr.frozen? ⟨w.heap.size + 1, j, none⟩ = false := by
  rw [h.frozen (p := ⟨w.heap.size + 1, j, none⟩) (Nat.lt_succ_self _)]
  simp [go_sem]

set_option maxRecDepth 100000 in
set_option maxHeartbeats 4000000 in
theorem specCopy : ∀ (d : Nat) (v : Value) (t : Ty) (w : World), t.size ≤ 1048577 → TyAt w d v t →
    Calls Tryd.prog 63 #[v] w (ToTyEnd d t w)
  | 0, _, _, _, _, h => h.elim
  | d + 1, v, .node kd ts, w, hsz, h => by
    have IH : Hid (∀ (v : Value) (t : Ty) (w : World), t.size ≤ 1048577 → TyAt w d v t → Calls Tryd.prog 63 #[v] w (ToTyEnd d t w)) := specCopy d
    obtain ⟨i0, hi, hz0, hz1, hz2⟩ := info_parts info_ty
    have HI := Lib.hid hi
    have HZ0 := Lib.hid hz0
    have HZ1 := Lib.hid hz1
    have HZ2 := Lib.hid hz2
    have hlen := Ty.length_le ts
    have HSZ : Hid (1 + Ty.sizes ts ≤ 1048577) := by simp [Ty.size] at hsz; show _ ≤ _; omega
    have hn2 : ts.length ≤ 1048577 := by have := HSZ.out; omega
    clear hsz hlen hi hz0 hz1 hz2
    obtain ⟨sl, rfl, hk0, hk1, a, cap, rfl, hcap, hcap2, hat⟩ := h
    have HAT := Lib.hid hat; clear hat
    go_enter Tryd.func63, Tryd.ntmps63
    go_wp2_with fail
    go_loopw [4] (fun i wr => ∃ (k : Nat) (vo : Value), k ≤ ts.length ∧ i = .int .i64 k ∧ wr.cell? ⟨w.heap.size + 1 + 1, 0, none⟩ = some (.int .i64 kd) ∧ wr.cell? ⟨w.heap.size + 1 + 1, 1, none⟩ = some vo ∧ wr.frozen? ⟨w.heap.size + 1 + 1, 1, none⟩ = false ∧
        CopyRow wr (w.heap.size + 1 + 1 + 1) d vo (ts.take k) ∧ Below (w.heap.size + 2) (((w.alloc (.cells #[.int .i64 kd, .slice a ts.length cap] 35)).alloc (.cells #[.int .i64 0, .slice none 0 0] 35)).alloc (.cells #[.int .i64 kd, .slice none 0 0] 35)) wr) (fun i _ => ts.length - (intOf i).toNat)
    case atStart => exact ⟨0, _, by omega, rfl, by simp [go_sem], by simp [go_sem], by simp [go_sem], CopyRow.nil _ _ _, Below.refl _ _⟩
    case round =>
      obtain ⟨k, vo, hk, rfl, o0, o1, o2, hrow, hb⟩ := hrel
      obtain ⟨oa, oc, hvo⟩ := hrow.form
      rw [List.length_take, Nat.min_eq_left hk] at hvo
      subst hvo
      have HROW := Lib.hid hrow; clear hrow
      have hz := hb.size
      simp only [World.size_alloc] at hz
      have b0 := three_first hb 0
      have b1 := three_first hb 1
      have HB := Lib.hid hb
      have HBW := Lib.hid (three_below hb); clear hb
      by_cases hlt : k < ts.length
      · obtain ⟨b, off, x0, x1, rfl, hbl, hc0, hc1, ht⟩ := HAT.out k hlt
        have hg := Ty.size_get ts k hlt
        have e0 : wr.cell? ⟨b, off + k * 2, none⟩ = some x0 := by rw [HBW.out.cell (p := ⟨b, off + k * 2, none⟩) hbl]; exact hc0
        have e1 : wr.cell? ⟨b, off + k * 2 + 1, none⟩ = some x1 := by rw [HBW.out.cell (p := ⟨b, off + k * 2 + 1, none⟩) hbl]; exact hc1
        have HT := Lib.hid ((ht.below HBW.out).below (below_drew wr))
        have hzk : ts[k].size ≤ 1048577 := by have := HSZ.out; omega
        clear ht hc0 hc1 hg
        go_wp2_with fail
        go_region_law (first
          | (refine step_append_lies _ (by rfl) (.tmp 16) (.tmp 23) 33 (by rfl) (w.heap.size + 1 + 1 + 1) 35 i0 (.agg #[.int .i64 0, .slice none 0 0]) 2 32 Tryd.underlying33 HI.out HZ0.out HZ1.out HZ2.out rfl (by omega) (.slice oa k oc) k cs (by simp [Act.eval]) (HOWN.out.alloc _) ⟨w'.heap.size, 0, none⟩ 1 1 [.int .i64 zk, .slice za zn zc] (by simp [Act.eval]) rfl (World.news_of_block (cs := #[.int .i64 zk, .slice za zn zc]) (t := 35) (fr := (0, 0)) (heap_alloc_new w' _)) (by simp [Value.oneCell']) (by omega) (by unfold maxLen; omega) (by omega) (by simp; omega) (w'.heap.size + 1) (by simp) ?_
             intro g gc w1 hown1 hgrow hat1 hlt1
             have hne : some (w.heap.size + 1 + 1) ≠ (Value.slice oa k oc).ownBlock := fun e => by have := (HOWN.out.lt _ e.symm).1; omega
             have hlw : w.heap.size + 1 + 1 < w'.heap.size := by omega
             have k1 : w1.cell? ⟨w.heap.size + 1 + 1, 1, none⟩ = some (.slice oa k oc) := by
               rw [hgrow.cell_far _ (by simp; omega) hne, World.cell?_of_block (heap_alloc_old _ _ hlw)]; exact o1'
             have k0 : w1.cell? ⟨w.heap.size + 1 + 1, 0, none⟩ = some (.int .i64 kd) := by
               rw [hgrow.cell_far _ (by simp; omega) hne, World.cell?_of_block (heap_alloc_old _ _ hlw)]; exact o0'
             have k2 : w1.frozen? ⟨w.heap.size + 1 + 1, 1, none⟩ = false := by
               rw [hgrow.frozen_far _ (by simp; omega) hne, World.frozen?_of_block (heap_alloc_old _ _ hlw)]; exact o2'
             have HR1 := Lib.hid (HAPP.out _ g gc w1 hown1 hgrow hat1)
             have hz2 := hgrow.size
             have HB3 : Hid (Below (w.heap.size + 2) (((w.alloc (.cells #[.int .i64 kd, .slice (some ⟨b, off, none⟩) ts.length cap] 35)).alloc (.cells #[.int .i64 0, .slice none 0 0] 35)).alloc (.cells #[.int .i64 kd, .slice none 0 0] 35)) w1) :=
               (((HB.out.trans (HB2.out.mono (by omega))).alloc (by omega) _).grown hgrow (by simp; omega) (fun k hk => by have := (HOWN.out.lt _ hk).1; omega))
             clear hown1 hgrow hat1 hlt1 hne hlw)
          | (go_simp
             go_at_call 63
             refine (IH.out _ _ _ hzk HT.out).mono ?_
             rintro e w' ⟨v2, fp, rfl, ht, hfp, hb1⟩
             obtain ⟨zk, za, zn, zc, rfl, HY⟩ := ty_parts ht
             clear ht
             have hb2 := below_thru (below_drew wr) (Nat.le_refl _) hb1
             have hz1 := hb2.size
             obtain ⟨cs, hown, happ⟩ := HROW.out.append hb2 (by omega) HY.out hfp
             rw [List.length_take, Nat.min_eq_left hk] at hown happ
             have HOWN := Lib.hid hown
             have HAPP := Lib.hid happ
             have HB2 := Lib.hid hb2
             have o1' := (hb2.cell (p := ⟨w.heap.size + 1 + 1, 1, none⟩) (by show w.heap.size + 1 + 1 < _; omega)).trans o1
             have o1'' : (w'.alloc (.cells #[.int .i64 zk, .slice za zn zc] 35)).cell? ⟨w.heap.size + 1 + 1, 1, none⟩ = some (.slice oa k oc) := (World.cell?_of_block (heap_alloc_old _ _ (by show w.heap.size + 1 + 1 < _; omega))).trans o1'
             have o0' := (hb2.cell (p := ⟨w.heap.size + 1 + 1, 0, none⟩) (by show w.heap.size + 1 + 1 < _; omega)).trans o0
             have o2' := (hb2.frozen (p := ⟨w.heap.size + 1 + 1, 1, none⟩) (by show w.heap.size + 1 + 1 < _; omega)).trans o2
             have b1' := (hb2.cell (p := ⟨w.heap.size, 1, none⟩) (by show w.heap.size < _; omega)).trans b1
             clear hown happ hb1 hb2 HY))
        all_goals go_wp2_with fail
        all_goals
          exact ⟨⟨k + 1, .slice (some ⟨g, 0, none⟩) (k + 1) gc, by omega, by go_num, by simp [go_sem, k0], by simp [go_sem, k1], by simp [go_sem, k2], by rw [List.take_succ_eq_append_getElem hlt]; exact HR1.out.stored (by omega) _, HB3.out.setCell (by simp) _⟩, by simp [intOf]; omega⟩
      · obtain rfl : k = ts.length := by omega
        have p10 := three_next HB.out 0
        have p11 := three_next HB.out 1
        have q10 := three_frozen HB.out 0
        have q11 := three_frozen HB.out 1
        go_wp2_with fail
        have HR2 := (HROW.out.stored (p := w.heap.size + 1) (o := 0) (by omega) (.int .i64 kd)).stored (p := w.heap.size + 1) (o := 1) (by omega) (.slice oa ts.length oc)
        rw [List.take_length] at HR2
        obtain ⟨fp, hown, hfp⟩ := HR2.tree kd hk0 hk1
        have g0 : ((wr.setCell ⟨w.heap.size + 1, 0, none⟩ (.int .i64 kd)).setCell ⟨w.heap.size + 1, 1, none⟩ (.slice oa ts.length oc)).cell? ⟨w.heap.size + 1, 0, none⟩ = some (.int .i64 kd) := by simp [go_sem, p10]
        have g1 : ((wr.setCell ⟨w.heap.size + 1, 0, none⟩ (.int .i64 kd)).setCell ⟨w.heap.size + 1, 1, none⟩ (.slice oa ts.length oc)).cell? ⟨w.heap.size + 1, 1, none⟩ = some (.slice oa ts.length oc) := by simp [go_sem, p11]
        refine bodyPost_ret (v := .agg #[.int .i64 kd, .slice oa ts.length oc]) (by simp [results, Tryd.results63, go_sem, g0, g1]) rfl ?_
        exact ⟨_, fp, rfl, hown, hfp.mono (by omega) (Nat.le_refl _), (HBW.out.setCell (by simp) _).setCell (by simp) _⟩
end Go.Proofs.YtfidcblaabeaaaaDoor
/-
  Proved: spec.l6Copy copies an expression into new memory; it leaves the memory that was there as it was.
-/
namespace Go.Proofs.YtfidcblaabeaaaaDoor
open Go.RowKit

theorem box_five {w : World} {p : Nat} {c0 c1 c2 c3 c4 c5 : Value} (h : BoxAt w p #[c0, c1, c2, c3, c4, c5]) : w.cell? ⟨p, 0, none⟩ = some c0 ∧ w.cell? ⟨p, 1, none⟩ = some c1 ∧ w.cell? ⟨p, 2, none⟩ = some c2 ∧ w.cell? ⟨p, 3, none⟩ = some c3 ∧ w.cell? ⟨p, 4, none⟩ = some c4 := ⟨h.2 0, h.2 1, h.2 2, h.2 3, h.2 4⟩
theorem box_six {w : World} {p : Nat} {c0 c1 c2 c3 c4 c5 : Value} (h : BoxAt w p #[c0, c1, c2, c3, c4, c5]) : w.cell? ⟨p, 0, none⟩ = some c0 ∧ w.cell? ⟨p, 1, none⟩ = some c1 ∧ w.cell? ⟨p, 2, none⟩ = some c2 ∧ w.cell? ⟨p, 3, none⟩ = some c3 ∧ w.cell? ⟨p, 4, none⟩ = some c4 ∧ w.cell? ⟨p, 5, none⟩ = some c5 := ⟨h.2 0, h.2 1, h.2 2, h.2 3, h.2 4, h.2 5⟩
theorem free_six {w : World} {p : Nat} (h : FreeAt w p) : w.frozen? ⟨p, 0, none⟩ = false ∧ w.frozen? ⟨p, 1, none⟩ = false ∧ w.frozen? ⟨p, 2, none⟩ = false ∧ w.frozen? ⟨p, 3, none⟩ = false ∧ w.frozen? ⟨p, 4, none⟩ = false ∧ w.frozen? ⟨p, 5, none⟩ = false := ⟨h.2 0, h.2 1, h.2 2, h.2 3, h.2 4, h.2 5⟩
/-- The new node, without its parts, all of it made since W. -/
def OutAt (W : World) (d : Nat) (kd : Int) (nm : ByteArray) (n : Int) (ty : Ty) (s : Value) (wx : World) : Prop :=
  ∃ p zk za zn zc f1, s = .pointer (some ⟨p, 0, none⟩) ∧ W.heap.size ≤ p ∧ BoxAt wx p #[.int .i64 kd, .string nm, .int .i64 n, .int .i64 zk, .slice za zn zc, .slice none 0 0] ∧ FreeAt wx p ∧ TyOwn wx d (.agg #[.int .i64 zk, .slice za zn zc]) ty f1 ∧ Fp W.heap.size wx.heap.size f1 ∧ p ∉ f1 ∧ Below W.heap.size W wx
theorem out_new {W w8 : World} {d : Nat} {kd : Int} {nm : ByteArray} {n : Int} {ty : Ty} {zk : Int} {za : Option Addr} {zn zc lo : Nat} {f1 : List Nat} {T : TypeId} (G : Below W.heap.size W w8) (Ht : TyOwn w8 d (.agg #[.int .i64 zk, .slice za zn zc]) ty f1) (Hf : Fp lo w8.heap.size f1) (hlo : W.heap.size ≤ lo) :
    OutAt W d kd nm n ty (.pointer (some ⟨w8.heap.size, 0, none⟩)) (w8.alloc (.cells #[.int .i64 kd, .string nm, .int .i64 n, .int .i64 zk, .slice za zn zc, .slice none 0 0] T)) :=
  ⟨w8.heap.size, zk, za, zn, zc, f1, rfl, G.size, BoxAt.new _ _ _, FreeAt.new _ _ _, Ht.below (below_alloc _ _), Hf.mono hlo (by simp), fun h => Nat.lt_irrefl _ (Hf.2 _ h).2, G.alloc G.size _⟩
theorem out_old {W w8 : World} {d : Nat} {kd : Int} {nm : ByteArray} {n : Int} {ty : Ty} {zk : Int} {za : Option Addr} {zn zc lo p : Nat} {f1 : List Nat} (G : Below W.heap.size W w8) (Ht : TyOwn w8 d (.agg #[.int .i64 zk, .slice za zn zc]) ty f1) (Hf : Fp lo w8.heap.size f1) (hlo : W.heap.size ≤ lo)
    (hP : W.heap.size ≤ p) (hp : p < lo) (X : BoxAt w8 p #[.int .i64 0, .string ⟨#[]⟩, .int .i64 0, .int .i64 0, .slice none 0 0, .slice none 0 0]) (F : FreeAt w8 p) :
    OutAt W d kd nm n ty (.pointer (some ⟨p, 0, none⟩)) ((((((w8.setCell ⟨p, 0, none⟩ (.int .i64 kd)).setCell ⟨p, 1, none⟩ (.string nm)).setCell ⟨p, 2, none⟩ (.int .i64 n)).setCell ⟨p, 3, none⟩ (.int .i64 zk)).setCell ⟨p, 4, none⟩ (.slice za zn zc)).setCell ⟨p, 5, none⟩ (.slice none 0 0)) := by
  refine ⟨p, zk, za, zn, zc, f1, rfl, hP, ?_, F.put.put.put.put.put.put, ?_, Hf.mono hlo (by simp), fun h => by have := (Hf.2 _ h).1; omega, (((((G.setCell hP _).setCell hP _).setCell hP _).setCell hP _).setCell hP _).setCell hP _⟩
  · have h1 := X.put (j := 0) (u := .int .i64 kd) (by simp)
    have h2 := h1.put (j := 1) (u := .string nm) (by simp)
    have h3 := h2.put (j := 2) (u := .int .i64 n) (by simp)
    have h4 := h3.put (j := 3) (u := .int .i64 zk) (by simp)
    have h5 := h4.put (j := 4) (u := .slice za zn zc) (by simp)
    have h6 := h5.put (j := 5) (u := .slice none 0 0) (by simp)
    simpa using h6
  · exact Ht.kept (by simp) fun b hb => by
      have := (Hf.2 b hb).1
      rw [heap_setCell_other _ _ _ _ (by simp; omega), heap_setCell_other _ _ _ _ (by simp; omega), heap_setCell_other _ _ _ _ (by simp; omega), heap_setCell_other _ _ _ _ (by simp; omega), heap_setCell_other _ _ _ _ (by simp; omega), heap_setCell_other _ _ _ _ (by simp; omega)]

set_option maxRecDepth 100000 in
set_option maxHeartbeats 4000000 in
theorem specExCopy : ∀ (d : Nat) (v : Value) (t : Ex) (w : World), t.bulk ≤ 1048576 → ExAt w d v t →
    Calls Tryd.prog 49 #[v] w (ToExEnd d t w)
  | 0, _, _, _, _, h => h.elim
  | d + 1, v, .node kd nm n ty es, w, hsz, h => by
    have IH : Hid (∀ (v : Value) (t : Ex) (w : World), t.bulk ≤ 1048576 → ExAt w d v t → Calls Tryd.prog 49 #[v] w (ToExEnd d t w)) := specExCopy d
    obtain ⟨i0, hi, hz0, hz1, hz2⟩ := info_parts info_ex
    have HI := Lib.hid hi
    have HZ0 := Lib.hid hz0
    have HZ1 := Lib.hid hz1
    have HZ2 := Lib.hid hz2
    clear hi hz0 hz1 hz2
    have HV := ex_parts h
    obtain ⟨c3, c4, sl, rfl, hk0, hk1, hn0, hn1, hnm, hty, a, cap, rfl, hcap, hcap2, hat⟩ := h
    obtain ⟨k', nm', n', tk, ta, tn, tc, sa, sn, sc, hv⟩ := HV
    injection hv with hv
    injection hv with hv
    simp at hv
    obtain ⟨rfl, rfl, rfl, rfl, rfl, rfl, rfl, rfl⟩ := hv
    have HAT := Lib.hid hat; clear hat
    have HTY := Lib.hid hty; clear hty
    have hbk : (Ex.node kd nm n ty es).bulk = nm.size + (ty.size - 1) + Ex.bulks es := rfl
    have HSZ : Hid (Ex.bulks es ≤ 1048576) := by show _ ≤ _; omega
    have HTZ : Hid (ty.size ≤ 1048577) := by show _ ≤ _; omega
    have hn2 : es.length ≤ 1048576 := by have := Ex.length_le es; omega
    clear hsz hbk
    obtain ⟨W, hW⟩ : ∃ W, W = (w.alloc (.cells #[.int .i64 kd, .string nm, .int .i64 n, .int .i64 tk, .slice ta tn tc, .slice a es.length cap] 38)).alloc (.cells #[.int .i64 0, .string ⟨#[]⟩, .int .i64 0, .int .i64 0, .slice none 0 0, .slice none 0 0] 38) := ⟨_, rfl⟩
    have XB : Hid (BoxAt W w.heap.size #[.int .i64 kd, .string nm, .int .i64 n, .int .i64 tk, .slice ta tn tc, .slice a es.length cap]) := by
      rw [hW]; exact (BoxAt.new _ _ _).below (below_alloc _ _)
    have BW : Hid (Below w.heap.size w W) := by
      rw [hW]; exact ((Below.refl _ _).alloc (Nat.le_refl _) _).alloc (by simp) _
    have HTW := Lib.hid (HTY.out.below BW.out)
    have hWs : W.heap.size = w.heap.size + 1 + 1 := by rw [hW]; simp
    go_enter Tryd.func49, Tryd.ntmps49
    go_upto_region 1 with fail
    go_cut [3] (fun s wx => OutAt W d kd nm n ty s wx)
    case first =>
      rw [← hW]
      have HWS := Lib.hid hWs
      clear hW hWs
      have G := Lib.hid (below_drew W)
      go_region_held3 (fun w' => w'.cell? ⟨w.heap.size, 0, none⟩ = some (.int .i64 kd) ∧ w'.cell? ⟨w.heap.size, 1, none⟩ = some (.string nm) ∧ w'.cell? ⟨w.heap.size, 2, none⟩ = some (.int .i64 n) ∧ w'.cell? ⟨w.heap.size, 3, none⟩ = some (.int .i64 tk) ∧ w'.cell? ⟨w.heap.size, 4, none⟩ = some (.slice ta tn tc)) (refine ⟨(by (repeat (rw [World.cell?_setCell_other _ _ _ _ (by first | (simp; have hws := HWS.out; omega) | simp)])); first | with_reducible exact (box_five (XB.out.below G.out)).1 | with_reducible exact (box_five (XB.out.below (G.out.alloc G.out.size _))).1 | with_reducible exact (box_five (XB.out.below (below_alloc _ _).drew)).1), (by (repeat (rw [World.cell?_setCell_other _ _ _ _ (by first | (simp; have hws := HWS.out; omega) | simp)])); first | with_reducible exact (box_five (XB.out.below G.out)).2.1 | with_reducible exact (box_five (XB.out.below (G.out.alloc G.out.size _))).2.1 | with_reducible exact (box_five (XB.out.below (below_alloc _ _).drew)).2.1), (by (repeat (rw [World.cell?_setCell_other _ _ _ _ (by first | (simp; have hws := HWS.out; omega) | simp)])); first | with_reducible exact (box_five (XB.out.below G.out)).2.2.1 | with_reducible exact (box_five (XB.out.below (G.out.alloc G.out.size _))).2.2.1 | with_reducible exact (box_five (XB.out.below (below_alloc _ _).drew)).2.2.1), (by (repeat (rw [World.cell?_setCell_other _ _ _ _ (by first | (simp; have hws := HWS.out; omega) | simp)])); first | with_reducible exact (box_five (XB.out.below G.out)).2.2.2.1 | with_reducible exact (box_five (XB.out.below (G.out.alloc G.out.size _))).2.2.2.1 | with_reducible exact (box_five (XB.out.below (below_alloc _ _).drew)).2.2.2.1), (by (repeat (rw [World.cell?_setCell_other _ _ _ _ (by first | (simp; have hws := HWS.out; omega) | simp)])); first | with_reducible exact (box_five (XB.out.below G.out)).2.2.2.2 | with_reducible exact (box_five (XB.out.below (G.out.alloc G.out.size _))).2.2.2.2 | with_reducible exact (box_five (XB.out.below (below_alloc _ _).drew)).2.2.2.2)⟩)
        (first
         | (go_at_call 63
            refine (specCopy d _ ty _ HTZ.out ?_).mono ?_
            · first | exact HTW.out.below G.out | exact HTW.out.below (G.out.alloc G.out.size _) | exact HTW.out.below (below_alloc _ _).drew
            rintro e wo ⟨o, fp, rfl, ht, hf, hb⟩
            obtain ⟨zk, za, zn, zc, rfl, HY⟩ := ty_parts ht
            have HF := Lib.hid hf
            clear ht hf
            have hzo := hb.size
            try simp only [World.size_drew] at hzo
            try simp only [World.size_alloc] at hzo
            try simp only [World.size_drew] at hzo
            first
              | (have XO : Hid (BoxAt wo W.heap.size #[.int .i64 0, .string ⟨#[]⟩, .int .i64 0, .int .i64 0, .slice none 0 0, .slice none 0 0]) := Lib.hid ((BoxAt.new _ _ _).below hb)
                 have XF : Hid (FreeAt wo W.heap.size) := Lib.hid ((FreeAt.new _ #[.int .i64 0, .string ⟨#[]⟩, .int .i64 0, .int .i64 0, .slice none 0 0, .slice none 0 0] _).below hb)
                 have G2 := Lib.hid (below_on (G.out.alloc G.out.size _) hb (G.out.alloc G.out.size _).size)
                 clear G
                 have G := G2
                 clear G2
                 obtain ⟨r0, r1, r2, r3, r4, r5⟩ := box_six XO.out
                 obtain ⟨q0, q1, q2, q3, q4, q5⟩ := free_six XF.out)
              | (have XO : Hid (BoxAt wo W.heap.size #[.int .i64 0, .string ⟨#[]⟩, .int .i64 0, .int .i64 0, .slice none 0 0, .slice none 0 0]) := Lib.hid (((BoxAt.new _ _ _).below (below_drew _)).below hb)
                 have XF : Hid (FreeAt wo W.heap.size) := Lib.hid (((FreeAt.new _ #[.int .i64 0, .string ⟨#[]⟩, .int .i64 0, .int .i64 0, .slice none 0 0, .slice none 0 0] _).below (below_drew _)).below hb)
                 have G2 := Lib.hid (below_on (below_alloc W _).drew hb (below_alloc W _).drew.size)
                 clear G
                 have G := G2
                 clear G2
                 obtain ⟨r0, r1, r2, r3, r4, r5⟩ := box_six XO.out
                 obtain ⟨q0, q1, q2, q3, q4, q5⟩ := free_six XF.out)
              | (replace G := Lib.hid (below_on G.out hb G.out.size))
            clear hb))
      all_goals go_wp2_with fail
      all_goals go_meet
      all_goals first | with_reducible refine out_new G.out HY.out HF.out ?_ | with_reducible refine out_old G.out HY.out HF.out ?_ ?_ ?_ XO.out XF.out | trace_state
      all_goals ((try simp only [World.size_drew]); (try simp only [World.size_alloc]); (try simp only [World.size_drew]); omega)
    case rest =>
      obtain ⟨w3, hwc⟩ : ∃ u, u = wc := ⟨_, rfl⟩
      subst hwc
      obtain ⟨p, zk, za, zn, zc, f1, rfl, hp, hX, hF, hT, hFp, hpf, hb⟩ := hcut
      have XR0 : Hid (BoxAt W (w.heap.size + 1) #[.int .i64 0, .string ⟨#[]⟩, .int .i64 0, .int .i64 0, .slice none 0 0, .slice none 0 0]) := by rw [hW]; exact box_at (BoxAt.new _ _ _) (by simp)
      have FR0 : Hid (FreeAt W (w.heap.size + 1)) := by rw [hW]; exact free_at (FreeAt.new _ _ _) (by simp)
      have HFP := Lib.hid hFp
      have HPF := Lib.hid hpf
      have HX3 := Lib.hid hX
      have HF3 := Lib.hid hF
      have HT3 := Lib.hid hT
      have HB3 := Lib.hid hb
      have HWS := Lib.hid hWs
      have HPW := Lib.hid hp
      have HP3 : Hid (p < w3.heap.size) := hX.1
      have HW3 : Hid (W.heap.size ≤ w3.heap.size) := hb.size
      clear hX hF hT hFp hpf hb hW hWs hp
      go_wp2_with fail
      go_loopw [4] (fun i wr => ∃ (k : Nat) (vo : Value), k ≤ es.length ∧ i = .int .i64 k ∧ BoxAt wr p #[.int .i64 kd, .string nm, .int .i64 n, .int .i64 zk, .slice za zn zc, vo] ∧ FreeAt wr p ∧ ExRow wr w3.heap.size d vo (es.take k) ∧ TyOwn wr d (.agg #[.int .i64 zk, .slice za zn zc]) ty f1 ∧ w3.heap.size ≤ wr.heap.size ∧ Below W.heap.size W wr) (fun i _ => es.length - (intOf i).toNat)
      case atStart => exact ⟨0, _, by omega, rfl, HX3.out, HF3.out, ExRow.nil _ _ _, HT3.out, Nat.le_refl _, HB3.out⟩
      case round =>
        obtain ⟨k, vo, hk, rfl, hxp, hfp, hrow, hty, hz3, hb⟩ := hrel
        obtain ⟨oa, oc, hvo⟩ := hrow.form
        rw [List.length_take, Nat.min_eq_left hk] at hvo
        subst hvo
        have HROW := Lib.hid hrow; clear hrow
        have XP := Lib.hid hxp; clear hxp
        have XF := Lib.hid hfp; clear hfp
        have HT := Lib.hid hty; clear hty
        have HBW := Lib.hid hb
        have HBB := Lib.hid (below_thru BW.out (Nat.le_refl _) hb); clear hb
        have HZ3 := Lib.hid hz3; clear hz3
        have b5 := (XB.out.below HBW.out).2 5
        by_cases hlt : k < es.length
        · obtain ⟨b, off, x0, x1, x2, x3, x4, x5, rfl, hbl, hc0, hc1, hc2, hc3, hc4, hc5, ht⟩ := HAT.out k hlt
          have hg := Ex.bulk_get es k hlt
          have hzk : es[k].bulk ≤ 1048576 := by have := HSZ.out; omega
          have e0 : wr.cell? ⟨b, off + k * 6, none⟩ = some x0 := by rw [HBB.out.cell (p := ⟨b, off + k * 6, none⟩) hbl]; exact hc0
          have e1 : wr.cell? ⟨b, off + k * 6 + 1, none⟩ = some x1 := by rw [HBB.out.cell (p := ⟨b, off + k * 6 + 1, none⟩) hbl]; exact hc1
          have e2 : wr.cell? ⟨b, off + k * 6 + 2, none⟩ = some x2 := by rw [HBB.out.cell (p := ⟨b, off + k * 6 + 2, none⟩) hbl]; exact hc2
          have e3 : wr.cell? ⟨b, off + k * 6 + 3, none⟩ = some x3 := by rw [HBB.out.cell (p := ⟨b, off + k * 6 + 3, none⟩) hbl]; exact hc3
          have e4 : wr.cell? ⟨b, off + k * 6 + 4, none⟩ = some x4 := by rw [HBB.out.cell (p := ⟨b, off + k * 6 + 4, none⟩) hbl]; exact hc4
          have e5 : wr.cell? ⟨b, off + k * 6 + 5, none⟩ = some x5 := by rw [HBB.out.cell (p := ⟨b, off + k * 6 + 5, none⟩) hbl]; exact hc5
          have HTE := Lib.hid ((ht.below HBB.out).below (below_drew wr))
          have o5 := XP.out.2 5
          have z5 := XF.out.2 5
          clear ht hc0 hc1 hc2 hc3 hc4 hc5 hg
          go_wp2_with fail
          go_region_law (first
            | (refine step_append_lies _ (by rfl) (.tmp 23) (.tmp 30) 36 (by rfl) w3.heap.size 38 i0 (.agg #[.int .i64 0, .string ⟨#[]⟩, .int .i64 0, .int .i64 0, .slice none 0 0, .slice none 0 0]) 6 88 Tryd.underlying36 HI.out HZ0.out HZ1.out HZ2.out rfl (by omega) (.slice oa k oc) k cs (by simp [Act.eval]) (HOWN.out.alloc _) ⟨w'.heap.size, 0, none⟩ 1 1 [.int .i64 yk, .string ynm, .int .i64 yn, .int .i64 ytk, .slice yta ytn ytc, .slice ya ym yc] (by simp [Act.eval]) rfl (World.news_of_block (cs := #[.int .i64 yk, .string ynm, .int .i64 yn, .int .i64 ytk, .slice yta ytn ytc, .slice ya ym yc]) (t := 38) (fr := (0, 0)) (heap_alloc_new w' _)) (by simp [Value.oneCell']) (by omega) (by unfold maxLen; omega) (by omega) (by simp; have h1 := HZ3.out; omega) (w'.heap.size + 1) (by simp) ?_
               intro g gc w1 hown1 hgrow hat1 hlt1
               have hz2 := hgrow.size
               have hz3 := HZ3.out
               have hp3 := HP3.out
               simp only [World.size_alloc] at hz2
               have KP : Hid (∀ b, b < w3.heap.size → w1.heap[b]? = w'.heap[b]?) := fun b hb => by
                 rw [hgrow.block b (by simp; omega) (fun e => by have := (HOWN.out.lt _ e.symm).1; omega), heap_alloc_old _ _ (by omega)]
               have XP1 : Hid (BoxAt w1 p #[.int .i64 kd, .string nm, .int .i64 n, .int .i64 zk, .slice za zn zc, .slice oa k oc]) := XP2.out.kept (by omega) (KP.out p hp3)
               have XF1 : Hid (FreeAt w1 p) := ⟨by omega, fun j => (World.frozen?_of_block (a := ⟨p, j, none⟩) (KP.out p hp3)).trans (XF2.out.2 j)⟩
               have HT1 : Hid (TyOwn w1 d (.agg #[.int .i64 zk, .slice za zn zc]) ty f1) := HT2.out.kept (by omega) fun b hb => KP.out b (HFP.out.2 b hb).2
               have HR1 := Lib.hid (HAPP.out _ g gc w1 hown1 hgrow hat1)
               have HB4 : Hid (Below W.heap.size W w1) := ((HBW.out.trans (HB2.out.mono (by have := HBW.out.size; omega))).alloc (by have := HW3.out; omega) _).grown hgrow (by simp; have := HW3.out; omega) (fun k hk => by have := (HOWN.out.lt _ hk).1; have := HW3.out; omega)
               have k5 := XP1.out.2 5
               have f5 := XF1.out.2 5
               have hz4 : w3.heap.size ≤ w1.heap.size := by omega
               clear hown1 hgrow hat1 hlt1 hz2)
            | (go_simp
               go_at_call 49
               refine (IH.out _ _ _ hzk HTE.out).mono ?_
               rintro e w' ⟨v2, fp, rfl, ht, hfp, hb1⟩
               obtain ⟨yk, ynm, yn, ytk, yta, ytn, ytc, ya, ym, yc, rfl⟩ := ex_parts ht.at_
               have hb2 := below_thru (below_drew wr) (Nat.le_refl _) hb1
               have hz1 := hb2.size
               obtain ⟨cs, hown, happ⟩ := HROW.out.append hb2 HZ3.out ht hfp
               rw [List.length_take, Nat.min_eq_left hk] at hown happ
               have HOWN := Lib.hid hown
               have HAPP := Lib.hid happ
               have HB2 := Lib.hid hb2
               have XP2 := Lib.hid (XP.out.below hb2)
               have XF2 := Lib.hid (XF.out.below hb2)
               have HT2 : Hid (TyOwn w' d (.agg #[.int .i64 zk, .slice za zn zc]) ty f1) := HT.out.kept hz1 fun b hb => hb2.block b (Nat.lt_of_lt_of_le (HFP.out.2 b hb).2 HZ3.out)
               have o5' := XP2.out.2 5
               have o5'' := (XP2.out.below (below_alloc w' (.cells #[.int .i64 yk, .string ynm, .int .i64 yn, .int .i64 ytk, .slice yta ytn ytc, .slice ya ym yc] 38))).2 5
               have z5' := XF2.out.2 5
               have b5' := ((XB.out.below HBW.out).below hb2).2 5
               clear hown happ hb1 hb2 ht hfp))
          all_goals go_wp2_with fail
          all_goals
            exact ⟨⟨k + 1, .slice (some ⟨g, 0, none⟩) (k + 1) gc, by omega, by go_num, XP1.out.put (j := 5) (u := .slice (some ⟨g, 0, none⟩) (k + 1) gc) (by simp), XF1.out.put, by rw [List.take_succ_eq_append_getElem hlt]; exact HR1.out.stored HP3.out _, HT1.out.kept (by simp) (fun b hb => heap_setCell_other _ _ _ _ (fun e => HPF.out (by have e2 : b = p := e; rw [← e2]; exact hb))), by simpa using hz4, HB4.out.setCell HPW.out _⟩, by simp [intOf]; omega⟩
        · obtain rfl : k = es.length := by omega
          have hlw : w.heap.size + 1 < w3.heap.size := by have := HWS.out; have := HW3.out; omega
          have XR := Lib.hid (XR0.out.below HBW.out)
          have FR := Lib.hid (FR0.out.below HBW.out)
          have o0 := XP.out.2 0
          have r0 := XR.out.2 0
          have s0 := FR.out.2 0
          have o1 := XP.out.2 1
          have r1 := XR.out.2 1
          have s1 := FR.out.2 1
          have o2 := XP.out.2 2
          have r2 := XR.out.2 2
          have s2 := FR.out.2 2
          have o3 := XP.out.2 3
          have r3 := XR.out.2 3
          have s3 := FR.out.2 3
          have o4 := XP.out.2 4
          have r4 := XR.out.2 4
          have s4 := FR.out.2 4
          have o5 := XP.out.2 5
          have r5 := XR.out.2 5
          have s5 := FR.out.2 5
          go_wp2_with fail
          have hRF : BoxAt ((((((wr.setCell ⟨w.heap.size + 1, 0, none⟩ (.int .i64 kd)).setCell ⟨w.heap.size + 1, 1, none⟩ (.string nm)).setCell ⟨w.heap.size + 1, 2, none⟩ (.int .i64 n)).setCell ⟨w.heap.size + 1, 3, none⟩ (.int .i64 zk)).setCell ⟨w.heap.size + 1, 4, none⟩ (.slice za zn zc)).setCell ⟨w.heap.size + 1, 5, none⟩ (.slice oa es.length oc)) (w.heap.size + 1) #[.int .i64 kd, .string nm, .int .i64 n, .int .i64 zk, .slice za zn zc, .slice oa es.length oc] := by
            have := ((((((XR.out.put (j := 0) (u := .int .i64 kd) (by simp)).put (j := 1) (u := .string nm) (by simp)).put (j := 2) (u := .int .i64 n) (by simp)).put (j := 3) (u := .int .i64 zk) (by simp)).put (j := 4) (u := .slice za zn zc) (by simp)).put (j := 5) (u := .slice oa es.length oc) (by simp))
            exact this
          have HRW : ExRow ((((((wr.setCell ⟨w.heap.size + 1, 0, none⟩ (.int .i64 kd)).setCell ⟨w.heap.size + 1, 1, none⟩ (.string nm)).setCell ⟨w.heap.size + 1, 2, none⟩ (.int .i64 n)).setCell ⟨w.heap.size + 1, 3, none⟩ (.int .i64 zk)).setCell ⟨w.heap.size + 1, 4, none⟩ (.slice za zn zc)).setCell ⟨w.heap.size + 1, 5, none⟩ (.slice oa es.length oc)) w3.heap.size d (.slice oa es.length oc) es := by
            have := ((((((HROW.out.stored (p := w.heap.size + 1) (o := 0) hlw (.int .i64 kd)).stored (p := w.heap.size + 1) (o := 1) hlw (.string nm)).stored (p := w.heap.size + 1) (o := 2) hlw (.int .i64 n)).stored (p := w.heap.size + 1) (o := 3) hlw (.int .i64 zk)).stored (p := w.heap.size + 1) (o := 4) hlw (.slice za zn zc)).stored (p := w.heap.size + 1) (o := 5) hlw (.slice oa es.length oc))
            rw [List.take_length] at this
            exact this
          have hTF : TyOwn ((((((wr.setCell ⟨w.heap.size + 1, 0, none⟩ (.int .i64 kd)).setCell ⟨w.heap.size + 1, 1, none⟩ (.string nm)).setCell ⟨w.heap.size + 1, 2, none⟩ (.int .i64 n)).setCell ⟨w.heap.size + 1, 3, none⟩ (.int .i64 zk)).setCell ⟨w.heap.size + 1, 4, none⟩ (.slice za zn zc)).setCell ⟨w.heap.size + 1, 5, none⟩ (.slice oa es.length oc)) d (.agg #[.int .i64 zk, .slice za zn zc]) ty f1 := HT.out.kept (by simp) fun b hb => by
            have h1 := (HFP.out.2 b hb).1
            have h2 := HWS.out
            rw [heap_setCell_other _ _ _ _ (by simp; omega), heap_setCell_other _ _ _ _ (by simp; omega), heap_setCell_other _ _ _ _ (by simp; omega), heap_setCell_other _ _ _ _ (by simp; omega), heap_setCell_other _ _ _ _ (by simp; omega), heap_setCell_other _ _ _ _ (by simp; omega)]
          have hBF : Below w.heap.size w ((((((wr.setCell ⟨w.heap.size + 1, 0, none⟩ (.int .i64 kd)).setCell ⟨w.heap.size + 1, 1, none⟩ (.string nm)).setCell ⟨w.heap.size + 1, 2, none⟩ (.int .i64 n)).setCell ⟨w.heap.size + 1, 3, none⟩ (.int .i64 zk)).setCell ⟨w.heap.size + 1, 4, none⟩ (.slice za zn zc)).setCell ⟨w.heap.size + 1, 5, none⟩ (.slice oa es.length oc)) := ((((((HBB.out.setCell (by simp) _).setCell (by simp) _).setCell (by simp) _).setCell (by simp) _).setCell (by simp) _).setCell (by simp) _)
          have hzF : w3.heap.size ≤ ((((((wr.setCell ⟨w.heap.size + 1, 0, none⟩ (.int .i64 kd)).setCell ⟨w.heap.size + 1, 1, none⟩ (.string nm)).setCell ⟨w.heap.size + 1, 2, none⟩ (.int .i64 n)).setCell ⟨w.heap.size + 1, 3, none⟩ (.int .i64 zk)).setCell ⟨w.heap.size + 1, 4, none⟩ (.slice za zn zc)).setCell ⟨w.heap.size + 1, 5, none⟩ (.slice oa es.length oc)).heap.size := by simpa using HZ3.out
          obtain ⟨fp, hown, hfp⟩ := HRW.tree kd nm n ty f1 hk0 hk1 hn0 hn1 hnm hTF HFP.out HW3.out hzF
          have hwW : w.heap.size ≤ W.heap.size := by have := HWS.out; omega
          have g0 := hRF.2 0
          have g1 := hRF.2 1
          have g2 := hRF.2 2
          have g3 := hRF.2 3
          have g4 := hRF.2 4
          have g5 := hRF.2 5
          clear hRF HRW hTF
          generalize ((((((wr.setCell ⟨w.heap.size + 1, 0, none⟩ (.int .i64 kd)).setCell ⟨w.heap.size + 1, 1, none⟩ (.string nm)).setCell ⟨w.heap.size + 1, 2, none⟩ (.int .i64 n)).setCell ⟨w.heap.size + 1, 3, none⟩ (.int .i64 zk)).setCell ⟨w.heap.size + 1, 4, none⟩ (.slice za zn zc)).setCell ⟨w.heap.size + 1, 5, none⟩ (.slice oa es.length oc)) = WX at g0 g1 g2 g3 g4 g5 hown hfp hBF ⊢
          refine bodyPost_ret (v := .agg #[.int .i64 kd, .string nm, .int .i64 n, .int .i64 zk, .slice za zn zc, .slice oa es.length oc]) (by simp [results, Tryd.results49, go_sem, g0, g1, g2, g3, g4, g5]) rfl ?_
          exact ⟨_, fp, rfl, hown, hfp.mono hwW (Nat.le_refl _), hBF⟩
end Go.Proofs.YtfidcblaabeaaaaDoor
/-
  Proved: spec.SubtermAt copies the node at a path; the memory that was there stays as it was.
-/
namespace Go.Proofs.YtfidcblaabeaaaaDoor
open Go.RowKit

def exNil : Ex := .node 0 ⟨#[]⟩ 0 (.node 0 []) []
/-- What the search for a node at a path gives: a copy of it, or an empty expression, and whether it is there. -/
def SubEnd (d : Nat) (r : Option Ex) (w : World) (e : Ending) (w' : World) : Prop :=
  ∃ s, e = .returned (.tuple #[s, .bool r.isSome]) ∧ ExIn w' d s (r.getD exNil) w.heap.size w'.heap.size ∧ Below w.heap.size w w'
theorem nil_own (w : World) (d : Nat) : ExOwn w (d + 2) (.agg #[.int .i64 0, .string ⟨#[]⟩, .int .i64 0, .int .i64 0, .slice none 0 0, .slice none 0 0]) exNil [] := by
  refine ⟨.int .i64 0, .slice none 0 0, .slice none 0 0, [], [], rfl, by omega, by omega, by omega, by omega, by decide, rfl, ?_, ?_⟩
  · exact ⟨_, rfl, by omega, by omega, none, 0, [], [], rfl, Nat.le_refl _, by omega, rfl, rfl, (fun b hb => by cases hb), fun j hj => by simp at hj⟩
  · exact ⟨none, 0, [], [], rfl, Nat.le_refl _, by omega, rfl, rfl, (fun b hb => by cases hb), fun j hj => by simp at hj⟩
theorem ex_deep {w : World} {d : Nat} {v : Value} {e : Ex} (h : ExAt w d v e) : ∃ c, d = c + 2 := by
  cases d with
  | zero => exact h.elim
  | succ d =>
    cases e with
    | node kd nm n ty es =>
      obtain ⟨c3, c4, sl, _, _, _, _, _, _, ht, _⟩ := h
      cases d with
      | zero => exact ht.elim
      | succ d => exact ⟨d, rfl⟩
theorem ExIn.stored {w : World} {d : Nat} {v : Value} {t : Ex} {lo hi q j : Nat} {u : Value} (h : ExIn w d v t lo hi) (hq : q < lo) : ExIn (w.setCell ⟨q, j, none⟩ u) d v t lo hi := by
  obtain ⟨fp, h, hf, hz⟩ := h
  refine ⟨fp, h.kept (by simp) fun b hb => ?_, hf, by simpa using hz⟩
  have := (hf.2 b hb).1
  exact heap_setCell_other _ _ _ _ (by simp; omega)
theorem ExIn.wide {w : World} {d : Nat} {v : Value} {t : Ex} {lo hi lo2 hi2 : Nat} (h : ExIn w d v t lo hi) (h1 : lo2 ≤ lo) (h2 : hi ≤ hi2) (h3 : hi2 ≤ w.heap.size) : ExIn w d v t lo2 hi2 := by
  obtain ⟨fp, h, hf, hz⟩ := h
  exact ⟨fp, h, hf.mono h1 h2, h3⟩
set_option maxRecDepth 100000 in
set_option maxHeartbeats 4000000 in
theorem specSub (d : Nat) (v1 v2 : Value) (e : Ex) (ps : List Int) (w : World) (h : ExAt w d v1 e) (hp : Ints w v2 ps) (hsz : e.bulk ≤ 1048576) (hn : ps.length ≤ 1048576) :
    Calls Tryd.prog 25 #[v1, v2] w (SubEnd d (e.sub ps) w) := by
  obtain ⟨c, rfl⟩ := ex_deep h
  obtain ⟨xk, xnm, xn, xtk, xta, xtn, xtc, xa, xm, xc, rfl⟩ := ex_parts h
  obtain ⟨pa, pc, rfl, hpc, hpat⟩ := hp
  have HP := Lib.hid hpat; clear hpat
  have HSZ := Lib.hid hsz; clear hsz
  have hb0 : Below w.heap.size w ((w.alloc (.cells #[.int .i64 xk, .string xnm, .int .i64 xn, .int .i64 xtk, .slice xta xtn xtc, .slice xa xm xc] 38)).alloc (.cells #[.int .i64 0, .string ⟨#[]⟩, .int .i64 0, .int .i64 0, .slice none 0 0, .slice none 0 0] 38)) := ((Below.refl _ _).alloc (Nat.le_refl _) _).alloc (by simp) _
  have HX0 : Hid (ExAt w (c + 2) (.agg #[.int .i64 xk, .string xnm, .int .i64 xn, .int .i64 xtk, .slice xta xtn xtc, .slice xa xm xc]) e) := h
  have XA : Hid (BoxAt ((w.alloc (.cells #[.int .i64 xk, .string xnm, .int .i64 xn, .int .i64 xtk, .slice xta xtn xtc, .slice xa xm xc] 38)).alloc (.cells #[.int .i64 0, .string ⟨#[]⟩, .int .i64 0, .int .i64 0, .slice none 0 0, .slice none 0 0] 38)) w.heap.size #[.int .i64 xk, .string xnm, .int .i64 xn, .int .i64 xtk, .slice xta xtn xtc, .slice xa xm xc]) := (BoxAt.new _ _ _).below (below_alloc _ _)
  have XR : Hid (BoxAt ((w.alloc (.cells #[.int .i64 xk, .string xnm, .int .i64 xn, .int .i64 xtk, .slice xta xtn xtc, .slice xa xm xc] 38)).alloc (.cells #[.int .i64 0, .string ⟨#[]⟩, .int .i64 0, .int .i64 0, .slice none 0 0, .slice none 0 0] 38)) (w.heap.size + 1) #[.int .i64 0, .string ⟨#[]⟩, .int .i64 0, .int .i64 0, .slice none 0 0, .slice none 0 0]) := box_at (BoxAt.new _ _ _) (by simp)
  have FA : Hid (FreeAt ((w.alloc (.cells #[.int .i64 xk, .string xnm, .int .i64 xn, .int .i64 xtk, .slice xta xtn xtc, .slice xa xm xc] 38)).alloc (.cells #[.int .i64 0, .string ⟨#[]⟩, .int .i64 0, .int .i64 0, .slice none 0 0, .slice none 0 0] 38)) w.heap.size) := (FreeAt.new _ _ _).below (below_alloc _ _)
  have FR : Hid (FreeAt ((w.alloc (.cells #[.int .i64 xk, .string xnm, .int .i64 xn, .int .i64 xtk, .slice xta xtn xtc, .slice xa xm xc] 38)).alloc (.cells #[.int .i64 0, .string ⟨#[]⟩, .int .i64 0, .int .i64 0, .slice none 0 0, .slice none 0 0] 38)) (w.heap.size + 1)) := free_at (FreeAt.new _ _ _) (by simp)
  have hz0 : ((w.alloc (.cells #[.int .i64 xk, .string xnm, .int .i64 xn, .int .i64 xtk, .slice xta xtn xtc, .slice xa xm xc] 38)).alloc (.cells #[.int .i64 0, .string ⟨#[]⟩, .int .i64 0, .int .i64 0, .slice none 0 0, .slice none 0 0] 38)).heap.size = w.heap.size + 2 := by simp
  have B0 := Lib.hid hb0
  clear hb0 h
  go_enter Tryd.func25, Tryd.ntmps25
  go_wp2_with fail
  go_loopw [6] (fun i wr => ∃ (k : Nat) (x : Ex) (xk : Int) (xnm : ByteArray) (xn xtk : Int) (xta : Option Addr) (xtn xtc : Nat) (xa : Option Addr) (xm xc : Nat), k ≤ ps.length ∧ i = .int .i64 k ∧ BoxAt wr w.heap.size #[.int .i64 xk, .string xnm, .int .i64 xn, .int .i64 xtk, .slice xta xtn xtc, .slice xa xm xc] ∧ BoxAt wr (w.heap.size + 1) #[.int .i64 0, .string ⟨#[]⟩, .int .i64 0, .int .i64 0, .slice none 0 0, .slice none 0 0] ∧ FreeAt wr w.heap.size ∧ FreeAt wr (w.heap.size + 1) ∧ wr.heap.size = w.heap.size + 2 ∧ ExAt w (c + 2) (.agg #[.int .i64 xk, .string xnm, .int .i64 xn, .int .i64 xtk, .slice xta xtn xtc, .slice xa xm xc]) x ∧ x.bulk ≤ 1048576 ∧ e.sub ps = x.sub (ps.drop k) ∧ Below w.heap.size w wr) (fun i _ => ps.length - (intOf i).toNat)
  case atStart => exact ⟨0, e, xk, xnm, xn, xtk, xta, xtn, xtc, xa, xm, xc, by omega, rfl, XA.out, XR.out, FA.out, FR.out, hz0, HX0.out, HSZ.out, by simp, B0.out⟩
  clear XA XR FA FR hz0 B0 HX0
  case round =>
    obtain ⟨k, x, yk, ynm, yn, ytk, yta, ytn, ytc, ya, ym, yc, hk, rfl, hxa, hxr, hfa, hfr, hz, hex, hxs, hsub, hb⟩ := hrel
    have HSUB := Lib.hid hsub; clear hsub
    have XA := Lib.hid hxa
    have XR := Lib.hid hxr
    have FA := Lib.hid hfa
    have FR := Lib.hid hfr
    have HEX := Lib.hid hex
    have HXS := Lib.hid hxs
    have HB := Lib.hid hb
    clear hxa hxr hfa hfr hxs hb
    by_cases hlt : k < ps.length
    · obtain ⟨bp, offp, rfl, hblp, hcp⟩ := HP.out k hlt
      obtain ⟨rfl, hmc, hc2, hrow⟩ := ex_row hex
      have HROW := Lib.hid hrow; clear hrow hex
      have HDR := Lib.hid (drop_at ps k hlt)
      obtain ⟨p, hp⟩ : ∃ p, p = ps[k] := ⟨_, rfl⟩
      rw [← hp] at hcp HDR
      clear hp
      have cp : wr.cell? ⟨bp, offp + k, none⟩ = some (.int .i64 p) := (HB.out.cell (p := ⟨bp, offp + k, none⟩) hblp).trans hcp
      have HCP := Lib.hid hcp
      clear hcp
      have a5 := XA.out.2 5
      have CI : ∀ W, Calls Tryd.prog 48 #[.int .i64 p, .int .i64 0, .int .i64 ((x.parts.length : Int) - 1)] W fun e w' => e = .returned (.bool (decide (0 ≤ p) && decide (p ≤ (x.parts.length : Int) - 1))) ∧ w' = W := fun W => specIn p 0 _ W
      have hwrap : IntKind.i64.wrap ((x.parts.length : Int) - 1) = (x.parts.length : Int) - 1 := IntWalk.i64_in _ (by omega)
      by_cases q : 0 ≤ p ∧ p ≤ (x.parts.length : Int) - 1
      · obtain ⟨m, rfl⟩ : ∃ m : Nat, p = m := ⟨p.toNat, by omega⟩
        have hm : m < x.parts.length := by omega
        have HN : Hid (e.sub ps = (x.parts[m]).sub (ps.drop (k + 1))) := by
          show _ = _
          rw [HSUB.out, HDR.out]
          exact sub_step (by omega) (by simpa using hm)
        have HM : Hid ((x.parts[m]).bulk ≤ 1048576) := Nat.le_trans (part_bulk hm) HXS.out
        rw [show (decide ((0 : Int) ≤ (m : Int)) && decide ((m : Int) ≤ (x.parts.length : Int) - 1)) = true from by rw [decide_eq_true q.1, decide_eq_true q.2]; rfl] at CI
        have HCI := Lib.hid CI; clear CI q
        obtain ⟨bn, offn, z0, z1, z2, z3, z4, z5, rfl, hbn, f0, f1, f2, f3, f4, f5, hz6⟩ := HROW.out m hm
        obtain ⟨zk, znm, zn, ztk, zta, ztn, ztc, za, zm, zc, rfl, rfl, rfl, rfl, rfl, rfl⟩ := ex_cells hz6
        have HZ := Lib.hid hz6
        have hne : bn ≠ w.heap.size := by omega
        go_wp2_with fail
        go_quiet ((go_at_call 48; exact Calls.quiet_of_same (HCI.out _)))
        go_wp2_with fail
        have hb : Below wr.heap.size wr (wr.drewN nq) := ⟨rfl, rfl, rfl, Nat.le_refl _, fun _ _ => rfl⟩
        replace XA := Lib.hid (XA.out.below hb)
        replace XR := Lib.hid (XR.out.below hb)
        replace FA := Lib.hid (FA.out.below hb)
        replace FR := Lib.hid (FR.out.below hb)
        replace HB := Lib.hid (below_thru HB.out (Nat.le_refl _) hb)
        have hzq : (wr.drewN nq).heap.size = w.heap.size + 2 := hz
        clear hb a5 cp hz
        generalize wr.drewN nq = wq at XA XR FA FR HB hzq ⊢
        have cp : wq.cell? ⟨bp, offp + k, none⟩ = some (.int .i64 (m : Int)) := (HB.out.cell (p := ⟨bp, offp + k, none⟩) hblp).trans HCP.out
        have g0 := (HB.out.cell (p := ⟨bn, offn + m * 6, none⟩) hbn).trans f0
        have g1 := (HB.out.cell (p := ⟨bn, offn + m * 6 + 1, none⟩) hbn).trans f1
        have g2 := (HB.out.cell (p := ⟨bn, offn + m * 6 + 2, none⟩) hbn).trans f2
        have g3 := (HB.out.cell (p := ⟨bn, offn + m * 6 + 3, none⟩) hbn).trans f3
        have g4 := (HB.out.cell (p := ⟨bn, offn + m * 6 + 4, none⟩) hbn).trans f4
        have g5 := (HB.out.cell (p := ⟨bn, offn + m * 6 + 5, none⟩) hbn).trans f5
        have a0 := XA.out.2 0
        have q0 := FA.out.2 0
        have a1 := XA.out.2 1
        have q1 := FA.out.2 1
        have a2 := XA.out.2 2
        have q2 := FA.out.2 2
        have a3 := XA.out.2 3
        have q3 := FA.out.2 3
        have a4 := XA.out.2 4
        have q4 := FA.out.2 4
        have a5 := XA.out.2 5
        have q5 := FA.out.2 5
        clear f0 f1 f2 f3 f4 f5 hz6
        go_region
        clear cp g0 g1 g2 g3 g4 g5 a0 q0 a1 q1 a2 q2 a3 q3 a4 q4 a5 q5
        have XA2 : Hid (BoxAt ((((((wq.setCell ⟨w.heap.size, 0, none⟩ (.int .i64 zk)).setCell ⟨w.heap.size, 1, none⟩ (.string znm)).setCell ⟨w.heap.size, 2, none⟩ (.int .i64 zn)).setCell ⟨w.heap.size, 3, none⟩ (.int .i64 ztk)).setCell ⟨w.heap.size, 4, none⟩ (.slice zta ztn ztc)).setCell ⟨w.heap.size, 5, none⟩ (.slice za zm zc)) w.heap.size #[.int .i64 zk, .string znm, .int .i64 zn, .int .i64 ztk, .slice zta ztn ztc, .slice za zm zc]) := by
          have := ((((((XA.out.put (j := 0) (u := .int .i64 zk) (by simp)).put (j := 1) (u := .string znm) (by simp)).put (j := 2) (u := .int .i64 zn) (by simp)).put (j := 3) (u := .int .i64 ztk) (by simp)).put (j := 4) (u := .slice zta ztn ztc) (by simp)).put (j := 5) (u := .slice za zm zc) (by simp))
          exact this
        have XR2 : Hid (BoxAt ((((((wq.setCell ⟨w.heap.size, 0, none⟩ (.int .i64 zk)).setCell ⟨w.heap.size, 1, none⟩ (.string znm)).setCell ⟨w.heap.size, 2, none⟩ (.int .i64 zn)).setCell ⟨w.heap.size, 3, none⟩ (.int .i64 ztk)).setCell ⟨w.heap.size, 4, none⟩ (.slice zta ztn ztc)).setCell ⟨w.heap.size, 5, none⟩ (.slice za zm zc)) (w.heap.size + 1) #[.int .i64 0, .string ⟨#[]⟩, .int .i64 0, .int .i64 0, .slice none 0 0, .slice none 0 0]) := ((((((XR.out.stored (by omega)).stored (by omega)).stored (by omega)).stored (by omega)).stored (by omega)).stored (by omega))
        have FA2 : Hid (FreeAt ((((((wq.setCell ⟨w.heap.size, 0, none⟩ (.int .i64 zk)).setCell ⟨w.heap.size, 1, none⟩ (.string znm)).setCell ⟨w.heap.size, 2, none⟩ (.int .i64 zn)).setCell ⟨w.heap.size, 3, none⟩ (.int .i64 ztk)).setCell ⟨w.heap.size, 4, none⟩ (.slice zta ztn ztc)).setCell ⟨w.heap.size, 5, none⟩ (.slice za zm zc)) w.heap.size) := FA.out.put.put.put.put.put.put
        have FR2 : Hid (FreeAt ((((((wq.setCell ⟨w.heap.size, 0, none⟩ (.int .i64 zk)).setCell ⟨w.heap.size, 1, none⟩ (.string znm)).setCell ⟨w.heap.size, 2, none⟩ (.int .i64 zn)).setCell ⟨w.heap.size, 3, none⟩ (.int .i64 ztk)).setCell ⟨w.heap.size, 4, none⟩ (.slice zta ztn ztc)).setCell ⟨w.heap.size, 5, none⟩ (.slice za zm zc)) (w.heap.size + 1)) := FR.out.put.put.put.put.put.put
        have HB2 : Hid (Below w.heap.size w ((((((wq.setCell ⟨w.heap.size, 0, none⟩ (.int .i64 zk)).setCell ⟨w.heap.size, 1, none⟩ (.string znm)).setCell ⟨w.heap.size, 2, none⟩ (.int .i64 zn)).setCell ⟨w.heap.size, 3, none⟩ (.int .i64 ztk)).setCell ⟨w.heap.size, 4, none⟩ (.slice zta ztn ztc)).setCell ⟨w.heap.size, 5, none⟩ (.slice za zm zc))) := (((((HB.out.setCell (Nat.le_refl _) _).setCell (Nat.le_refl _) _).setCell (Nat.le_refl _) _).setCell (Nat.le_refl _) _).setCell (Nat.le_refl _) _).setCell (Nat.le_refl _) _
        have hz2 : ((((((wq.setCell ⟨w.heap.size, 0, none⟩ (.int .i64 zk)).setCell ⟨w.heap.size, 1, none⟩ (.string znm)).setCell ⟨w.heap.size, 2, none⟩ (.int .i64 zn)).setCell ⟨w.heap.size, 3, none⟩ (.int .i64 ztk)).setCell ⟨w.heap.size, 4, none⟩ (.slice zta ztn ztc)).setCell ⟨w.heap.size, 5, none⟩ (.slice za zm zc)).heap.size = w.heap.size + 2 := by simpa using hzq
        generalize ((((((wq.setCell ⟨w.heap.size, 0, none⟩ (.int .i64 zk)).setCell ⟨w.heap.size, 1, none⟩ (.string znm)).setCell ⟨w.heap.size, 2, none⟩ (.int .i64 zn)).setCell ⟨w.heap.size, 3, none⟩ (.int .i64 ztk)).setCell ⟨w.heap.size, 4, none⟩ (.slice zta ztn ztc)).setCell ⟨w.heap.size, 5, none⟩ (.slice za zm zc)) = wf at XA2 XR2 FA2 FR2 HB2 hz2 ⊢
        have hb : Below wf.heap.size wf wf.drew := below_drew wf
        replace XA2 := Lib.hid (XA2.out.below hb)
        replace XR2 := Lib.hid (XR2.out.below hb)
        replace FA2 := Lib.hid (FA2.out.below hb)
        replace FR2 := Lib.hid (FR2.out.below hb)
        replace HB2 := Lib.hid (below_thru HB2.out (Nat.le_refl _) hb)
        have hz3 : wf.drew.heap.size = w.heap.size + 2 := hz2
        clear hb hz2
        generalize wf.drew = wz at XA2 XR2 FA2 FR2 HB2 hz3 ⊢
        go_wp2_with fail
        exact ⟨⟨k + 1, x.parts[m], zk, znm, zn, ztk, zta, ztn, ztc, za, zm, zc, by omega, by go_num, XA2.out, XR2.out, FA2.out, FR2.out, hz3, HZ.out, HM.out, HN.out, HB2.out⟩, by simp [intOf]; omega⟩
      · have HN : Hid (e.sub ps = none) := by
          show _ = _
          rw [HSUB.out, HDR.out]
          by_cases q1 : p < 0
          · exact sub_low q1
          · exact sub_high (by omega)
        rw [show (decide ((0 : Int) ≤ p) && decide (p ≤ (x.parts.length : Int) - 1)) = false from by
          by_cases q1 : 0 ≤ p
          · rw [decide_eq_true q1, decide_eq_false (fun h => q ⟨q1, h⟩)]; rfl
          · rw [decide_eq_false q1]; rfl] at CI
        have HCI := Lib.hid CI; clear CI q
        go_wp2_with fail
        go_quiet ((go_at_call 48; exact Calls.quiet_of_same (HCI.out _)))
        have hb : Below wr.heap.size wr (wr.drewN nq) := ⟨rfl, rfl, rfl, Nat.le_refl _, fun _ _ => rfl⟩
        replace XR := Lib.hid (XR.out.below hb)
        replace FR := Lib.hid (FR.out.below hb)
        replace HB := Lib.hid (below_thru HB.out (Nat.le_refl _) hb)
        have hzq : (wr.drewN nq).heap.size = w.heap.size + 2 := hz
        clear hb a5 cp hz
        generalize wr.drewN nq = wq at XR FR HB hzq ⊢
        have r0 := XR.out.2 0
        have s0 := FR.out.2 0
        have r1 := XR.out.2 1
        have s1 := FR.out.2 1
        have r2 := XR.out.2 2
        have s2 := FR.out.2 2
        have r3 := XR.out.2 3
        have s3 := FR.out.2 3
        have r4 := XR.out.2 4
        have s4 := FR.out.2 4
        have r5 := XR.out.2 5
        have s5 := FR.out.2 5
        go_wp2_with fail
        have XRF : BoxAt ((((((wq.setCell ⟨w.heap.size + 1, 0, none⟩ (.int .i64 0)).setCell ⟨w.heap.size + 1, 1, none⟩ (.string ⟨#[]⟩)).setCell ⟨w.heap.size + 1, 2, none⟩ (.int .i64 0)).setCell ⟨w.heap.size + 1, 3, none⟩ (.int .i64 0)).setCell ⟨w.heap.size + 1, 4, none⟩ (.slice none 0 0)).setCell ⟨w.heap.size + 1, 5, none⟩ (.slice none 0 0)) (w.heap.size + 1) #[.int .i64 0, .string ⟨#[]⟩, .int .i64 0, .int .i64 0, .slice none 0 0, .slice none 0 0] := by
          have := ((((((XR.out.put (j := 0) (u := .int .i64 0) (by simp)).put (j := 1) (u := .string ⟨#[]⟩) (by simp)).put (j := 2) (u := .int .i64 0) (by simp)).put (j := 3) (u := .int .i64 0) (by simp)).put (j := 4) (u := .slice none 0 0) (by simp)).put (j := 5) (u := .slice none 0 0) (by simp))
          exact this
        have hBF : Below w.heap.size w ((((((wq.setCell ⟨w.heap.size + 1, 0, none⟩ (.int .i64 0)).setCell ⟨w.heap.size + 1, 1, none⟩ (.string ⟨#[]⟩)).setCell ⟨w.heap.size + 1, 2, none⟩ (.int .i64 0)).setCell ⟨w.heap.size + 1, 3, none⟩ (.int .i64 0)).setCell ⟨w.heap.size + 1, 4, none⟩ (.slice none 0 0)).setCell ⟨w.heap.size + 1, 5, none⟩ (.slice none 0 0)) := ((((((HB.out.setCell (by simp) _).setCell (by simp) _).setCell (by simp) _).setCell (by simp) _).setCell (by simp) _).setCell (by simp) _)
        have hzF : ((((((wq.setCell ⟨w.heap.size + 1, 0, none⟩ (.int .i64 0)).setCell ⟨w.heap.size + 1, 1, none⟩ (.string ⟨#[]⟩)).setCell ⟨w.heap.size + 1, 2, none⟩ (.int .i64 0)).setCell ⟨w.heap.size + 1, 3, none⟩ (.int .i64 0)).setCell ⟨w.heap.size + 1, 4, none⟩ (.slice none 0 0)).setCell ⟨w.heap.size + 1, 5, none⟩ (.slice none 0 0)).heap.size = w.heap.size + 2 := by simpa using hzq
        have h0 := XRF.2 0
        have h1 := XRF.2 1
        have h2 := XRF.2 2
        have h3 := XRF.2 3
        have h4 := XRF.2 4
        have h5 := XRF.2 5
        clear XRF
        generalize ((((((wq.setCell ⟨w.heap.size + 1, 0, none⟩ (.int .i64 0)).setCell ⟨w.heap.size + 1, 1, none⟩ (.string ⟨#[]⟩)).setCell ⟨w.heap.size + 1, 2, none⟩ (.int .i64 0)).setCell ⟨w.heap.size + 1, 3, none⟩ (.int .i64 0)).setCell ⟨w.heap.size + 1, 4, none⟩ (.slice none 0 0)).setCell ⟨w.heap.size + 1, 5, none⟩ (.slice none 0 0)) = WX at h0 h1 h2 h3 h4 h5 hBF hzF ⊢
        refine bodyPost_ret (v := .tuple #[.agg #[.int .i64 0, .string ⟨#[]⟩, .int .i64 0, .int .i64 0, .slice none 0 0, .slice none 0 0], .bool false]) (by simp [results, Tryd.results25, go_sem, h0, h1, h2, h3, h4, h5]) rfl ?_
        rw [HN.out]
        exact ⟨_, rfl, ⟨[], nil_own _ c, Fp.nil _ _, Nat.le_refl _⟩, hBF⟩
    · obtain rfl : k = ps.length := by omega
      have HN : Hid (e.sub ps = some x) := by show _ = _; rw [HSUB.out, List.drop_length]; exact sub_nil x
      have a0 := XA.out.2 0
      have a1 := XA.out.2 1
      have a2 := XA.out.2 2
      have a3 := XA.out.2 3
      have a4 := XA.out.2 4
      have a5 := XA.out.2 5
      go_wp2_with fail
      clear a0 a1 a2 a3 a4 a5
      refine (specExCopy (c + 2) _ x _ HXS.out (HEX.out.below HB.out)).mono ?_
      rintro e1 w1 ⟨v1, fp, rfl, ht, hf, hb⟩
      obtain ⟨zk, znm, zn, ztk, zta, ztn, ztc, za, zm, zc, rfl⟩ := ex_parts ht.at_
      have hz1 := hb.size
      rw [hz] at hz1 hf
      have HO : Hid (ExIn w1 (c + 2) (.agg #[.int .i64 zk, .string znm, .int .i64 zn, .int .i64 ztk, .slice zta ztn ztc, .slice za zm zc]) x (w.heap.size + 2) w1.heap.size) := ⟨fp, ht, hf, Nat.le_refl _⟩
      replace HB := Lib.hid (below_thru HB.out (Nat.le_refl _) hb)
      replace XR := Lib.hid (XR.out.below hb)
      replace FR := Lib.hid (FR.out.below hb)
      clear ht hf hb hz
      have r0 := XR.out.2 0
      have s0 := FR.out.2 0
      have r1 := XR.out.2 1
      have s1 := FR.out.2 1
      have r2 := XR.out.2 2
      have s2 := FR.out.2 2
      have r3 := XR.out.2 3
      have s3 := FR.out.2 3
      have r4 := XR.out.2 4
      have s4 := FR.out.2 4
      have r5 := XR.out.2 5
      have s5 := FR.out.2 5
      go_wp2_with fail
      have XRF : BoxAt ((((((w1.setCell ⟨w.heap.size + 1, 0, none⟩ (.int .i64 zk)).setCell ⟨w.heap.size + 1, 1, none⟩ (.string znm)).setCell ⟨w.heap.size + 1, 2, none⟩ (.int .i64 zn)).setCell ⟨w.heap.size + 1, 3, none⟩ (.int .i64 ztk)).setCell ⟨w.heap.size + 1, 4, none⟩ (.slice zta ztn ztc)).setCell ⟨w.heap.size + 1, 5, none⟩ (.slice za zm zc)) (w.heap.size + 1) #[.int .i64 zk, .string znm, .int .i64 zn, .int .i64 ztk, .slice zta ztn ztc, .slice za zm zc] := by
        have := ((((((XR.out.put (j := 0) (u := .int .i64 zk) (by simp)).put (j := 1) (u := .string znm) (by simp)).put (j := 2) (u := .int .i64 zn) (by simp)).put (j := 3) (u := .int .i64 ztk) (by simp)).put (j := 4) (u := .slice zta ztn ztc) (by simp)).put (j := 5) (u := .slice za zm zc) (by simp))
        exact this
      have hBF : Below w.heap.size w ((((((w1.setCell ⟨w.heap.size + 1, 0, none⟩ (.int .i64 zk)).setCell ⟨w.heap.size + 1, 1, none⟩ (.string znm)).setCell ⟨w.heap.size + 1, 2, none⟩ (.int .i64 zn)).setCell ⟨w.heap.size + 1, 3, none⟩ (.int .i64 ztk)).setCell ⟨w.heap.size + 1, 4, none⟩ (.slice zta ztn ztc)).setCell ⟨w.heap.size + 1, 5, none⟩ (.slice za zm zc)) := ((((((HB.out.setCell (by simp) _).setCell (by simp) _).setCell (by simp) _).setCell (by simp) _).setCell (by simp) _).setCell (by simp) _)
      have HOF : ExIn ((((((w1.setCell ⟨w.heap.size + 1, 0, none⟩ (.int .i64 zk)).setCell ⟨w.heap.size + 1, 1, none⟩ (.string znm)).setCell ⟨w.heap.size + 1, 2, none⟩ (.int .i64 zn)).setCell ⟨w.heap.size + 1, 3, none⟩ (.int .i64 ztk)).setCell ⟨w.heap.size + 1, 4, none⟩ (.slice zta ztn ztc)).setCell ⟨w.heap.size + 1, 5, none⟩ (.slice za zm zc)) (c + 2) (.agg #[.int .i64 zk, .string znm, .int .i64 zn, .int .i64 ztk, .slice zta ztn ztc, .slice za zm zc]) x (w.heap.size + 2) w1.heap.size := ((((((HO.out.stored (by omega)).stored (by omega)).stored (by omega)).stored (by omega)).stored (by omega)).stored (by omega))
      have hzF : ((((((w1.setCell ⟨w.heap.size + 1, 0, none⟩ (.int .i64 zk)).setCell ⟨w.heap.size + 1, 1, none⟩ (.string znm)).setCell ⟨w.heap.size + 1, 2, none⟩ (.int .i64 zn)).setCell ⟨w.heap.size + 1, 3, none⟩ (.int .i64 ztk)).setCell ⟨w.heap.size + 1, 4, none⟩ (.slice zta ztn ztc)).setCell ⟨w.heap.size + 1, 5, none⟩ (.slice za zm zc)).heap.size = w1.heap.size := by simp
      have h0 := XRF.2 0
      have h1 := XRF.2 1
      have h2 := XRF.2 2
      have h3 := XRF.2 3
      have h4 := XRF.2 4
      have h5 := XRF.2 5
      clear XRF
      generalize ((((((w1.setCell ⟨w.heap.size + 1, 0, none⟩ (.int .i64 zk)).setCell ⟨w.heap.size + 1, 1, none⟩ (.string znm)).setCell ⟨w.heap.size + 1, 2, none⟩ (.int .i64 zn)).setCell ⟨w.heap.size + 1, 3, none⟩ (.int .i64 ztk)).setCell ⟨w.heap.size + 1, 4, none⟩ (.slice zta ztn ztc)).setCell ⟨w.heap.size + 1, 5, none⟩ (.slice za zm zc)) = WX at h0 h1 h2 h3 h4 h5 hBF HOF hzF ⊢
      refine bodyPost_ret (v := .tuple #[.agg #[.int .i64 zk, .string znm, .int .i64 zn, .int .i64 ztk, .slice zta ztn ztc, .slice za zm zc], .bool true]) (by simp [results, Tryd.results25, go_sem, h0, h1, h2, h3, h4, h5]) rfl ?_
      rw [HN.out]
      exact ⟨_, rfl, HOF.wide (by omega) (by omega) (Nat.le_refl _), hBF⟩
end Go.Proofs.YtfidcblaabeaaaaDoor
/-
  Proved: spec.IsName says whether a text is a name; the memory that was there stays as it was.
-/
namespace Go.Proofs.YtfidcblaabeaaaaDoor
open Go.RowKit

set_option maxRecDepth 100000 in
set_option maxHeartbeats 4000000 in
theorem specName (s : ByteArray) (w : World) (hs : s.size ≤ 9223372036854775807) : Calls Tryd.prog 77 #[.string s] w fun e w' => e = .returned (.bool (nameB s)) ∧ w' = w := by
  go_enter Tryd.func77, Tryd.ntmps77
  go_wp2_with fail
  go_loop [3] (fun i => ∃ k : Nat, k ≤ s.size ∧ i = .int .i64 k ∧ okB s k = true) (fun i => s.size - (intOf i).toNat)
  case atStart => exact ⟨0, by omega, rfl, rfl⟩
  case round =>
    obtain ⟨k, hk, rfl, hf⟩ := hrel
    have HF := Lib.hid hf; clear hf
    by_cases hlt : k < s.size
    · skip
      have HSUC := Lib.hid (okB_succ s k hlt)
      have hc255 : (s[k]'hlt).toNat < 256 := UInt8.toNat_lt _
      by_cases l1 : 97 ≤ (s[k]'hlt).toNat ∧ (s[k]'hlt).toNat ≤ 122
      · have OK := Lib.hid (okAt_letter (k := k) l1.1 l1.2)
        obtain ⟨l1a, l1b⟩ := l1
        have l1d : decide ((97 : Int) ≤ ((s[k]'hlt).toNat : Int)) = true := by simpa using (by omega : (97 : Int) ≤ ((s[k]'hlt).toNat : Int))
        have l2d : decide (((s[k]'hlt).toNat : Int) ≤ 122) = true := by simpa using (by omega : ((s[k]'hlt).toNat : Int) ≤ 122)
        clear l1a l1b
        go_wp2_with fail
        exact ⟨⟨k + 1, by omega, by go_num, by rw [HSUC.out, HF.out, OK.out]; rfl⟩, by simp [intOf]; omega⟩
      · by_cases l3 : 97 ≤ (s[k]'hlt).toNat
        · skip
          by_cases z : k = 0
          · have OK := Lib.hid (okAt_bad (c := (s[k]'hlt).toNat) (k := k) (by omega) (Or.inl z))
            have l1d : decide ((97 : Int) ≤ ((s[k]'hlt).toNat : Int)) = true := by simpa using (by omega : (97 : Int) ≤ ((s[k]'hlt).toNat : Int))
            have l2d : decide (((s[k]'hlt).toNat : Int) ≤ 122) = false := by simpa using (by omega : (122 : Int) < ((s[k]'hlt).toNat : Int))
            have zb : ((k : Int) == 0) = true := by simp [z]
            clear l1 l3 z
            go_wp2_with fail
            go_ret
            exact ⟨by rw [nameB, okB_false s (k + 1) s.size (by rw [HSUC.out, HF.out, OK.out]; rfl) hlt]; simp, rfl⟩
          · have zb : ((k : Int) == 0) = false := by simpa using z
            have z1 : 1 ≤ k := by omega
            by_cases g1 : 48 ≤ (s[k]'hlt).toNat ∧ (s[k]'hlt).toNat ≤ 57
            · have OK := Lib.hid (okAt_digit (k := k) z1 g1.1 g1.2)
              obtain ⟨g1a, g1b⟩ := g1
              have l1d : decide ((97 : Int) ≤ ((s[k]'hlt).toNat : Int)) = true := by simpa using (by omega : (97 : Int) ≤ ((s[k]'hlt).toNat : Int))
              have l2d : decide (((s[k]'hlt).toNat : Int) ≤ 122) = false := by simpa using (by omega : (122 : Int) < ((s[k]'hlt).toNat : Int))
              have g1d : decide (((s[k]'hlt).toNat : Int) < 48) = false := by simpa using (by omega : (48 : Int) ≤ ((s[k]'hlt).toNat : Int))
              have g2d : decide ((57 : Int) < ((s[k]'hlt).toNat : Int)) = false := by simpa using (by omega : ((s[k]'hlt).toNat : Int) ≤ 57)
              clear z l1 l3 g1a g1b
              go_wp2_with fail
              exact ⟨⟨k + 1, by omega, by go_num, by rw [HSUC.out, HF.out, OK.out]; rfl⟩, by simp [intOf]; omega⟩
            · have OK := Lib.hid (okAt_bad (c := (s[k]'hlt).toNat) (k := k) (by omega) (Or.inr (by omega)))
              by_cases g2 : 48 ≤ (s[k]'hlt).toNat
              · skip
                have l1d : decide ((97 : Int) ≤ ((s[k]'hlt).toNat : Int)) = true := by simpa using (by omega : (97 : Int) ≤ ((s[k]'hlt).toNat : Int))
                have l2d : decide (((s[k]'hlt).toNat : Int) ≤ 122) = false := by simpa using (by omega : (122 : Int) < ((s[k]'hlt).toNat : Int))
                have g1d : decide (((s[k]'hlt).toNat : Int) < 48) = false := by simpa using (by omega : (48 : Int) ≤ ((s[k]'hlt).toNat : Int))
                have g2d : decide ((57 : Int) < ((s[k]'hlt).toNat : Int)) = true := by simpa using (by omega : (57 : Int) < ((s[k]'hlt).toNat : Int))
                clear z l1 l3 g1 g2
                go_wp2_with fail
                go_ret
                exact ⟨by rw [nameB, okB_false s (k + 1) s.size (by rw [HSUC.out, HF.out, OK.out]; rfl) hlt]; simp, rfl⟩
              · skip
                have l1d : decide ((97 : Int) ≤ ((s[k]'hlt).toNat : Int)) = true := by simpa using (by omega : (97 : Int) ≤ ((s[k]'hlt).toNat : Int))
                have l2d : decide (((s[k]'hlt).toNat : Int) ≤ 122) = false := by simpa using (by omega : (122 : Int) < ((s[k]'hlt).toNat : Int))
                have g1d : decide (((s[k]'hlt).toNat : Int) < 48) = true := by simpa using (by omega : ((s[k]'hlt).toNat : Int) < 48)
                clear z l1 l3 g1 g2
                go_wp2_with fail
                go_ret
                exact ⟨by rw [nameB, okB_false s (k + 1) s.size (by rw [HSUC.out, HF.out, OK.out]; rfl) hlt]; simp, rfl⟩
        · skip
          by_cases z : k = 0
          · have OK := Lib.hid (okAt_bad (c := (s[k]'hlt).toNat) (k := k) (by omega) (Or.inl z))
            have l1d : decide ((97 : Int) ≤ ((s[k]'hlt).toNat : Int)) = false := by simpa using (by omega : ((s[k]'hlt).toNat : Int) < 97)
            have zb : ((k : Int) == 0) = true := by simp [z]
            clear l1 l3 z
            go_wp2_with fail
            go_ret
            exact ⟨by rw [nameB, okB_false s (k + 1) s.size (by rw [HSUC.out, HF.out, OK.out]; rfl) hlt]; simp, rfl⟩
          · have zb : ((k : Int) == 0) = false := by simpa using z
            have z1 : 1 ≤ k := by omega
            by_cases g1 : 48 ≤ (s[k]'hlt).toNat ∧ (s[k]'hlt).toNat ≤ 57
            · have OK := Lib.hid (okAt_digit (k := k) z1 g1.1 g1.2)
              obtain ⟨g1a, g1b⟩ := g1
              have l1d : decide ((97 : Int) ≤ ((s[k]'hlt).toNat : Int)) = false := by simpa using (by omega : ((s[k]'hlt).toNat : Int) < 97)
              have g1d : decide (((s[k]'hlt).toNat : Int) < 48) = false := by simpa using (by omega : (48 : Int) ≤ ((s[k]'hlt).toNat : Int))
              have g2d : decide ((57 : Int) < ((s[k]'hlt).toNat : Int)) = false := by simpa using (by omega : ((s[k]'hlt).toNat : Int) ≤ 57)
              clear z l1 l3 g1a g1b
              go_wp2_with fail
              exact ⟨⟨k + 1, by omega, by go_num, by rw [HSUC.out, HF.out, OK.out]; rfl⟩, by simp [intOf]; omega⟩
            · have OK := Lib.hid (okAt_bad (c := (s[k]'hlt).toNat) (k := k) (by omega) (Or.inr (by omega)))
              by_cases g2 : 48 ≤ (s[k]'hlt).toNat
              · skip
                have l1d : decide ((97 : Int) ≤ ((s[k]'hlt).toNat : Int)) = false := by simpa using (by omega : ((s[k]'hlt).toNat : Int) < 97)
                have g1d : decide (((s[k]'hlt).toNat : Int) < 48) = false := by simpa using (by omega : (48 : Int) ≤ ((s[k]'hlt).toNat : Int))
                have g2d : decide ((57 : Int) < ((s[k]'hlt).toNat : Int)) = true := by simpa using (by omega : (57 : Int) < ((s[k]'hlt).toNat : Int))
                clear z l1 l3 g1 g2
                go_wp2_with fail
                go_ret
                exact ⟨by rw [nameB, okB_false s (k + 1) s.size (by rw [HSUC.out, HF.out, OK.out]; rfl) hlt]; simp, rfl⟩
              · skip
                have l1d : decide ((97 : Int) ≤ ((s[k]'hlt).toNat : Int)) = false := by simpa using (by omega : ((s[k]'hlt).toNat : Int) < 97)
                have g1d : decide (((s[k]'hlt).toNat : Int) < 48) = true := by simpa using (by omega : ((s[k]'hlt).toNat : Int) < 48)
                clear z l1 l3 g1 g2
                go_wp2_with fail
                go_ret
                exact ⟨by rw [nameB, okB_false s (k + 1) s.size (by rw [HSUC.out, HF.out, OK.out]; rfl) hlt]; simp, rfl⟩
    · obtain rfl : k = s.size := by omega
      go_wp2_with fail
      refine (specIn _ _ _ w).mono ?_
      rintro e w9 ⟨rfl, rfl⟩
      have w1 : wordB s = ((s.toList == [105, 102]) || ((s.toList == [102, 115, 116]) || (s.toList == [115, 110, 100]))) := rfl
      have e1 : nameB s = (decide (1 ≤ s.size) && (decide (s.size ≤ 5) && !(wordB s))) := by rw [nameB, HF.out]; simp
      have E1 := Lib.hid (e1.trans (by rw [w1]))
      clear w1 e1
      by_cases r1 : 1 ≤ s.size
      · by_cases r2 : s.size ≤ 5
        · have i1 : (1 : Int) ≤ (s.size : Int) := by omega
          have i2 : (s.size : Int) ≤ 5 := by omega
          have R1 := Lib.hid r1
          have R2 := Lib.hid r2
          cases h1 : (s.toList == [105, 102]) with
          | true =>
            go_wp2_with fail
            go_ret
            exact ⟨by rw [E1.out]; simp [h1], rfl⟩
          | false =>
            cases h2 : (s.toList == [102, 115, 116]) with
            | true =>
              go_wp2_with fail
              go_ret
              exact ⟨by rw [E1.out]; simp [h1, h2], rfl⟩
            | false =>
              cases h3 : (s.toList == [115, 110, 100]) with
              | true =>
                go_wp2_with fail
                go_ret
                exact ⟨by rw [E1.out]; simp [h1, h2, h3], rfl⟩
              | false =>
                go_wp2_with fail
                go_ret
                exact ⟨by rw [E1.out]; simp [h1, h2, h3, R1.out, R2.out], rfl⟩
        · have i2 : ¬ ((s.size : Int) ≤ 5) := by omega
          have i1 : (1 : Int) ≤ (s.size : Int) := by omega
          go_wp2_with fail
          go_ret
          exact ⟨by rw [E1.out]; simp [r2], rfl⟩
      · have i1 : ¬ ((1 : Int) ≤ (s.size : Int)) := by omega
        go_wp2_with fail
        go_ret
        exact ⟨by rw [E1.out]; simp [r1], rfl⟩
end Go.Proofs.YtfidcblaabeaaaaDoor
/-
  Proved: spec.l6Fields says whether the fields of a node belong to its kind; the memory that was there stays as it was.
-/
namespace Go.Proofs.YtfidcblaabeaaaaDoor
open Go.RowKit

theorem ty_zero {w : World} {d : Nat} {tk : Int} {ta : Option Addr} {tn tc : Nat} {ty : Ty} (h : TyAt w d (.agg #[.int .i64 tk, .slice ta tn tc]) ty) : ty.beq (.node 0 []) = (decide (tk = 0) && decide (tn = 0)) := by
  cases d with
  | zero => exact h.elim
  | succ d =>
    cases ty with
    | node k ts =>
      obtain ⟨sl, hv, h0, h1, a, cap, rfl, h2⟩ := h
      injection hv with hv
      injection hv with hv
      simp at hv
      obtain ⟨rfl, rfl, rfl, rfl⟩ := hv
      exact beq_zero _ _
theorem name_some {s : ByteArray} (h : nameB s = true) : s.size ≠ 0 := fun e => by rw [nameB_empty e] at h; cases h
theorem note_some {t : Ty} (h : t.note = true) : t.beq (.node 0 []) = false := by
  cases t with
  | node k ts =>
    rw [beq_zero]
    cases hk : decide (k = 0) with
    | false => rfl
    | true =>
      have e := of_decide_eq_true hk
      subst e
      exfalso
      simp [Ty.note, Ty.valid, Ty.form, kindOk] at h
theorem text_zero {s : ByteArray} (h : s.size = 0) : (s.toList == []) = true := by
  have : s.toList = [] := List.eq_nil_of_length_eq_zero (by rw [size_of_toList]; exact h)
  rw [this]; rfl
/-- What the fields of a node say. -/
def fieldsB (k : Int) (nm : ByteArray) (n : Int) (ty : Ty) : Bool := nameFor k nm && (numFor k n && typeFor k ty)
set_option maxRecDepth 100000 in
set_option maxHeartbeats 4000000 in
theorem specFields (d : Nat) (v : Value) (kd : Int) (nm : ByteArray) (n : Int) (ty : Ty) (es : List Ex) (w : World) (h : ExAt w (d + 1) v (.node kd nm n ty es)) (hsz : (Ex.node kd nm n ty es).bulk ≤ 1048576) :
    Calls Tryd.prog 72 #[v] w fun e w' => e = .returned (.bool (fieldsB kd nm n ty)) ∧ Below w.heap.size w w' := by
  have HV := ex_parts h
  obtain ⟨c3, c4, sl, rfl, hk0, hk1, hn0, hn1, hnm, hty, a, cap, rfl, hcap, hcap2, hat⟩ := h
  obtain ⟨k', nm', n', tk, ta, tn, tc, sa, sn, sc, hv⟩ := HV
  injection hv with hv
  injection hv with hv
  simp at hv
  obtain ⟨rfl, rfl, rfl, rfl, rfl, rfl, rfl, rfl⟩ := hv
  have HAT := Lib.hid hat; clear hat
  have hbk : (Ex.node kd nm n ty es).bulk = nm.size + (ty.size - 1) + Ex.bulks es := rfl
  have HSZ : Hid (Ex.bulks es ≤ 1048576) := by show _ ≤ _; omega
  have HNM : Hid (nm.size ≤ 1048576) := by show _ ≤ _; omega
  have HTZ : Hid (ty.size ≤ 1048577) := by show _ ≤ _; omega
  have hlen : es.length ≤ 1048576 := by have := Ex.length_le es; omega
  have HTY := Lib.hid hty
  clear hsz hbk hty
  clear HAT HSZ
  have hz0 := ty_zero HTY.out
  have HZ0 := Lib.hid hz0; clear hz0
  have hnz := HNM.out
  have B0 : Hid (Below (w.heap.size + 1) (w.alloc (.cells #[.int .i64 kd, .string nm, .int .i64 n, .int .i64 tk, .slice ta tn tc, .slice a es.length cap] 38)) (w.alloc (.cells #[.int .i64 kd, .string nm, .int .i64 n, .int .i64 tk, .slice ta tn tc, .slice a es.length cap] 38))) := Below.refl _ _
  have HTYb := Lib.hid (HTY.out.below (box_below B0.out))
  clear HTY
  by_cases q1 : kd = 1
  · subst q1
    go_enter Tryd.func72, Tryd.ntmps72
    go_wp2_with fail
    refine (specName nm _ (by omega)).mono ?_
    rintro e w1 ⟨rfl, hw1⟩
    subst hw1
    cases hnb : nameB nm with
    | true =>
      have NZ := name_some hnb
      have c0 := box_cell B0.out 0
      have c1 := box_cell B0.out 1
      have c2 := box_cell B0.out 2
      have c3 := box_cell B0.out 3
      have c4 := box_cell B0.out 4
      have c5 := box_cell B0.out 5
      go_wp2_with fail
      go_ret
      exact ⟨by simp [fieldsB, nameFor, numFor, typeFor, *], box_below B0.out⟩
    | false =>
      by_cases NZ : nm.size = 0
      · have e1 := text_zero NZ
        have c0 := box_cell B0.out 0
        have c1 := box_cell B0.out 1
        have c2 := box_cell B0.out 2
        have c3 := box_cell B0.out 3
        have c4 := box_cell B0.out 4
        have c5 := box_cell B0.out 5
        go_wp2_with fail
        refine (specNote d _ ty _ (HTYb.out) HTZ.out).mono ?_
        rintro e w2 ⟨rfl, hb2⟩
        have B2 := Lib.hid (box_next B0.out hb2); clear hb2
        clear c0 c1 c2 c3 c4 c5
        cases hno : ty.note with
        | true =>
          have TZ := note_some hno
          have c0 := box_cell B2.out 0
          have c1 := box_cell B2.out 1
          have c2 := box_cell B2.out 2
          have c3 := box_cell B2.out 3
          have c4 := box_cell B2.out 4
          have c5 := box_cell B2.out 5
          go_wp2_with fail
          go_ret
          exact ⟨by simp [fieldsB, nameFor, numFor, typeFor, *], box_below B2.out⟩
        | false =>
          by_cases qt : tk = 0
          · by_cases qs : tn = 0
            · have TZ : ty.beq (.node 0 []) = true := by rw [HZ0.out]; simp [qt, qs]
              subst qt
              subst qs
              have c0 := box_cell B2.out 0
              have c1 := box_cell B2.out 1
              have c2 := box_cell B2.out 2
              have c3 := box_cell B2.out 3
              have c4 := box_cell B2.out 4
              have c5 := box_cell B2.out 5
              go_wp2_with fail
              refine (specIn n 1 99 _).mono ?_
              rintro e w9 ⟨rfl, hw9⟩
              subst hw9
              go_wp2_with fail
              go_ret
              exact ⟨by simp [fieldsB, nameFor, numFor, typeFor, *], box_below B2.out⟩
            · have TZ : ty.beq (.node 0 []) = false := by rw [HZ0.out]; simp [qs]
              subst qt
              have c0 := box_cell B2.out 0
              have c1 := box_cell B2.out 1
              have c2 := box_cell B2.out 2
              have c3 := box_cell B2.out 3
              have c4 := box_cell B2.out 4
              have c5 := box_cell B2.out 5
              go_wp2_with fail
              go_ret
              exact ⟨by simp [fieldsB, nameFor, numFor, typeFor, *], box_below B2.out⟩
          · have TZ : ty.beq (.node 0 []) = false := by rw [HZ0.out]; simp [qt]
            have c0 := box_cell B2.out 0
            have c1 := box_cell B2.out 1
            have c2 := box_cell B2.out 2
            have c3 := box_cell B2.out 3
            have c4 := box_cell B2.out 4
            have c5 := box_cell B2.out 5
            go_wp2_with fail
            go_ret
            exact ⟨by simp [fieldsB, nameFor, numFor, typeFor, *], box_below B2.out⟩
      · have e1 := toList_some (s := nm) (by omega)
        have c0 := box_cell B0.out 0
        have c1 := box_cell B0.out 1
        have c2 := box_cell B0.out 2
        have c3 := box_cell B0.out 3
        have c4 := box_cell B0.out 4
        have c5 := box_cell B0.out 5
        go_wp2_with fail
        go_ret
        exact ⟨by simp [fieldsB, nameFor, numFor, typeFor, *], box_below B0.out⟩
  by_cases q2 : kd = 2
  · subst q2
    go_enter Tryd.func72, Tryd.ntmps72
    go_wp2_with fail
    refine (specName nm _ (by omega)).mono ?_
    rintro e w1 ⟨rfl, hw1⟩
    subst hw1
    cases hnb : nameB nm with
    | false =>
      have c0 := box_cell B0.out 0
      have c1 := box_cell B0.out 1
      have c2 := box_cell B0.out 2
      have c3 := box_cell B0.out 3
      have c4 := box_cell B0.out 4
      have c5 := box_cell B0.out 5
      go_wp2_with fail
      go_ret
      exact ⟨by simp [fieldsB, nameFor, numFor, typeFor, *], box_below B0.out⟩
    | true =>
      have NZ := hnb
      have c0 := box_cell B0.out 0
      have c1 := box_cell B0.out 1
      have c2 := box_cell B0.out 2
      have c3 := box_cell B0.out 3
      have c4 := box_cell B0.out 4
      have c5 := box_cell B0.out 5
      go_wp2_with fail
      refine (specNote d _ ty _ (HTYb.out) HTZ.out).mono ?_
      rintro e w2 ⟨rfl, hb2⟩
      have B2 := Lib.hid (box_next B0.out hb2); clear hb2
      clear c0 c1 c2 c3 c4 c5
      cases hno : ty.note with
      | true =>
        have TZ := note_some hno
        have c0 := box_cell B2.out 0
        have c1 := box_cell B2.out 1
        have c2 := box_cell B2.out 2
        have c3 := box_cell B2.out 3
        have c4 := box_cell B2.out 4
        have c5 := box_cell B2.out 5
        go_wp2_with fail
        go_ret
        exact ⟨by simp [fieldsB, nameFor, numFor, typeFor, *], box_below B2.out⟩
      | false =>
        by_cases qt : tk = 0
        · by_cases qs : tn = 0
          · have TZ : ty.beq (.node 0 []) = true := by rw [HZ0.out]; simp [qt, qs]
            subst qt
            subst qs
            by_cases qn : n = 0
            · subst qn
              have c0 := box_cell B2.out 0
              have c1 := box_cell B2.out 1
              have c2 := box_cell B2.out 2
              have c3 := box_cell B2.out 3
              have c4 := box_cell B2.out 4
              have c5 := box_cell B2.out 5
              go_wp2_with fail
              go_ret
              exact ⟨by simp [fieldsB, nameFor, numFor, typeFor, *], box_below B2.out⟩
            · have qnb : (n == 0) = false := by simp [qn]
              have c0 := box_cell B2.out 0
              have c1 := box_cell B2.out 1
              have c2 := box_cell B2.out 2
              have c3 := box_cell B2.out 3
              have c4 := box_cell B2.out 4
              have c5 := box_cell B2.out 5
              go_wp2_with fail
              go_ret
              exact ⟨by simp [fieldsB, nameFor, numFor, typeFor, *], box_below B2.out⟩
          · have TZ : ty.beq (.node 0 []) = false := by rw [HZ0.out]; simp [qs]
            subst qt
            have c0 := box_cell B2.out 0
            have c1 := box_cell B2.out 1
            have c2 := box_cell B2.out 2
            have c3 := box_cell B2.out 3
            have c4 := box_cell B2.out 4
            have c5 := box_cell B2.out 5
            go_wp2_with fail
            go_ret
            exact ⟨by simp [fieldsB, nameFor, numFor, typeFor, *], box_below B2.out⟩
        · have TZ : ty.beq (.node 0 []) = false := by rw [HZ0.out]; simp [qt]
          have c0 := box_cell B2.out 0
          have c1 := box_cell B2.out 1
          have c2 := box_cell B2.out 2
          have c3 := box_cell B2.out 3
          have c4 := box_cell B2.out 4
          have c5 := box_cell B2.out 5
          go_wp2_with fail
          go_ret
          exact ⟨by simp [fieldsB, nameFor, numFor, typeFor, *], box_below B2.out⟩
  by_cases q3 : kd = 3
  · subst q3
    go_enter Tryd.func72, Tryd.ntmps72
    go_wp2_with fail
    refine (specName nm _ (by omega)).mono ?_
    rintro e w1 ⟨rfl, hw1⟩
    subst hw1
    cases hnb : nameB nm with
    | false =>
      have c0 := box_cell B0.out 0
      have c1 := box_cell B0.out 1
      have c2 := box_cell B0.out 2
      have c3 := box_cell B0.out 3
      have c4 := box_cell B0.out 4
      have c5 := box_cell B0.out 5
      go_wp2_with fail
      go_ret
      exact ⟨by simp [fieldsB, nameFor, numFor, typeFor, *], box_below B0.out⟩
    | true =>
      have NZ := hnb
      have c0 := box_cell B0.out 0
      have c1 := box_cell B0.out 1
      have c2 := box_cell B0.out 2
      have c3 := box_cell B0.out 3
      have c4 := box_cell B0.out 4
      have c5 := box_cell B0.out 5
      go_wp2_with fail
      refine (specNote d _ ty _ (HTYb.out) HTZ.out).mono ?_
      rintro e w2 ⟨rfl, hb2⟩
      have B2 := Lib.hid (box_next B0.out hb2); clear hb2
      clear c0 c1 c2 c3 c4 c5
      cases hno : ty.note with
      | false =>
        have c0 := box_cell B2.out 0
        have c1 := box_cell B2.out 1
        have c2 := box_cell B2.out 2
        have c3 := box_cell B2.out 3
        have c4 := box_cell B2.out 4
        have c5 := box_cell B2.out 5
        go_wp2_with fail
        go_ret
        exact ⟨by simp [fieldsB, nameFor, numFor, typeFor, *], box_below B2.out⟩
      | true =>
        have TZ := hno
        by_cases qn : n = 0
        · subst qn
          have c0 := box_cell B2.out 0
          have c1 := box_cell B2.out 1
          have c2 := box_cell B2.out 2
          have c3 := box_cell B2.out 3
          have c4 := box_cell B2.out 4
          have c5 := box_cell B2.out 5
          go_wp2_with fail
          go_ret
          exact ⟨by simp [fieldsB, nameFor, numFor, typeFor, *], box_below B2.out⟩
        · have qnb : (n == 0) = false := by simp [qn]
          have c0 := box_cell B2.out 0
          have c1 := box_cell B2.out 1
          have c2 := box_cell B2.out 2
          have c3 := box_cell B2.out 3
          have c4 := box_cell B2.out 4
          have c5 := box_cell B2.out 5
          go_wp2_with fail
          go_ret
          exact ⟨by simp [fieldsB, nameFor, numFor, typeFor, *], box_below B2.out⟩
  by_cases q5 : kd = 5
  · subst q5
    go_enter Tryd.func72, Tryd.ntmps72
    go_wp2_with fail
    refine (specName nm _ (by omega)).mono ?_
    rintro e w1 ⟨rfl, hw1⟩
    subst hw1
    cases hnb : nameB nm with
    | true =>
      have NZ := name_some hnb
      have c0 := box_cell B0.out 0
      have c1 := box_cell B0.out 1
      have c2 := box_cell B0.out 2
      have c3 := box_cell B0.out 3
      have c4 := box_cell B0.out 4
      have c5 := box_cell B0.out 5
      go_wp2_with fail
      go_ret
      exact ⟨by simp [fieldsB, nameFor, numFor, typeFor, *], box_below B0.out⟩
    | false =>
      by_cases NZ : nm.size = 0
      · have e1 := text_zero NZ
        have c0 := box_cell B0.out 0
        have c1 := box_cell B0.out 1
        have c2 := box_cell B0.out 2
        have c3 := box_cell B0.out 3
        have c4 := box_cell B0.out 4
        have c5 := box_cell B0.out 5
        go_wp2_with fail
        refine (specNote d _ ty _ (HTYb.out) HTZ.out).mono ?_
        rintro e w2 ⟨rfl, hb2⟩
        have B2 := Lib.hid (box_next B0.out hb2); clear hb2
        clear c0 c1 c2 c3 c4 c5
        cases hno : ty.note with
        | true =>
          have TZ := note_some hno
          have c0 := box_cell B2.out 0
          have c1 := box_cell B2.out 1
          have c2 := box_cell B2.out 2
          have c3 := box_cell B2.out 3
          have c4 := box_cell B2.out 4
          have c5 := box_cell B2.out 5
          go_wp2_with fail
          go_ret
          exact ⟨by simp [fieldsB, nameFor, numFor, typeFor, *], box_below B2.out⟩
        | false =>
          by_cases qt : tk = 0
          · by_cases qs : tn = 0
            · have TZ : ty.beq (.node 0 []) = true := by rw [HZ0.out]; simp [qt, qs]
              subst qt
              subst qs
              have c0 := box_cell B2.out 0
              have c1 := box_cell B2.out 1
              have c2 := box_cell B2.out 2
              have c3 := box_cell B2.out 3
              have c4 := box_cell B2.out 4
              have c5 := box_cell B2.out 5
              go_wp2_with fail
              refine (specIn n 0 999 _).mono ?_
              rintro e w9 ⟨rfl, hw9⟩
              subst hw9
              go_wp2_with fail
              go_ret
              exact ⟨by simp [fieldsB, nameFor, numFor, typeFor, *], box_below B2.out⟩
            · have TZ : ty.beq (.node 0 []) = false := by rw [HZ0.out]; simp [qs]
              subst qt
              have c0 := box_cell B2.out 0
              have c1 := box_cell B2.out 1
              have c2 := box_cell B2.out 2
              have c3 := box_cell B2.out 3
              have c4 := box_cell B2.out 4
              have c5 := box_cell B2.out 5
              go_wp2_with fail
              go_ret
              exact ⟨by simp [fieldsB, nameFor, numFor, typeFor, *], box_below B2.out⟩
          · have TZ : ty.beq (.node 0 []) = false := by rw [HZ0.out]; simp [qt]
            have c0 := box_cell B2.out 0
            have c1 := box_cell B2.out 1
            have c2 := box_cell B2.out 2
            have c3 := box_cell B2.out 3
            have c4 := box_cell B2.out 4
            have c5 := box_cell B2.out 5
            go_wp2_with fail
            go_ret
            exact ⟨by simp [fieldsB, nameFor, numFor, typeFor, *], box_below B2.out⟩
      · have e1 := toList_some (s := nm) (by omega)
        have c0 := box_cell B0.out 0
        have c1 := box_cell B0.out 1
        have c2 := box_cell B0.out 2
        have c3 := box_cell B0.out 3
        have c4 := box_cell B0.out 4
        have c5 := box_cell B0.out 5
        go_wp2_with fail
        go_ret
        exact ⟨by simp [fieldsB, nameFor, numFor, typeFor, *], box_below B0.out⟩
  by_cases q8 : kd = 8
  · subst q8
    go_enter Tryd.func72, Tryd.ntmps72
    go_wp2_with fail
    refine (specName nm _ (by omega)).mono ?_
    rintro e w1 ⟨rfl, hw1⟩
    subst hw1
    cases hnb : nameB nm with
    | true =>
      have NZ := name_some hnb
      have c0 := box_cell B0.out 0
      have c1 := box_cell B0.out 1
      have c2 := box_cell B0.out 2
      have c3 := box_cell B0.out 3
      have c4 := box_cell B0.out 4
      have c5 := box_cell B0.out 5
      go_wp2_with fail
      go_ret
      exact ⟨by simp [fieldsB, nameFor, numFor, typeFor, *], box_below B0.out⟩
    | false =>
      by_cases NZ : nm.size = 0
      · have e1 := text_zero NZ
        have c0 := box_cell B0.out 0
        have c1 := box_cell B0.out 1
        have c2 := box_cell B0.out 2
        have c3 := box_cell B0.out 3
        have c4 := box_cell B0.out 4
        have c5 := box_cell B0.out 5
        go_wp2_with fail
        refine (specNote d _ ty _ (HTYb.out) HTZ.out).mono ?_
        rintro e w2 ⟨rfl, hb2⟩
        have B2 := Lib.hid (box_next B0.out hb2); clear hb2
        clear c0 c1 c2 c3 c4 c5
        cases hno : ty.note with
        | true =>
          have TZ := note_some hno
          have c0 := box_cell B2.out 0
          have c1 := box_cell B2.out 1
          have c2 := box_cell B2.out 2
          have c3 := box_cell B2.out 3
          have c4 := box_cell B2.out 4
          have c5 := box_cell B2.out 5
          go_wp2_with fail
          go_ret
          exact ⟨by simp [fieldsB, nameFor, numFor, typeFor, *], box_below B2.out⟩
        | false =>
          by_cases qt : tk = 0
          · by_cases qs : tn = 0
            · have TZ : ty.beq (.node 0 []) = true := by rw [HZ0.out]; simp [qt, qs]
              subst qt
              subst qs
              have c0 := box_cell B2.out 0
              have c1 := box_cell B2.out 1
              have c2 := box_cell B2.out 2
              have c3 := box_cell B2.out 3
              have c4 := box_cell B2.out 4
              have c5 := box_cell B2.out 5
              go_wp2_with fail
              refine (specIn n 0 1 _).mono ?_
              rintro e w9 ⟨rfl, hw9⟩
              subst hw9
              go_wp2_with fail
              go_ret
              exact ⟨by simp [fieldsB, nameFor, numFor, typeFor, *], box_below B2.out⟩
            · have TZ : ty.beq (.node 0 []) = false := by rw [HZ0.out]; simp [qs]
              subst qt
              have c0 := box_cell B2.out 0
              have c1 := box_cell B2.out 1
              have c2 := box_cell B2.out 2
              have c3 := box_cell B2.out 3
              have c4 := box_cell B2.out 4
              have c5 := box_cell B2.out 5
              go_wp2_with fail
              go_ret
              exact ⟨by simp [fieldsB, nameFor, numFor, typeFor, *], box_below B2.out⟩
          · have TZ : ty.beq (.node 0 []) = false := by rw [HZ0.out]; simp [qt]
            have c0 := box_cell B2.out 0
            have c1 := box_cell B2.out 1
            have c2 := box_cell B2.out 2
            have c3 := box_cell B2.out 3
            have c4 := box_cell B2.out 4
            have c5 := box_cell B2.out 5
            go_wp2_with fail
            go_ret
            exact ⟨by simp [fieldsB, nameFor, numFor, typeFor, *], box_below B2.out⟩
      · have e1 := toList_some (s := nm) (by omega)
        have c0 := box_cell B0.out 0
        have c1 := box_cell B0.out 1
        have c2 := box_cell B0.out 2
        have c3 := box_cell B0.out 3
        have c4 := box_cell B0.out 4
        have c5 := box_cell B0.out 5
        go_wp2_with fail
        go_ret
        exact ⟨by simp [fieldsB, nameFor, numFor, typeFor, *], box_below B0.out⟩
  by_cases q13 : kd = 13
  · subst q13
    go_enter Tryd.func72, Tryd.ntmps72
    go_wp2_with fail
    refine (specName nm _ (by omega)).mono ?_
    rintro e w1 ⟨rfl, hw1⟩
    subst hw1
    cases hnb : nameB nm with
    | true =>
      have NZ := name_some hnb
      have c0 := box_cell B0.out 0
      have c1 := box_cell B0.out 1
      have c2 := box_cell B0.out 2
      have c3 := box_cell B0.out 3
      have c4 := box_cell B0.out 4
      have c5 := box_cell B0.out 5
      go_wp2_with fail
      go_ret
      exact ⟨by simp [fieldsB, nameFor, numFor, typeFor, *], box_below B0.out⟩
    | false =>
      by_cases NZ : nm.size = 0
      · have e1 := text_zero NZ
        have c0 := box_cell B0.out 0
        have c1 := box_cell B0.out 1
        have c2 := box_cell B0.out 2
        have c3 := box_cell B0.out 3
        have c4 := box_cell B0.out 4
        have c5 := box_cell B0.out 5
        go_wp2_with fail
        refine (specNote d _ ty _ (HTYb.out) HTZ.out).mono ?_
        rintro e w2 ⟨rfl, hb2⟩
        have B2 := Lib.hid (box_next B0.out hb2); clear hb2
        clear c0 c1 c2 c3 c4 c5
        cases hno : ty.note with
        | false =>
          have c0 := box_cell B2.out 0
          have c1 := box_cell B2.out 1
          have c2 := box_cell B2.out 2
          have c3 := box_cell B2.out 3
          have c4 := box_cell B2.out 4
          have c5 := box_cell B2.out 5
          go_wp2_with fail
          go_ret
          exact ⟨by simp [fieldsB, nameFor, numFor, typeFor, *], box_below B2.out⟩
        | true =>
          have TZ := hno
          by_cases qn : n = 0
          · subst qn
            have c0 := box_cell B2.out 0
            have c1 := box_cell B2.out 1
            have c2 := box_cell B2.out 2
            have c3 := box_cell B2.out 3
            have c4 := box_cell B2.out 4
            have c5 := box_cell B2.out 5
            go_wp2_with fail
            go_ret
            exact ⟨by simp [fieldsB, nameFor, numFor, typeFor, *], box_below B2.out⟩
          · have qnb : (n == 0) = false := by simp [qn]
            have c0 := box_cell B2.out 0
            have c1 := box_cell B2.out 1
            have c2 := box_cell B2.out 2
            have c3 := box_cell B2.out 3
            have c4 := box_cell B2.out 4
            have c5 := box_cell B2.out 5
            go_wp2_with fail
            go_ret
            exact ⟨by simp [fieldsB, nameFor, numFor, typeFor, *], box_below B2.out⟩
      · have e1 := toList_some (s := nm) (by omega)
        have c0 := box_cell B0.out 0
        have c1 := box_cell B0.out 1
        have c2 := box_cell B0.out 2
        have c3 := box_cell B0.out 3
        have c4 := box_cell B0.out 4
        have c5 := box_cell B0.out 5
        go_wp2_with fail
        go_ret
        exact ⟨by simp [fieldsB, nameFor, numFor, typeFor, *], box_below B0.out⟩
  by_cases q14 : kd = 14
  · subst q14
    go_enter Tryd.func72, Tryd.ntmps72
    go_wp2_with fail
    refine (specName nm _ (by omega)).mono ?_
    rintro e w1 ⟨rfl, hw1⟩
    subst hw1
    cases hnb : nameB nm with
    | true =>
      have NZ := name_some hnb
      have c0 := box_cell B0.out 0
      have c1 := box_cell B0.out 1
      have c2 := box_cell B0.out 2
      have c3 := box_cell B0.out 3
      have c4 := box_cell B0.out 4
      have c5 := box_cell B0.out 5
      go_wp2_with fail
      go_ret
      exact ⟨by simp [fieldsB, nameFor, numFor, typeFor, *], box_below B0.out⟩
    | false =>
      by_cases NZ : nm.size = 0
      · have e1 := text_zero NZ
        have c0 := box_cell B0.out 0
        have c1 := box_cell B0.out 1
        have c2 := box_cell B0.out 2
        have c3 := box_cell B0.out 3
        have c4 := box_cell B0.out 4
        have c5 := box_cell B0.out 5
        go_wp2_with fail
        refine (specNote d _ ty _ (HTYb.out) HTZ.out).mono ?_
        rintro e w2 ⟨rfl, hb2⟩
        have B2 := Lib.hid (box_next B0.out hb2); clear hb2
        clear c0 c1 c2 c3 c4 c5
        cases hno : ty.note with
        | true =>
          have TZ := note_some hno
          have c0 := box_cell B2.out 0
          have c1 := box_cell B2.out 1
          have c2 := box_cell B2.out 2
          have c3 := box_cell B2.out 3
          have c4 := box_cell B2.out 4
          have c5 := box_cell B2.out 5
          go_wp2_with fail
          go_ret
          exact ⟨by simp [fieldsB, nameFor, numFor, typeFor, *], box_below B2.out⟩
        | false =>
          by_cases qt : tk = 0
          · by_cases qs : tn = 0
            · have TZ : ty.beq (.node 0 []) = true := by rw [HZ0.out]; simp [qt, qs]
              subst qt
              subst qs
              have c0 := box_cell B2.out 0
              have c1 := box_cell B2.out 1
              have c2 := box_cell B2.out 2
              have c3 := box_cell B2.out 3
              have c4 := box_cell B2.out 4
              have c5 := box_cell B2.out 5
              go_wp2_with fail
              refine (specIn n 1 99 _).mono ?_
              rintro e w9 ⟨rfl, hw9⟩
              subst hw9
              go_wp2_with fail
              go_ret
              exact ⟨by simp [fieldsB, nameFor, numFor, typeFor, *], box_below B2.out⟩
            · have TZ : ty.beq (.node 0 []) = false := by rw [HZ0.out]; simp [qs]
              subst qt
              have c0 := box_cell B2.out 0
              have c1 := box_cell B2.out 1
              have c2 := box_cell B2.out 2
              have c3 := box_cell B2.out 3
              have c4 := box_cell B2.out 4
              have c5 := box_cell B2.out 5
              go_wp2_with fail
              go_ret
              exact ⟨by simp [fieldsB, nameFor, numFor, typeFor, *], box_below B2.out⟩
          · have TZ : ty.beq (.node 0 []) = false := by rw [HZ0.out]; simp [qt]
            have c0 := box_cell B2.out 0
            have c1 := box_cell B2.out 1
            have c2 := box_cell B2.out 2
            have c3 := box_cell B2.out 3
            have c4 := box_cell B2.out 4
            have c5 := box_cell B2.out 5
            go_wp2_with fail
            go_ret
            exact ⟨by simp [fieldsB, nameFor, numFor, typeFor, *], box_below B2.out⟩
      · have e1 := toList_some (s := nm) (by omega)
        have c0 := box_cell B0.out 0
        have c1 := box_cell B0.out 1
        have c2 := box_cell B0.out 2
        have c3 := box_cell B0.out 3
        have c4 := box_cell B0.out 4
        have c5 := box_cell B0.out 5
        go_wp2_with fail
        go_ret
        exact ⟨by simp [fieldsB, nameFor, numFor, typeFor, *], box_below B0.out⟩
  have z1 : (kd == 1) = false := by simp [q1]
  have z2 : (kd == 2) = false := by simp [q2]
  have z3 : (kd == 3) = false := by simp [q3]
  have z5 : (kd == 5) = false := by simp [q5]
  have z8 : (kd == 8) = false := by simp [q8]
  have z13 : (kd == 13) = false := by simp [q13]
  have z14 : (kd == 14) = false := by simp [q14]
  go_enter Tryd.func72, Tryd.ntmps72
  go_wp2_with fail
  refine (specName nm _ (by omega)).mono ?_
  rintro e w1 ⟨rfl, hw1⟩
  subst hw1
  cases hnb : nameB nm with
  | true =>
    have NZ := name_some hnb
    have c0 := box_cell B0.out 0
    have c1 := box_cell B0.out 1
    have c2 := box_cell B0.out 2
    have c3 := box_cell B0.out 3
    have c4 := box_cell B0.out 4
    have c5 := box_cell B0.out 5
    go_wp2_with fail
    go_ret
    exact ⟨by simp [fieldsB, nameFor, numFor, typeFor, *], box_below B0.out⟩
  | false =>
    by_cases NZ : nm.size = 0
    · have e1 := text_zero NZ
      have c0 := box_cell B0.out 0
      have c1 := box_cell B0.out 1
      have c2 := box_cell B0.out 2
      have c3 := box_cell B0.out 3
      have c4 := box_cell B0.out 4
      have c5 := box_cell B0.out 5
      go_wp2_with fail
      refine (specNote d _ ty _ (HTYb.out) HTZ.out).mono ?_
      rintro e w2 ⟨rfl, hb2⟩
      have B2 := Lib.hid (box_next B0.out hb2); clear hb2
      clear c0 c1 c2 c3 c4 c5
      cases hno : ty.note with
      | true =>
        have TZ := note_some hno
        have c0 := box_cell B2.out 0
        have c1 := box_cell B2.out 1
        have c2 := box_cell B2.out 2
        have c3 := box_cell B2.out 3
        have c4 := box_cell B2.out 4
        have c5 := box_cell B2.out 5
        go_wp2_with fail
        go_ret
        exact ⟨by simp [fieldsB, nameFor, numFor, typeFor, *], box_below B2.out⟩
      | false =>
        by_cases qt : tk = 0
        · by_cases qs : tn = 0
          · have TZ : ty.beq (.node 0 []) = true := by rw [HZ0.out]; simp [qt, qs]
            subst qt
            subst qs
            by_cases qn : n = 0
            · subst qn
              have c0 := box_cell B2.out 0
              have c1 := box_cell B2.out 1
              have c2 := box_cell B2.out 2
              have c3 := box_cell B2.out 3
              have c4 := box_cell B2.out 4
              have c5 := box_cell B2.out 5
              go_wp2_with fail
              go_ret
              exact ⟨by simp [fieldsB, nameFor, numFor, typeFor, *], box_below B2.out⟩
            · have qnb : (n == 0) = false := by simp [qn]
              have c0 := box_cell B2.out 0
              have c1 := box_cell B2.out 1
              have c2 := box_cell B2.out 2
              have c3 := box_cell B2.out 3
              have c4 := box_cell B2.out 4
              have c5 := box_cell B2.out 5
              go_wp2_with fail
              go_ret
              exact ⟨by simp [fieldsB, nameFor, numFor, typeFor, *], box_below B2.out⟩
          · have TZ : ty.beq (.node 0 []) = false := by rw [HZ0.out]; simp [qs]
            subst qt
            have c0 := box_cell B2.out 0
            have c1 := box_cell B2.out 1
            have c2 := box_cell B2.out 2
            have c3 := box_cell B2.out 3
            have c4 := box_cell B2.out 4
            have c5 := box_cell B2.out 5
            go_wp2_with fail
            go_ret
            exact ⟨by simp [fieldsB, nameFor, numFor, typeFor, *], box_below B2.out⟩
        · have TZ : ty.beq (.node 0 []) = false := by rw [HZ0.out]; simp [qt]
          have c0 := box_cell B2.out 0
          have c1 := box_cell B2.out 1
          have c2 := box_cell B2.out 2
          have c3 := box_cell B2.out 3
          have c4 := box_cell B2.out 4
          have c5 := box_cell B2.out 5
          go_wp2_with fail
          go_ret
          exact ⟨by simp [fieldsB, nameFor, numFor, typeFor, *], box_below B2.out⟩
    · have e1 := toList_some (s := nm) (by omega)
      have c0 := box_cell B0.out 0
      have c1 := box_cell B0.out 1
      have c2 := box_cell B0.out 2
      have c3 := box_cell B0.out 3
      have c4 := box_cell B0.out 4
      have c5 := box_cell B0.out 5
      go_wp2_with fail
      go_ret
      exact ⟨by simp [fieldsB, nameFor, numFor, typeFor, *], box_below B0.out⟩
end Go.Proofs.YtfidcblaabeaaaaDoor
/-
  Proved: a statement whose order Go leaves open, whose operations only read old memory and whose calls leave old memory as it was and answer with plain values, may be walked once, in the order of the text.
-/
namespace Go.Proofs.YtfidcblaabeaaaaDoor
open Go.RowKit

/-- A world that has grown out of w: below B all is as it was. -/
structure Grown (B : Nat) (w : World) where
  val : World
  old : Below B w val
instance (B : Nat) (w : World) : Nonempty (Grown B w) := ⟨⟨w, Below.refl _ _⟩⟩
theorem wp_region_grown {P : Program} {id : Nat} {Q : Exit → Act → World → Prop} {a : Act} {w : World} {l : List Oper} (B : Nat) (hm : P.follows .mixedOrders = true) (hB : Region.lexB .any l.toArray = true)
    (h : wpQuiet P l.toArray (fun w' => ∃ n : Grown B w, w' = n.val) (fun a' => ∀ w', (∃ n : Grown B w, w' = n.val) → Q .normal a' w') l a) : (Code.region id l.toArray true).wp P Q a w :=
  wp_region_quiet (C := fun w' => ∃ n : Grown B w, w' = n.val) hm hB ⟨⟨{ w with drawn := w.drawn + 1 }, (Below.refl _ _).drew⟩, rfl⟩ (by simpa using h)
theorem grown_of {P : Program} {f : FuncId} {args : Array Value} {B : Nat} {w : World} {n : Grown B w} {v : Value} (hB : B ≤ w.heap.size)
    (h : Calls P f args n.val fun e w' => e = .returned v ∧ Below n.val.heap.size n.val w') : Calls P f args n.val fun e w'' => e = .returned v ∧ ∃ m : Grown B w, w'' = m.val :=
  h.mono fun _ w'' ⟨he, hb⟩ => ⟨he, ⟨w'', below_thru n.old hB hb⟩, rfl⟩
theorem BoxAt.grown {w : World} {p : Nat} {cs : Array Value} (h : BoxAt w p cs) (n : Grown w.heap.size w) : BoxAt n.val p cs := h.below n.old
end Go.Proofs.YtfidcblaabeaaaaDoor
/-
  Proved: spec.l6Form says whether every node of an expression has its kind's form; the memory that was there stays as it was.
-/
namespace Go.Proofs.YtfidcblaabeaaaaDoor
open Go.RowKit

theorem box_of {w wr : World} {cs : Array Value} {T : TypeId} (h : Below (w.heap.size + 1) (w.alloc (.cells cs T)) wr) : BoxAt wr w.heap.size cs :=
  (BoxAt.new w cs T).below (by simpa using h)
theorem ex_kind {w : World} {d : Nat} {k : Int} {c1 c2 c3 c4 c5 : Value} {e : Ex} (h : ExAt w d (.agg #[.int .i64 k, c1, c2, c3, c4, c5]) e) : e.kind = k := by
  cases d with
  | zero => exact h.elim
  | succ d =>
    cases e with
    | node kd nm n ty es =>
      obtain ⟨d3, d4, sl, hv, _⟩ := h
      injection hv with hv
      injection hv with hv
      simp at hv
      exact hv.1.symm
theorem form_of {kd : Int} {nm : ByteArray} {n : Int} {ty : Ty} {es : List Ex} {b c : Bool} {r : Int} (h1 : Ex.forms es = true) (h2 : bareB kd es = true) (h3 : fieldsB kd nm n ty = b) (h4 : arity kd = r) (h5 : c = (b && decide ((es.length : Int) = r))) : (Ex.node kd nm n ty es).form = c := by
  subst h3 h4 h5
  simp only [Ex.form, h1, h2, fitsB, fieldsB, Bool.true_and]
  rw [Bool.and_comm]
set_option maxRecDepth 100000 in
set_option maxHeartbeats 4000000 in
theorem specExForm : ∀ (d : Nat) (v : Value) (t : Ex) (w : World), ExAt w d v t → t.bulk ≤ 1048576 →
    Calls Tryd.prog 66 #[v] w fun e w' => e = .returned (.bool t.form) ∧ Below w.heap.size w w'
  | 0, _, _, _, h, _ => h.elim
  | d + 1, v, .node kd nm n ty es, w, h, hsz => by
    have IH : Hid (∀ (v : Value) (t : Ex) (w : World), ExAt w d v t → t.bulk ≤ 1048576 → Calls Tryd.prog 66 #[v] w fun e w' => e = .returned (.bool t.form) ∧ Below w.heap.size w w') := specExForm d
    have HWH := Lib.hid h
    have HBK := Lib.hid hsz
    have HV := ex_parts h
    obtain ⟨c3, c4, sl, rfl, hk0, hk1, hn0, hn1, hnm, hty, a, cap, rfl, hcap, hcap2, hat⟩ := h
    obtain ⟨k', nm', n', tk, ta, tn, tc, sa, sn, sc, hv⟩ := HV
    injection hv with hv
    injection hv with hv
    simp at hv
    obtain ⟨rfl, rfl, rfl, rfl, rfl, rfl, rfl, rfl⟩ := hv
    have HAT := Lib.hid hat; clear hat
    have hbk : (Ex.node kd nm n ty es).bulk = nm.size + (ty.size - 1) + Ex.bulks es := rfl
    have HSZ : Hid (Ex.bulks es ≤ 1048576) := by show _ ≤ _; omega
    have HNM : Hid (nm.size ≤ 1048576) := by show _ ≤ _; omega
    have HTZ : Hid (ty.size ≤ 1048577) := by show _ ≤ _; omega
    have hlen : es.length ≤ 1048576 := by have := Ex.length_le es; omega
    clear hsz hbk hty
    go_enter Tryd.func66, Tryd.ntmps66
    go_wp2_with fail
    go_loopw [3] (fun i wr => ∃ k : Nat, k ≤ es.length ∧ i = .int .i64 k ∧ Ex.forms (es.take k) = true ∧ Below (w.heap.size + 1) (w.alloc (.cells #[.int .i64 kd, .string nm, .int .i64 n, .int .i64 tk, .slice ta tn tc, .slice a es.length cap] 38)) wr) (fun i _ => es.length - (intOf i).toNat)
    case atStart => exact ⟨0, by omega, rfl, by simp [Ex.forms], Below.refl _ _⟩
    case round =>
      obtain ⟨k, hk, rfl, hf, hb⟩ := hrel
      have HF := Lib.hid hf; clear hf
      have b0 := box_cell hb 0
      have b1 := box_cell hb 1
      have b2 := box_cell hb 2
      have b3 := box_cell hb 3
      have b4 := box_cell hb 4
      have b5 := box_cell hb 5
      have HB := Lib.hid (box_below hb)
      have HBX := Lib.hid hb; clear hb
      have HS2 := HSZ.out
      by_cases hlt : k < es.length
      · obtain ⟨b, off, x0, x1, x2, x3, x4, x5, rfl, hbl, hc0, hc1, hc2, hc3, hc4, hc5, ht⟩ := HAT.out k hlt
        have hg := Ex.bulk_get es k hlt
        have e0 : wr.cell? ⟨b, off + k * 6, none⟩ = some (x0) := by rw [HB.out.cell (p := ⟨b, off + k * 6, none⟩) hbl]; exact hc0
        have e1 : wr.cell? ⟨b, off + k * 6 + 1, none⟩ = some (x1) := by rw [HB.out.cell (p := ⟨b, off + k * 6 + 1, none⟩) hbl]; exact hc1
        have e2 : wr.cell? ⟨b, off + k * 6 + 2, none⟩ = some (x2) := by rw [HB.out.cell (p := ⟨b, off + k * 6 + 2, none⟩) hbl]; exact hc2
        have e3 : wr.cell? ⟨b, off + k * 6 + 3, none⟩ = some (x3) := by rw [HB.out.cell (p := ⟨b, off + k * 6 + 3, none⟩) hbl]; exact hc3
        have e4 : wr.cell? ⟨b, off + k * 6 + 4, none⟩ = some (x4) := by rw [HB.out.cell (p := ⟨b, off + k * 6 + 4, none⟩) hbl]; exact hc4
        have e5 : wr.cell? ⟨b, off + k * 6 + 5, none⟩ = some (x5) := by rw [HB.out.cell (p := ⟨b, off + k * 6 + 5, none⟩) hbl]; exact hc5
        have HT := Lib.hid (ht.below HB.out)
        clear ht hc0 hc1 hc2 hc3 hc4 hc5
        go_wp2_with fail
        refine (IH.out _ _ _ HT.out (by omega)).mono ?_
        rintro e w' ⟨rfl, hb1⟩
        have HN := Lib.hid (box_next HBX.out hb1); clear hb1
        have HT2 := Lib.hid (Ex.forms_take es k hlt)
        cases hfk : es[k].form with
        | true =>
          have HFK := Lib.hid hfk; clear hfk
          go_wp2_with fail
          exact ⟨⟨k + 1, by omega, by go_num, by rw [HT2.out, HF.out, HFK.out]; rfl, HN.out⟩, by simp [intOf]; omega⟩
        | false =>
          have HFK := Lib.hid hfk; clear hfk
          go_wp2_with fail
          go_ret
          have e : Ex.forms es = false := Ex.forms_false es (k + 1) (by rw [HT2.out, HF.out, HFK.out]; rfl)
          exact ⟨by simp [Ex.form, e], box_below HN.out⟩
      · obtain rfl : k = es.length := by omega
        have HFT : Hid (Ex.forms es = true) := by have := HF.out; rw [List.take_length] at this; exact this
        clear HF
        have XA := Lib.hid (box_of HBX.out)
        have HW2 := Lib.hid (HWH.out.below HB.out)
        clear HWH HBX
        by_cases q : kd = 14
        · subst q
          by_cases q0 : es.length = 0
          · have HBARE : Hid (bareB 14 es = true) := by
              have e0 : es = [] := List.length_eq_zero_iff.1 q0
              show _ = _
              rw [e0]; rfl
            go_wp2_with fail
            clear q0
            have C1 : ∀ q : Grown wr.heap.size wr, Calls Tryd.prog 72 #[.agg #[.int .i64 14, .string nm, .int .i64 n, .int .i64 tk, .slice ta tn tc, .slice a es.length cap]] q.val fun e w' => e = .returned (.bool (fieldsB 14 nm n ty)) ∧ Below q.val.heap.size q.val w' := fun q => specFields d _ 14 nm n ty es _ (HW2.out.below q.old) HBK.out
            have C2 : ∀ q : Grown wr.heap.size wr, Calls Tryd.prog 73 #[.int .i64 14] q.val fun e w' => e = .returned (.int .i64 (arity 14)) ∧ Below q.val.heap.size q.val w' := fun q => specArity _ _
            obtain ⟨fb, hfb⟩ : ∃ b, fieldsB 14 nm n ty = b := ⟨_, rfl⟩
            obtain ⟨r, hr⟩ : ∃ r, arity 14 = r := ⟨_, rfl⟩
            rw [hfb] at C1
            rw [hr] at C2
            have HFB := Lib.hid hfb
            have HR := Lib.hid hr
            clear hfb hr
            have g0 : ∀ q : Grown wr.heap.size wr, q.val.cell? ⟨w.heap.size, 0, none⟩ = _ := fun q => (XA.out.grown q).2 0
            have g1 : ∀ q : Grown wr.heap.size wr, q.val.cell? ⟨w.heap.size, 1, none⟩ = _ := fun q => (XA.out.grown q).2 1
            have g2 : ∀ q : Grown wr.heap.size wr, q.val.cell? ⟨w.heap.size, 2, none⟩ = _ := fun q => (XA.out.grown q).2 2
            have g3 : ∀ q : Grown wr.heap.size wr, q.val.cell? ⟨w.heap.size, 3, none⟩ = _ := fun q => (XA.out.grown q).2 3
            have g4 : ∀ q : Grown wr.heap.size wr, q.val.cell? ⟨w.heap.size, 4, none⟩ = _ := fun q => (XA.out.grown q).2 4
            have g5 : ∀ q : Grown wr.heap.size wr, q.val.cell? ⟨w.heap.size, 5, none⟩ = _ := fun q => (XA.out.grown q).2 5
            clear b0 b1 b2 b3 b4 b5 XA HW2
            cases fb
            case false =>
              refine wp_region_grown wr.heap.size (by kernel_rfl) (by kernel_rfl) ?_
              repeat (go_big_quiet_step ((first | (go_at_call 72; exact grown_of (Nat.le_refl _) (C1 _)) | (go_at_call 73; exact grown_of (Nat.le_refl _) (C2 _)))))
              refine wpQuiet_nil ?_
              rintro _ ⟨⟨wq, hq⟩, rfl⟩
              go_wp2_with fail
              go_ret
              exact ⟨by rw [form_of HFT.out HBARE.out HFB.out HR.out (c := false) (by simp)]; rfl, below_thru HB.out (Nat.le_refl _) hq⟩
            case true =>
              by_cases qa : (es.length : Int) = r
              · have qb : ((es.length : Int) == r) = true := by simp [qa]
                refine wp_region_grown wr.heap.size (by kernel_rfl) (by kernel_rfl) ?_
                repeat (go_big_quiet_step ((first | (go_at_call 72; exact grown_of (Nat.le_refl _) (C1 _)) | (go_at_call 73; exact grown_of (Nat.le_refl _) (C2 _)))))
                refine wpQuiet_nil ?_
                rintro _ ⟨⟨wq, hq⟩, rfl⟩
                go_wp2_with fail
                go_ret
                exact ⟨by rw [form_of HFT.out HBARE.out HFB.out HR.out (c := true) (by simp [qa])]; rfl, below_thru HB.out (Nat.le_refl _) hq⟩
              · have qb : ((es.length : Int) == r) = false := by simp [qa]
                refine wp_region_grown wr.heap.size (by kernel_rfl) (by kernel_rfl) ?_
                repeat (go_big_quiet_step ((first | (go_at_call 72; exact grown_of (Nat.le_refl _) (C1 _)) | (go_at_call 73; exact grown_of (Nat.le_refl _) (C2 _)))))
                refine wpQuiet_nil ?_
                rintro _ ⟨⟨wq, hq⟩, rfl⟩
                go_wp2_with fail
                go_ret
                exact ⟨by rw [form_of HFT.out HBARE.out HFB.out HR.out (c := false) (by simp [qa])]; rfl, below_thru HB.out (Nat.le_refl _) hq⟩
          · obtain ⟨b, off, x0, x1, x2, x3, x4, x5, rfl, hbl, hc0, hc1, hc2, hc3, hc4, hc5, ht⟩ := HAT.out 0 (by omega)
            obtain ⟨yk, ynm, yn, ytk, yta, ytn, ytc, ya, ym, yc, rfl, rfl, rfl, rfl, rfl, rfl⟩ := ex_cells ht
            have e0 : wr.cell? ⟨b, off, none⟩ = some (.int .i64 yk) := by have := HB.out.cell (p := ⟨b, off, none⟩) hbl; rw [this]; simpa using hc0
            have hkind : es[0].kind = yk := ex_kind ht
            have HKIND := Lib.hid hkind
            clear ht hc0 hc1 hc2 hc3 hc4 hc5 hkind
            have hpos : 0 < es.length := by omega
            by_cases q2 : yk = 14
            · subst q2
              go_wp2_with fail
              go_ret
              have e : bareB 14 es = false := by cases es with | nil => simp at hpos | cons x r => simpa [bareB] using HKIND.out
              exact ⟨by simp [Ex.form, e], HB.out⟩
            · have q2b : (yk == 14) = false := by simp [q2]
              have HBARE : Hid (bareB 14 es = true) := by cases es with | nil => rfl | cons x r => have := HKIND.out; simp at this; show _ = _; simp [bareB, this, q2]
              go_wp2_with fail
              have C1 : ∀ q : Grown wr.heap.size wr, Calls Tryd.prog 72 #[.agg #[.int .i64 14, .string nm, .int .i64 n, .int .i64 tk, .slice ta tn tc, .slice (some ⟨b, off, none⟩) es.length cap]] q.val fun e w' => e = .returned (.bool (fieldsB 14 nm n ty)) ∧ Below q.val.heap.size q.val w' := fun q => specFields d _ 14 nm n ty es _ (HW2.out.below q.old) HBK.out
              have C2 : ∀ q : Grown wr.heap.size wr, Calls Tryd.prog 73 #[.int .i64 14] q.val fun e w' => e = .returned (.int .i64 (arity 14)) ∧ Below q.val.heap.size q.val w' := fun q => specArity _ _
              obtain ⟨fb, hfb⟩ : ∃ b, fieldsB 14 nm n ty = b := ⟨_, rfl⟩
              obtain ⟨r, hr⟩ : ∃ r, arity 14 = r := ⟨_, rfl⟩
              rw [hfb] at C1
              rw [hr] at C2
              have HFB := Lib.hid hfb
              have HR := Lib.hid hr
              clear hfb hr
              have g0 : ∀ q : Grown wr.heap.size wr, q.val.cell? ⟨w.heap.size, 0, none⟩ = _ := fun q => (XA.out.grown q).2 0
              have g1 : ∀ q : Grown wr.heap.size wr, q.val.cell? ⟨w.heap.size, 1, none⟩ = _ := fun q => (XA.out.grown q).2 1
              have g2 : ∀ q : Grown wr.heap.size wr, q.val.cell? ⟨w.heap.size, 2, none⟩ = _ := fun q => (XA.out.grown q).2 2
              have g3 : ∀ q : Grown wr.heap.size wr, q.val.cell? ⟨w.heap.size, 3, none⟩ = _ := fun q => (XA.out.grown q).2 3
              have g4 : ∀ q : Grown wr.heap.size wr, q.val.cell? ⟨w.heap.size, 4, none⟩ = _ := fun q => (XA.out.grown q).2 4
              have g5 : ∀ q : Grown wr.heap.size wr, q.val.cell? ⟨w.heap.size, 5, none⟩ = _ := fun q => (XA.out.grown q).2 5
              clear b0 b1 b2 b3 b4 b5 XA HW2
              cases fb
              case false =>
                refine wp_region_grown wr.heap.size (by kernel_rfl) (by kernel_rfl) ?_
                repeat (go_big_quiet_step ((first | (go_at_call 72; exact grown_of (Nat.le_refl _) (C1 _)) | (go_at_call 73; exact grown_of (Nat.le_refl _) (C2 _)))))
                refine wpQuiet_nil ?_
                rintro _ ⟨⟨wq, hq⟩, rfl⟩
                go_wp2_with fail
                go_ret
                exact ⟨by rw [form_of HFT.out HBARE.out HFB.out HR.out (c := false) (by simp)]; rfl, below_thru HB.out (Nat.le_refl _) hq⟩
              case true =>
                by_cases qa : (es.length : Int) = r
                · have qb : ((es.length : Int) == r) = true := by simp [qa]
                  refine wp_region_grown wr.heap.size (by kernel_rfl) (by kernel_rfl) ?_
                  repeat (go_big_quiet_step ((first | (go_at_call 72; exact grown_of (Nat.le_refl _) (C1 _)) | (go_at_call 73; exact grown_of (Nat.le_refl _) (C2 _)))))
                  refine wpQuiet_nil ?_
                  rintro _ ⟨⟨wq, hq⟩, rfl⟩
                  go_wp2_with fail
                  go_ret
                  exact ⟨by rw [form_of HFT.out HBARE.out HFB.out HR.out (c := true) (by simp [qa])]; rfl, below_thru HB.out (Nat.le_refl _) hq⟩
                · have qb : ((es.length : Int) == r) = false := by simp [qa]
                  refine wp_region_grown wr.heap.size (by kernel_rfl) (by kernel_rfl) ?_
                  repeat (go_big_quiet_step ((first | (go_at_call 72; exact grown_of (Nat.le_refl _) (C1 _)) | (go_at_call 73; exact grown_of (Nat.le_refl _) (C2 _)))))
                  refine wpQuiet_nil ?_
                  rintro _ ⟨⟨wq, hq⟩, rfl⟩
                  go_wp2_with fail
                  go_ret
                  exact ⟨by rw [form_of HFT.out HBARE.out HFB.out HR.out (c := false) (by simp [qa])]; rfl, below_thru HB.out (Nat.le_refl _) hq⟩
        · have qb0 : (kd == 14) = false := by simp [q]
          have HBARE : Hid (bareB kd es = true) := by cases es with | nil => rfl | cons x r => show _ = _; simp [bareB, q]
          go_wp2_with fail
          have C1 : ∀ q : Grown wr.heap.size wr, Calls Tryd.prog 72 #[.agg #[.int .i64 kd, .string nm, .int .i64 n, .int .i64 tk, .slice ta tn tc, .slice a es.length cap]] q.val fun e w' => e = .returned (.bool (fieldsB kd nm n ty)) ∧ Below q.val.heap.size q.val w' := fun q => specFields d _ kd nm n ty es _ (HW2.out.below q.old) HBK.out
          have C2 : ∀ q : Grown wr.heap.size wr, Calls Tryd.prog 73 #[.int .i64 kd] q.val fun e w' => e = .returned (.int .i64 (arity kd)) ∧ Below q.val.heap.size q.val w' := fun q => specArity _ _
          obtain ⟨fb, hfb⟩ : ∃ b, fieldsB kd nm n ty = b := ⟨_, rfl⟩
          obtain ⟨r, hr⟩ : ∃ r, arity kd = r := ⟨_, rfl⟩
          rw [hfb] at C1
          rw [hr] at C2
          have HFB := Lib.hid hfb
          have HR := Lib.hid hr
          clear hfb hr
          have g0 : ∀ q : Grown wr.heap.size wr, q.val.cell? ⟨w.heap.size, 0, none⟩ = _ := fun q => (XA.out.grown q).2 0
          have g1 : ∀ q : Grown wr.heap.size wr, q.val.cell? ⟨w.heap.size, 1, none⟩ = _ := fun q => (XA.out.grown q).2 1
          have g2 : ∀ q : Grown wr.heap.size wr, q.val.cell? ⟨w.heap.size, 2, none⟩ = _ := fun q => (XA.out.grown q).2 2
          have g3 : ∀ q : Grown wr.heap.size wr, q.val.cell? ⟨w.heap.size, 3, none⟩ = _ := fun q => (XA.out.grown q).2 3
          have g4 : ∀ q : Grown wr.heap.size wr, q.val.cell? ⟨w.heap.size, 4, none⟩ = _ := fun q => (XA.out.grown q).2 4
          have g5 : ∀ q : Grown wr.heap.size wr, q.val.cell? ⟨w.heap.size, 5, none⟩ = _ := fun q => (XA.out.grown q).2 5
          clear b0 b1 b2 b3 b4 b5 XA HW2
          cases fb
          case false =>
            refine wp_region_grown wr.heap.size (by kernel_rfl) (by kernel_rfl) ?_
            repeat (go_big_quiet_step ((first | (go_at_call 72; exact grown_of (Nat.le_refl _) (C1 _)) | (go_at_call 73; exact grown_of (Nat.le_refl _) (C2 _)))))
            refine wpQuiet_nil ?_
            rintro _ ⟨⟨wq, hq⟩, rfl⟩
            go_wp2_with fail
            go_ret
            exact ⟨by rw [form_of HFT.out HBARE.out HFB.out HR.out (c := false) (by simp)]; rfl, below_thru HB.out (Nat.le_refl _) hq⟩
          case true =>
            by_cases qa : (es.length : Int) = r
            · have qb : ((es.length : Int) == r) = true := by simp [qa]
              refine wp_region_grown wr.heap.size (by kernel_rfl) (by kernel_rfl) ?_
              repeat (go_big_quiet_step ((first | (go_at_call 72; exact grown_of (Nat.le_refl _) (C1 _)) | (go_at_call 73; exact grown_of (Nat.le_refl _) (C2 _)))))
              refine wpQuiet_nil ?_
              rintro _ ⟨⟨wq, hq⟩, rfl⟩
              go_wp2_with fail
              go_ret
              exact ⟨by rw [form_of HFT.out HBARE.out HFB.out HR.out (c := true) (by simp [qa])]; rfl, below_thru HB.out (Nat.le_refl _) hq⟩
            · have qb : ((es.length : Int) == r) = false := by simp [qa]
              refine wp_region_grown wr.heap.size (by kernel_rfl) (by kernel_rfl) ?_
              repeat (go_big_quiet_step ((first | (go_at_call 72; exact grown_of (Nat.le_refl _) (C1 _)) | (go_at_call 73; exact grown_of (Nat.le_refl _) (C2 _)))))
              refine wpQuiet_nil ?_
              rintro _ ⟨⟨wq, hq⟩, rfl⟩
              go_wp2_with fail
              go_ret
              exact ⟨by rw [form_of HFT.out HBARE.out HFB.out HR.out (c := false) (by simp [qa])]; rfl, below_thru HB.out (Nat.le_refl _) hq⟩
end Go.Proofs.YtfidcblaabeaaaaDoor
/-
  Proved: spec.l6Left takes an expression's nodes but its marks from what is left; the memory that was there stays as it was.
-/
namespace Go.Proofs.YtfidcblaabeaaaaDoor
open Go.RowKit

/-- What is left of a room behind an expression: below 0 only where it did not fit or has no right form. -/
def LeftsTo (t : Ex) (left r : Int) : Prop := -1 ≤ r ∧ r ≤ left ∧ (0 ≤ r → r = left - t.count) ∧ (t.form = true → (t.count : Int) ≤ left → 0 ≤ r)
/-- The same behind the first k parts. -/
def PartTo (es : List Ex) (k : Nat) (left m : Int) : Prop := -1 ≤ m ∧ m ≤ left ∧ (0 ≤ m → m = left - Ex.counts (es.take k)) ∧ (Ex.forms es = true → (Ex.counts es : Int) ≤ left → 0 ≤ m)
theorem PartTo.start {es : List Ex} {left : Int} (h : -1 ≤ left) : PartTo es 0 left left := by
  refine ⟨h, by omega, fun _ => by simp [Ex.counts], fun _ hc => by omega⟩
theorem PartTo.next {es : List Ex} {k : Nat} {left m r : Int} (h : PartTo es k left m) (hlt : k < es.length) (hm : 0 ≤ m) (h1 : LeftsTo es[k] m r) : PartTo es (k + 1) left r := by
  obtain ⟨a0, a1, a2, a3⟩ := h
  obtain ⟨b0, b1, b2, b3⟩ := h1
  have e := Ex.counts_take es k hlt
  have c := Ex.counts_le_all es (k + 1)
  have h0 := a2 hm
  refine ⟨b0, by omega, fun hr => by have := b2 hr; omega, fun hf hc => ?_⟩
  exact b3 (Ex.forms_get es k hlt hf) (by omega)
theorem LeftsTo.of_neg {kd : Int} {nm : ByteArray} {n : Int} {ty : Ty} {es : List Ex} {k c : Nat} {left l0 m : Int} (h : PartTo es k l0 m) (hn : m < 0) (hl : l0 ≤ left ∧ left - c ≤ l0 ∧ -1 ≤ l0) (hc : (Ex.node kd nm n ty es).count = c + Ex.counts es) : LeftsTo (.node kd nm n ty es) left m := by
  obtain ⟨a0, a1, a2, a3⟩ := h
  refine ⟨a0, by omega, fun hr => by omega, fun hf hcn => ?_⟩
  simp only [Ex.form, Bool.and_eq_true] at hf
  exact a3 hf.1 (by omega)
theorem LeftsTo.of_all {kd : Int} {nm : ByteArray} {n : Int} {ty : Ty} {es : List Ex} {c : Nat} {left l0 m : Int} (h : PartTo es es.length l0 m) (hl : l0 = left - c) (hc : (Ex.node kd nm n ty es).count = c + Ex.counts es) : LeftsTo (.node kd nm n ty es) left m := by
  obtain ⟨a0, a1, a2, a3⟩ := h
  rw [List.take_length] at a2
  refine ⟨a0, by omega, fun hr => by have := a2 hr; omega, fun hf hcn => ?_⟩
  simp only [Ex.form, Bool.and_eq_true] at hf
  exact a3 hf.1 (by omega)
theorem LeftsTo.bad {t : Ex} {left : Int} (hl : -1 ≤ left) (h : t.form = false) : LeftsTo t left (-1) :=
  ⟨by omega, hl, fun h => by omega, fun hf => by rw [h] at hf; cases hf⟩
set_option maxRecDepth 100000 in
set_option maxHeartbeats 4000000 in
theorem specExLeft : ∀ (d : Nat) (v : Value) (t : Ex) (left : Int) (w : World), 0 ≤ left → left ≤ 1048576 → ExAt w d v t → t.bulk ≤ 1048576 →
    Calls Tryd.prog 64 #[v, .int .i64 left] w fun e w' => ∃ r, e = .returned (.int .i64 r) ∧ LeftsTo t left r ∧ Below w.heap.size w w'
  | 0, _, _, _, _, _, _, h, _ => h.elim
  | d + 1, v, .node kd nm n ty es, left, w, hl0, hl1, h, hsz => by
    have IH : Hid (∀ (v : Value) (t : Ex) (left : Int) (w : World), 0 ≤ left → left ≤ 1048576 → ExAt w d v t → t.bulk ≤ 1048576 → Calls Tryd.prog 64 #[v, .int .i64 left] w fun e w' => ∃ r, e = .returned (.int .i64 r) ∧ LeftsTo t left r ∧ Below w.heap.size w w') := specExLeft d
    have HV := ex_parts h
    obtain ⟨c3, c4, sl, rfl, hk0, hk1, hn0, hn1, hnm, hty, a, cap, rfl, hcap, hcap2, hat⟩ := h
    obtain ⟨k', nm', n', tk, ta, tn, tc, sa, sn, sc, hv⟩ := HV
    injection hv with hv
    injection hv with hv
    simp at hv
    obtain ⟨rfl, rfl, rfl, rfl, rfl, rfl, rfl, rfl⟩ := hv
    have HAT := Lib.hid hat; clear hat
    have hbk : (Ex.node kd nm n ty es).bulk = nm.size + (ty.size - 1) + Ex.bulks es := rfl
    have HSZ : Hid (Ex.bulks es ≤ 1048576) := by show _ ≤ _; omega
    have HNM : Hid (nm.size ≤ 1048576) := by show _ ≤ _; omega
    have HTZ : Hid (ty.size ≤ 1048577) := by show _ ≤ _; omega
    have hlen : es.length ≤ 1048576 := by have := Ex.length_le es; omega
    clear hsz hbk hty
    by_cases q : kd = 14
    · subst q
      by_cases q1 : es.length = 1
      · have hpos : 0 < es.length := by omega
        have q1b : ((es.length : Int) == 1) = true := by simp [q1]
        have q1c : ((es.length : Int) != 1) = false := by simp [q1]
        clear q1
        obtain ⟨b, off, x0, x1, x2, x3, x4, x5, rfl, hbl, hc0, hc1, hc2, hc3, hc4, hc5, ht⟩ := HAT.out 0 (by omega)
        obtain ⟨yk, ynm, yn, ytk, yta, ytn, ytc, ya, ym, yc, rfl, rfl, rfl, rfl, rfl, rfl⟩ := ex_cells ht
        have HFIRST : Hid ((w.alloc (.cells #[.int .i64 14, .string nm, .int .i64 n, .int .i64 tk, .slice ta tn tc, .slice (some ⟨b, off, none⟩) es.length cap] 38)).cell? ⟨b, off, none⟩ = some (.int .i64 yk)) := by have := (below_alloc w (.cells #[.int .i64 14, .string nm, .int .i64 n, .int .i64 tk, .slice ta tn tc, .slice (some ⟨b, off, none⟩) es.length cap] 38)).cell (p := ⟨b, off, none⟩) hbl; show _ = _; rw [this]; simpa using hc0
        have e9 : w.cell? ⟨b, off, none⟩ = some (.int .i64 yk) := by simpa using hc0
        have HKIND := Lib.hid (ex_kind ht)
        clear ht hc0 hc1 hc2 hc3 hc4 hc5
        have e0 := HFIRST.out
        by_cases q2 : yk = 14
        · subst q2
          have NOFORM : Hid ((Ex.node 14 nm n ty es).form = false) := by
            have e : bareB 14 es = false := by cases es with | nil => simp at hpos | cons x r => simpa [bareB] using HKIND.out
            show _ = _; simp [Ex.form, e]
          go_enter Tryd.func64, Tryd.ntmps64
          go_wp2_with fail
          go_ret
          exact ⟨_, rfl, LeftsTo.bad (by omega) NOFORM.out, Below.refl _ _ |>.alloc (Nat.le_refl _) _⟩
        · have q2b : (yk == 14) = false := by simp [q2]
          have HFIN : Hid ((Ex.node 14 nm n ty es).count = 0 + Ex.counts es) := by show _ = _; simp [Ex.count]
          go_enter Tryd.func64, Tryd.ntmps64
          go_wp2_with fail
          refine (specBit _ _).mono ?_
          rintro e w9 ⟨rfl, rfl⟩
          go_wp2_with fail
          go_loopw [1, 5] (fun l i wr => ∃ (k : Nat) (m : Int), k ≤ es.length ∧ i = .int .i64 k ∧ l = .int .i64 m ∧ PartTo es k (left) m ∧ Below (w.heap.size + 1) (w.alloc (.cells #[.int .i64 14, .string nm, .int .i64 n, .int .i64 tk, .slice ta tn tc, .slice (some ⟨b, off, none⟩) es.length cap] 38)) wr) (fun _ i _ => es.length - (intOf i).toNat)
          case atStart => exact ⟨0, left, by omega, rfl, rfl, PartTo.start (by omega), Below.refl _ _⟩
          case round =>
            obtain ⟨k, m, hk, rfl, rfl, hm, hb⟩ := hrel
            have HM := Lib.hid hm; clear hm
            obtain ⟨mb0, mb1⟩ : -1 ≤ m ∧ m ≤ 1048576 := by have h1 := HM.out.1; have h2 := HM.out.2.1; omega
            have b0 := box_cell hb 0
            have b5 := box_cell hb 5
            have HB := Lib.hid (box_below hb)
            have HBX := Lib.hid hb; clear hb
            have HS2 := HSZ.out
            by_cases hlt : k < es.length
            · by_cases hneg : m < 0
              · go_wp2_with fail
                go_ret
                exact ⟨_, rfl, LeftsTo.of_neg (HM.out) hneg (by omega) HFIN.out, HB.out⟩
              · obtain ⟨b2, off2, x0, x1, x2, x3, x4, x5, hab, hbl, hc0, hc1, hc2, hc3, hc4, hc5, ht⟩ := HAT.out k hlt
                obtain ⟨rfl, rfl⟩ : b = b2 ∧ off = off2 := by simpa using hab
                have hg := Ex.bulk_get es k hlt
                have e0 : wr.cell? ⟨b, off + k * 6, none⟩ = some (x0) := by rw [HB.out.cell (p := ⟨b, off + k * 6, none⟩) hbl]; exact hc0
                have e1 : wr.cell? ⟨b, off + k * 6 + 1, none⟩ = some (x1) := by rw [HB.out.cell (p := ⟨b, off + k * 6 + 1, none⟩) hbl]; exact hc1
                have e2 : wr.cell? ⟨b, off + k * 6 + 2, none⟩ = some (x2) := by rw [HB.out.cell (p := ⟨b, off + k * 6 + 2, none⟩) hbl]; exact hc2
                have e3 : wr.cell? ⟨b, off + k * 6 + 3, none⟩ = some (x3) := by rw [HB.out.cell (p := ⟨b, off + k * 6 + 3, none⟩) hbl]; exact hc3
                have e4 : wr.cell? ⟨b, off + k * 6 + 4, none⟩ = some (x4) := by rw [HB.out.cell (p := ⟨b, off + k * 6 + 4, none⟩) hbl]; exact hc4
                have e5 : wr.cell? ⟨b, off + k * 6 + 5, none⟩ = some (x5) := by rw [HB.out.cell (p := ⟨b, off + k * 6 + 5, none⟩) hbl]; exact hc5
                have HT := Lib.hid (ht.below HB.out)
                clear ht hc0 hc1 hc2 hc3 hc4 hc5
                go_wp2_with fail
                refine (IH.out _ _ m wr (by omega) mb1 HT.out (by omega)).mono ?_
                rintro e w' ⟨r1, rfl, hr1, hb1⟩
                have HN := Lib.hid (box_next HBX.out hb1); clear hb1
                have HNEW := Lib.hid (HM.out.next hlt (by omega) hr1)
                clear hr1
                go_wp2_with fail
                exact ⟨⟨k + 1, _, by omega, by go_num, rfl, HNEW.out, HN.out⟩, by simp [intOf]; omega⟩
            · obtain rfl : k = es.length := by omega
              go_wp2_with fail
              go_ret
              exact ⟨_, rfl, LeftsTo.of_all HM.out (by omega) HFIN.out, HB.out⟩
      · have q1b : ((es.length : Int) == 1) = false := by simp; omega
        have NOFORM : Hid ((Ex.node 14 nm n ty es).form = false) := by
          have e : fitsB 14 nm n ty es.length = false := by
            have : ¬ ((es.length : Int) = arity 14) := by show ¬ (_ = (1 : Int)); omega
            simp [fitsB, this]
          show _ = _; simp [Ex.form, e]
        go_enter Tryd.func64, Tryd.ntmps64
        go_wp2_with fail
        go_ret
        exact ⟨_, rfl, LeftsTo.bad (by omega) NOFORM.out, Below.refl _ _ |>.alloc (Nat.le_refl _) _⟩
    · have qb0 : (kd == 14) = false := by simp [q]
      have HFIN : Hid ((Ex.node kd nm n ty es).count = 1 + Ex.counts es) := by show _ = _; simp [Ex.count, q]
      go_enter Tryd.func64, Tryd.ntmps64
      go_wp2_with fail
      refine (specBit _ _).mono ?_
      rintro e w9 ⟨rfl, rfl⟩
      go_wp2_with fail
      go_loopw [1, 5] (fun l i wr => ∃ (k : Nat) (m : Int), k ≤ es.length ∧ i = .int .i64 k ∧ l = .int .i64 m ∧ PartTo es k (left - 1) m ∧ Below (w.heap.size + 1) (w.alloc (.cells #[.int .i64 kd, .string nm, .int .i64 n, .int .i64 tk, .slice ta tn tc, .slice a es.length cap] 38)) wr) (fun _ i _ => es.length - (intOf i).toNat)
      case atStart => exact ⟨0, left - 1, by omega, rfl, rfl, PartTo.start (by omega), Below.refl _ _⟩
      case round =>
        obtain ⟨k, m, hk, rfl, rfl, hm, hb⟩ := hrel
        have HM := Lib.hid hm; clear hm
        obtain ⟨mb0, mb1⟩ : -1 ≤ m ∧ m ≤ 1048576 := by have h1 := HM.out.1; have h2 := HM.out.2.1; omega
        have b0 := box_cell hb 0
        have b5 := box_cell hb 5
        have HB := Lib.hid (box_below hb)
        have HBX := Lib.hid hb; clear hb
        have HS2 := HSZ.out
        by_cases hlt : k < es.length
        · by_cases hneg : m < 0
          · go_wp2_with fail
            go_ret
            exact ⟨_, rfl, LeftsTo.of_neg (HM.out) hneg (by omega) HFIN.out, HB.out⟩
          · obtain ⟨b, off, x0, x1, x2, x3, x4, x5, rfl, hbl, hc0, hc1, hc2, hc3, hc4, hc5, ht⟩ := HAT.out k hlt
            have hg := Ex.bulk_get es k hlt
            have e0 : wr.cell? ⟨b, off + k * 6, none⟩ = some (x0) := by rw [HB.out.cell (p := ⟨b, off + k * 6, none⟩) hbl]; exact hc0
            have e1 : wr.cell? ⟨b, off + k * 6 + 1, none⟩ = some (x1) := by rw [HB.out.cell (p := ⟨b, off + k * 6 + 1, none⟩) hbl]; exact hc1
            have e2 : wr.cell? ⟨b, off + k * 6 + 2, none⟩ = some (x2) := by rw [HB.out.cell (p := ⟨b, off + k * 6 + 2, none⟩) hbl]; exact hc2
            have e3 : wr.cell? ⟨b, off + k * 6 + 3, none⟩ = some (x3) := by rw [HB.out.cell (p := ⟨b, off + k * 6 + 3, none⟩) hbl]; exact hc3
            have e4 : wr.cell? ⟨b, off + k * 6 + 4, none⟩ = some (x4) := by rw [HB.out.cell (p := ⟨b, off + k * 6 + 4, none⟩) hbl]; exact hc4
            have e5 : wr.cell? ⟨b, off + k * 6 + 5, none⟩ = some (x5) := by rw [HB.out.cell (p := ⟨b, off + k * 6 + 5, none⟩) hbl]; exact hc5
            have HT := Lib.hid (ht.below HB.out)
            clear ht hc0 hc1 hc2 hc3 hc4 hc5
            go_wp2_with fail
            refine (IH.out _ _ m wr (by omega) mb1 HT.out (by omega)).mono ?_
            rintro e w' ⟨r1, rfl, hr1, hb1⟩
            have HN := Lib.hid (box_next HBX.out hb1); clear hb1
            have HNEW := Lib.hid (HM.out.next hlt (by omega) hr1)
            clear hr1
            go_wp2_with fail
            exact ⟨⟨k + 1, _, by omega, by go_num, rfl, HNEW.out, HN.out⟩, by simp [intOf]; omega⟩
        · obtain rfl : k = es.length := by omega
          go_wp2_with fail
          go_ret
          exact ⟨_, rfl, LeftsTo.of_all HM.out (by omega) HFIN.out, HB.out⟩
end Go.Proofs.YtfidcblaabeaaaaDoor
/-
  Proved: spec.DepthOf measures the depth of an expression; the memory that was there stays as it was.
-/
namespace Go.Proofs.YtfidcblaabeaaaaDoor
open Go.RowKit

set_option maxRecDepth 100000 in
set_option maxHeartbeats 2000000 in
theorem specExDepth : ∀ (d : Nat) (v : Value) (t : Ex) (w : World), ExAt w d v t → t.bulk ≤ 1048576 →
    Calls Tryd.prog 65 #[v] w fun e w' => e = .returned (.int .i64 (t.high : Int)) ∧ Below w.heap.size w w'
  | 0, _, _, _, h, _ => h.elim
  | d + 1, v, .node kd nm n ty es, w, h, hsz => by
    have IH : Hid (∀ (v : Value) (t : Ex) (w : World), ExAt w d v t → t.bulk ≤ 1048576 → Calls Tryd.prog 65 #[v] w fun e w' => e = .returned (.int .i64 (t.high : Int)) ∧ Below w.heap.size w w') := specExDepth d
    have HV := ex_parts h
    obtain ⟨c3, c4, sl, rfl, hk0, hk1, hn0, hn1, hnm, hty, a, cap, rfl, hcap, hcap2, hat⟩ := h
    obtain ⟨k', nm', n', tk, ta, tn, tc, sa, sn, sc, hv⟩ := HV
    injection hv with hv
    injection hv with hv
    simp at hv
    obtain ⟨rfl, rfl, rfl, rfl, rfl, rfl, rfl, rfl⟩ := hv
    have HAT := Lib.hid hat; clear hat
    have hbk : (Ex.node kd nm n ty es).bulk = nm.size + (ty.size - 1) + Ex.bulks es := rfl
    have HSZ : Hid (Ex.bulks es ≤ 1048576) := by show _ ≤ _; omega
    have hlen : es.length ≤ 1048576 := by have := Ex.length_le es; omega
    clear hsz hbk hty
    by_cases q : kd = 14
    · subst q
      have HFIN : Hid ((Ex.node 14 nm n ty es).high = Ex.highs es + 0) := by show _ = _; simp [Ex.high]
      go_enter Tryd.func65, Tryd.ntmps65
      go_wp2_with fail
      go_loopw [3, 4] (fun m i wr => ∃ k : Nat, k ≤ es.length ∧ i = .int .i64 k ∧ m = .int .i64 ((Ex.highs (es.take k) : Int)) ∧ Below (w.heap.size + 1) (w.alloc (.cells #[.int .i64 14, .string nm, .int .i64 n, .int .i64 tk, .slice ta tn tc, .slice a es.length cap] 38)) wr) (fun _ i _ => es.length - (intOf i).toNat)
      case atStart => exact ⟨0, by omega, rfl, by simp [Ex.highs], Below.refl _ _⟩
      case round =>
        obtain ⟨k, hk, rfl, rfl, hb⟩ := hrel
        have b0 := box_cell hb 0
        have b5 := box_cell hb 5
        have HB := Lib.hid (box_below hb)
        have HBX := Lib.hid hb; clear hb
        have HS1 := Ex.highs_part es k
        have HS2 := HSZ.out
        by_cases hlt : k < es.length
        · obtain ⟨b, off, x0, x1, x2, x3, x4, x5, rfl, hbl, hc0, hc1, hc2, hc3, hc4, hc5, ht⟩ := HAT.out k hlt
          have hg := Ex.bulk_get es k hlt
          have hg2 := Ex.high_le es[k]
          have hg3 := Ex.highs_part es (k + 1)
          have e0 : wr.cell? ⟨b, off + k * 6, none⟩ = some x0 := by rw [HB.out.cell (p := ⟨b, off + k * 6, none⟩) hbl]; exact hc0
          have e1 : wr.cell? ⟨b, off + k * 6 + 1, none⟩ = some x1 := by rw [HB.out.cell (p := ⟨b, off + k * 6 + 1, none⟩) hbl]; exact hc1
          have e2 : wr.cell? ⟨b, off + k * 6 + 2, none⟩ = some x2 := by rw [HB.out.cell (p := ⟨b, off + k * 6 + 2, none⟩) hbl]; exact hc2
          have e3 : wr.cell? ⟨b, off + k * 6 + 3, none⟩ = some x3 := by rw [HB.out.cell (p := ⟨b, off + k * 6 + 3, none⟩) hbl]; exact hc3
          have e4 : wr.cell? ⟨b, off + k * 6 + 4, none⟩ = some x4 := by rw [HB.out.cell (p := ⟨b, off + k * 6 + 4, none⟩) hbl]; exact hc4
          have e5 : wr.cell? ⟨b, off + k * 6 + 5, none⟩ = some x5 := by rw [HB.out.cell (p := ⟨b, off + k * 6 + 5, none⟩) hbl]; exact hc5
          have HT := Lib.hid (ht.below HB.out)
          have HPX := Lib.hid HBX.out
          clear ht hc0 hc1 hc2 hc3 hc4 hc5
          go_wp2_with fail
          refine (IH.out _ _ _ HT.out (by omega)).mono ?_
          rintro e w' ⟨rfl, hb1⟩
          have HN := Lib.hid (box_next HPX.out hb1); clear hb1
          have HT2 := Lib.hid (Ex.highs_take es k hlt)
          have hg4 : es[k].high ≤ 1048577 := by rw [HT2.out] at hg3; omega
          clear hg3
          go_wp2_with fail
          refine (specMax _ _ w').mono ?_
          rintro e w2 ⟨rfl, rfl⟩
          go_wp2_with fail
          exact ⟨⟨k + 1, by omega, by go_num, by rw [HT2.out]; go_num, HN.out⟩, by simp [intOf]; omega⟩
        · obtain rfl : k = es.length := by omega
          rw [List.take_length] at HS1 ⊢
          go_wp2_with fail
          refine (specBit _ _).mono ?_
          rintro e w9 ⟨rfl, rfl⟩
          go_wp2_with fail
          go_ret
          refine ⟨?_, HB.out⟩
          rw [HFIN.out]
          (first | rfl | (simp; done) | (simp; omega))
    · have qb : (kd == 14) = false := by simp [q]
      have HFIN : Hid ((Ex.node kd nm n ty es).high = Ex.highs es + 1) := by show _ = _; simp [Ex.high, q]
      go_enter Tryd.func65, Tryd.ntmps65
      go_wp2_with fail
      go_loopw [3, 4] (fun m i wr => ∃ k : Nat, k ≤ es.length ∧ i = .int .i64 k ∧ m = .int .i64 ((Ex.highs (es.take k) : Int)) ∧ Below (w.heap.size + 1) (w.alloc (.cells #[.int .i64 kd, .string nm, .int .i64 n, .int .i64 tk, .slice ta tn tc, .slice a es.length cap] 38)) wr) (fun _ i _ => es.length - (intOf i).toNat)
      case atStart => exact ⟨0, by omega, rfl, by simp [Ex.highs], Below.refl _ _⟩
      case round =>
        obtain ⟨k, hk, rfl, rfl, hb⟩ := hrel
        have b0 := box_cell hb 0
        have b5 := box_cell hb 5
        have HB := Lib.hid (box_below hb)
        have HBX := Lib.hid hb; clear hb
        have HS1 := Ex.highs_part es k
        have HS2 := HSZ.out
        by_cases hlt : k < es.length
        · obtain ⟨b, off, x0, x1, x2, x3, x4, x5, rfl, hbl, hc0, hc1, hc2, hc3, hc4, hc5, ht⟩ := HAT.out k hlt
          have hg := Ex.bulk_get es k hlt
          have hg2 := Ex.high_le es[k]
          have hg3 := Ex.highs_part es (k + 1)
          have e0 : wr.cell? ⟨b, off + k * 6, none⟩ = some x0 := by rw [HB.out.cell (p := ⟨b, off + k * 6, none⟩) hbl]; exact hc0
          have e1 : wr.cell? ⟨b, off + k * 6 + 1, none⟩ = some x1 := by rw [HB.out.cell (p := ⟨b, off + k * 6 + 1, none⟩) hbl]; exact hc1
          have e2 : wr.cell? ⟨b, off + k * 6 + 2, none⟩ = some x2 := by rw [HB.out.cell (p := ⟨b, off + k * 6 + 2, none⟩) hbl]; exact hc2
          have e3 : wr.cell? ⟨b, off + k * 6 + 3, none⟩ = some x3 := by rw [HB.out.cell (p := ⟨b, off + k * 6 + 3, none⟩) hbl]; exact hc3
          have e4 : wr.cell? ⟨b, off + k * 6 + 4, none⟩ = some x4 := by rw [HB.out.cell (p := ⟨b, off + k * 6 + 4, none⟩) hbl]; exact hc4
          have e5 : wr.cell? ⟨b, off + k * 6 + 5, none⟩ = some x5 := by rw [HB.out.cell (p := ⟨b, off + k * 6 + 5, none⟩) hbl]; exact hc5
          have HT := Lib.hid (ht.below HB.out)
          have HPX := Lib.hid HBX.out
          clear ht hc0 hc1 hc2 hc3 hc4 hc5
          go_wp2_with fail
          refine (IH.out _ _ _ HT.out (by omega)).mono ?_
          rintro e w' ⟨rfl, hb1⟩
          have HN := Lib.hid (box_next HPX.out hb1); clear hb1
          have HT2 := Lib.hid (Ex.highs_take es k hlt)
          have hg4 : es[k].high ≤ 1048577 := by rw [HT2.out] at hg3; omega
          clear hg3
          go_wp2_with fail
          refine (specMax _ _ w').mono ?_
          rintro e w2 ⟨rfl, rfl⟩
          go_wp2_with fail
          exact ⟨⟨k + 1, by omega, by go_num, by rw [HT2.out]; go_num, HN.out⟩, by simp [intOf]; omega⟩
        · obtain rfl : k = es.length := by omega
          rw [List.take_length] at HS1 ⊢
          go_wp2_with fail
          refine (specBit _ _).mono ?_
          rintro e w9 ⟨rfl, rfl⟩
          go_wp2_with fail
          go_ret
          refine ⟨?_, HB.out⟩
          rw [HFIN.out]
          (first | rfl | (simp; done) | (simp; omega))
end Go.Proofs.YtfidcblaabeaaaaDoor
/-
  Proved: spec.IsValidExpr says whether an expression is valid; the memory that was there stays as it was.
-/
namespace Go.Proofs.YtfidcblaabeaaaaDoor
open Go.RowKit

theorem valid_left {t : Ex} {r : Int} (h : LeftsTo t 40 r) : t.valid = (decide (0 ≤ r) && (decide (t.high ≤ 12) && t.form)) := by
  obtain ⟨a0, a1, a2, a3⟩ := h
  by_cases hr : 0 ≤ r
  · have := a2 hr
    have hc : t.count ≤ 40 := by omega
    simp [Ex.valid, hc, hr]
  · cases hf : t.form with
    | false => simp [Ex.valid, hf]
    | true =>
      have hc : ¬ (t.count ≤ 40) := fun hc => hr (a3 hf (by omega))
      simp [Ex.valid, hc, hr]
set_option maxRecDepth 100000 in
set_option maxHeartbeats 2000000 in
theorem specExValid (d : Nat) (v : Value) (t : Ex) (w : World) (h : ExAt w d v t) (hsz : t.bulk ≤ 1048576) :
    Calls Tryd.prog 50 #[v] w fun e w' => e = .returned (.bool t.valid) ∧ Below w.heap.size w w' := by
  have HT := Lib.hid h
  obtain ⟨yk, ynm, yn, ytk, yta, ytn, ytc, ya, ym, yc, rfl⟩ := ex_parts h
  clear h
  have E0 : Below w.heap.size w (w.alloc (.cells #[.int .i64 yk, .string ynm, .int .i64 yn, .int .i64 ytk, .slice yta ytn ytc, .slice ya ym yc] 38)) := below_alloc _ _
  have HT0 := Lib.hid (HT.out.below E0)
  clear E0
  go_enter Tryd.func50, Tryd.ntmps50
  go_wp2_with fail
  refine (specExLeft d _ t 40 _ (by omega) (by omega) HT0.out hsz).mono ?_
  rintro e w1 ⟨r, rfl, hr, hb1⟩
  have B1 := Lib.hid (box_next (Below.refl _ _) hb1); clear hb1
  have hv := valid_left hr
  obtain ⟨hr0, hr1, _, _⟩ := hr
  have HV := Lib.hid hv; clear hv
  have c0 := box_cell B1.out 0
  have c1 := box_cell B1.out 1
  have c2 := box_cell B1.out 2
  have c3 := box_cell B1.out 3
  have c4 := box_cell B1.out 4
  have c5 := box_cell B1.out 5
  by_cases q1 : r < 0
  · go_wp2_with fail
    go_ret
    exact ⟨by rw [HV.out]; simp; omega, box_below B1.out⟩
  · go_wp2_with fail
    refine (specExDepth d _ t _ (HT.out.below (box_below B1.out)) hsz).mono ?_
    rintro e w2 ⟨rfl, hb2⟩
    have B2 := Lib.hid (box_next B1.out hb2); clear hb2 B1 c0 c1 c2 c3 c4 c5
    have c0 := box_cell B2.out 0
    have c1 := box_cell B2.out 1
    have c2 := box_cell B2.out 2
    have c3 := box_cell B2.out 3
    have c4 := box_cell B2.out 4
    have c5 := box_cell B2.out 5
    have hdl : t.high ≤ 1048577 := by have := t.high_le; omega
    by_cases q2 : t.high ≤ 12
    · go_wp2_with fail
      refine (specExForm d _ t _ (HT.out.below (box_below B2.out)) hsz).mono ?_
      rintro e w3 ⟨rfl, hb3⟩
      have B3 := Lib.hid (box_next B2.out hb3); clear hb3 B2 c0 c1 c2 c3 c4 c5
      go_wp2_with fail
      go_ret
      exact ⟨by rw [HV.out]; simp [q2, show 0 ≤ r by omega], box_below B3.out⟩
    · go_wp2_with fail
      go_ret
      exact ⟨by rw [HV.out]; simp [q2], box_below B2.out⟩
end Go.Proofs.YtfidcblaabeaaaaDoor
/-
  Proved: spec.l6Has says whether a kind occurs in an expression; the memory that was there stays as it was.
-/
namespace Go.Proofs.YtfidcblaabeaaaaDoor
open Go.RowKit

set_option maxRecDepth 100000 in
set_option maxHeartbeats 2000000 in
theorem specExHas (x : Int) : ∀ (d : Nat) (v : Value) (t : Ex) (w : World), ExAt w d v t → t.bulk ≤ 1048576 → Calls Tryd.prog 51 #[v, .int .i64 x] w fun e w' => e = .returned (.bool (t.has x)) ∧ Below w.heap.size w w'
  | 0, _, _, _, h, _ => h.elim
  | d + 1, v, .node kd nm n ty es, w, h, hsz => by
    have IH : Hid (∀ (v : Value) (t : Ex) (w : World), ExAt w d v t → t.bulk ≤ 1048576 → Calls Tryd.prog 51 #[v, .int .i64 x] w fun e w' => e = .returned (.bool (t.has x)) ∧ Below w.heap.size w w') := specExHas x d
    have HV := ex_parts h
    obtain ⟨c3, c4, sl, rfl, hk0, hk1, hn0, hn1, hnm, hty, a, cap, rfl, hcap, hcap2, hat⟩ := h
    obtain ⟨k', nm', n', tk, ta, tn, tc, sa, sn, sc, hv⟩ := HV
    injection hv with hv
    injection hv with hv
    simp at hv
    obtain ⟨rfl, rfl, rfl, rfl, rfl, rfl, rfl, rfl⟩ := hv
    have HAT := Lib.hid hat; clear hat
    have hbk : (Ex.node kd nm n ty es).bulk = nm.size + (ty.size - 1) + Ex.bulks es := rfl
    have HSZ : Hid (Ex.bulks es ≤ 1048576) := by show _ ≤ _; omega
    have HNM : Hid (nm.size ≤ 1048576) := by show _ ≤ _; omega
    have HTZ : Hid (ty.size ≤ 1048577) := by show _ ≤ _; omega
    have hlen : es.length ≤ 1048576 := by have := Ex.length_le es; omega
    clear hsz hbk hty
    go_enter Tryd.func51, Tryd.ntmps51
    go_wp2_with fail
    go_loopw [5] (fun i wr => ∃ k : Nat, k ≤ es.length ∧ i = .int .i64 k ∧ Ex.hass x (es.take k) = false ∧ Below (w.heap.size + 1) (w.alloc (.cells #[.int .i64 kd, .string nm, .int .i64 n, .int .i64 tk, .slice ta tn tc, .slice a es.length cap] 38)) wr) (fun i _ => es.length - (intOf i).toNat)
    case atStart => exact ⟨0, by omega, rfl, by simp [Ex.hass], Below.refl _ _⟩
    case round =>
      obtain ⟨k, hk, rfl, hf, hb⟩ := hrel
      have HF := Lib.hid hf; clear hf
      have b0 := box_cell hb 0
      have b1 := box_cell hb 1
      have b2 := box_cell hb 2
      have b3 := box_cell hb 3
      have b4 := box_cell hb 4
      have b5 := box_cell hb 5
      have HB := Lib.hid (box_below hb)
      have HBX := Lib.hid hb; clear hb
      have HS2 := HSZ.out
      by_cases hlt : k < es.length
      · obtain ⟨b, off, x0, x1, x2, x3, x4, x5, rfl, hbl, hc0, hc1, hc2, hc3, hc4, hc5, ht⟩ := HAT.out k hlt
        have hg := Ex.bulk_get es k hlt
        have e0 : wr.cell? ⟨b, off + k * 6, none⟩ = some (x0) := by rw [HB.out.cell (p := ⟨b, off + k * 6, none⟩) hbl]; exact hc0
        have e1 : wr.cell? ⟨b, off + k * 6 + 1, none⟩ = some (x1) := by rw [HB.out.cell (p := ⟨b, off + k * 6 + 1, none⟩) hbl]; exact hc1
        have e2 : wr.cell? ⟨b, off + k * 6 + 2, none⟩ = some (x2) := by rw [HB.out.cell (p := ⟨b, off + k * 6 + 2, none⟩) hbl]; exact hc2
        have e3 : wr.cell? ⟨b, off + k * 6 + 3, none⟩ = some (x3) := by rw [HB.out.cell (p := ⟨b, off + k * 6 + 3, none⟩) hbl]; exact hc3
        have e4 : wr.cell? ⟨b, off + k * 6 + 4, none⟩ = some (x4) := by rw [HB.out.cell (p := ⟨b, off + k * 6 + 4, none⟩) hbl]; exact hc4
        have e5 : wr.cell? ⟨b, off + k * 6 + 5, none⟩ = some (x5) := by rw [HB.out.cell (p := ⟨b, off + k * 6 + 5, none⟩) hbl]; exact hc5
        have HT := Lib.hid (ht.below HB.out)
        have HPX := Lib.hid HBX.out
        clear ht hc0 hc1 hc2 hc3 hc4 hc5
        go_wp2_with fail
        refine (IH.out _ _ _ HT.out (by omega)).mono ?_
        rintro e w' ⟨rfl, hb1⟩
        have HN := Lib.hid (box_next HPX.out hb1); clear hb1
        have HT2 := Lib.hid (Ex.hass_take x es k hlt)
        cases hfk : es[k].has x with
        | false =>
          have HFK := Lib.hid hfk; clear hfk
          go_wp2_with fail
          exact ⟨⟨k + 1, by omega, by go_num, by rw [HT2.out, HF.out, HFK.out]; rfl, HN.out⟩, by simp [intOf]; omega⟩
        | true =>
          have HFK := Lib.hid hfk; clear hfk
          go_wp2_with fail
          go_ret
          have e : Ex.hass x es = true := Ex.hass_true x es (k + 1) (by rw [HT2.out, HF.out, HFK.out]; rfl)
          exact ⟨by simp [Ex.has, e], box_below HN.out⟩
      · obtain rfl : k = es.length := by omega
        have HFT : Hid (Ex.hass x es = false) := by have := HF.out; rw [List.take_length] at this; exact this
        by_cases q : kd = x
        · subst q
          go_wp2_with fail
          go_ret
          exact ⟨by simp [Ex.has, HFT.out], HB.out⟩
        · have qb : (kd == x) = false := by simp [q]
          go_wp2_with fail
          go_ret
          exact ⟨by simp [Ex.has, HFT.out, q], HB.out⟩
end Go.Proofs.YtfidcblaabeaaaaDoor
/-
  Proved: spec.IsRaw says whether an expression is valid and has no marks; the memory that was there stays as it was.
-/
namespace Go.Proofs.YtfidcblaabeaaaaDoor
open Go.RowKit

set_option maxRecDepth 100000 in
set_option maxHeartbeats 2000000 in
theorem specExRaw (d : Nat) (v : Value) (t : Ex) (w : World) (h : ExAt w d v t) (hsz : t.bulk ≤ 1048576) :
    Calls Tryd.prog 26 #[v] w fun e w' => e = .returned (.bool (t.valid && !t.has 14)) ∧ Below w.heap.size w w' := by
  have HT := Lib.hid h
  obtain ⟨yk, ynm, yn, ytk, yta, ytn, ytc, ya, ym, yc, rfl⟩ := ex_parts h
  clear h
  have E0 := below_alloc w (.cells #[.int .i64 yk, .string ynm, .int .i64 yn, .int .i64 ytk, .slice yta ytn ytc, .slice ya ym yc] 38)
  have HT0 := Lib.hid (HT.out.below E0)
  clear E0
  go_enter Tryd.func26, Tryd.ntmps26
  go_wp2_with fail
  refine (specExValid d _ t _ HT0.out hsz).mono ?_
  rintro e w1 ⟨rfl, hb⟩
  have B1 := Lib.hid (box_next (Below.refl _ _) hb)
  clear hb
  have c0 := box_cell B1.out 0
  have c1 := box_cell B1.out 1
  have c2 := box_cell B1.out 2
  have c3 := box_cell B1.out 3
  have c4 := box_cell B1.out 4
  have c5 := box_cell B1.out 5
  cases hv0 : t.valid with
  | false =>
    go_wp2_with fail
    go_ret
    exact ⟨by simp [hv0], box_below B1.out⟩
  | true =>
    go_wp2_with fail
    refine (specExHas 14 d _ t _ (HT.out.below (box_below B1.out)) hsz).mono ?_
    rintro e w2 ⟨rfl, hb⟩
    have B2 := Lib.hid (box_next B1.out hb)
    clear hb B1 c0 c1 c2 c3 c4 c5
    go_wp2_with fail
    go_ret
    exact ⟨by simp [hv0], box_below B2.out⟩
end Go.Proofs.YtfidcblaabeaaaaDoor
/-
  Proved: spec.IsEdit says whether an edit is valid; it leaves the memory that was there as it was.
-/
namespace Go.Proofs.YtfidcblaabeaaaaDoor
open Go.RowKit

set_option maxRecDepth 100000 in
set_option maxHeartbeats 2000000 in
theorem specIsEdit (d : Nat) (v : Value) (t : Edi) (w : World) (h : EditAt w d v t) (hn : t.bulk ≤ 1048576) :
    Calls Tryd.prog 8 #[v] w fun e w' => e = .returned (.bool t.okB) ∧ Below w.heap.size w w' := by
  cases t with
  | mk ex ps =>
    obtain ⟨k, nm, n, tk, ta, tn, tc, sa, sn, sc, pa, pn, pc, rfl, he, hp, hl⟩ := h
    dsimp only at he hp hl ⊢
    have hbk : (Edi.mk ex ps).bulk = ex.bulk + ps.length := rfl
    have hn1 : ex.bulk ≤ 1048576 := by omega
    have hn2 : ps.length ≤ 1048576 := by omega
    have HQ : Hid ((Edi.mk ex ps).okB = ((ex.sub ps).isSome && (ex.valid && !ex.has 14))) := rfl
    clear hn hbk hl
    have B : Hid (Below w.heap.size w (w.alloc (.cells #[.int .i64 k, .string nm, .int .i64 n, .int .i64 tk, .slice ta tn tc, .slice sa sn sc, .slice pa pn pc] 40))) := below_alloc _ _
    have XA : Hid (BoxAt (w.alloc (.cells #[.int .i64 k, .string nm, .int .i64 n, .int .i64 tk, .slice ta tn tc, .slice sa sn sc, .slice pa pn pc] 40)) w.heap.size #[.int .i64 k, .string nm, .int .i64 n, .int .i64 tk, .slice ta tn tc, .slice sa sn sc, .slice pa pn pc]) := BoxAt.new _ _ _
    have HE := Lib.hid (he.below B.out)
    have HP := Lib.hid (hp.below B.out)
    clear he hp
    go_enter Tryd.func8, Tryd.ntmps8
    go_wp2_with fail
    refine (specSub d _ _ ex ps _ HE.out HP.out hn1 hn2).mono ?_
    rintro e w1 ⟨s, rfl, hs, hb⟩
    obtain ⟨yk, ynm, yn, ytk, yta, ytn, ytc, ya, ym, yc, rfl⟩ := ex_parts hs.at_
    clear hs
    replace B := Lib.hid (below_thru B.out (Nat.le_refl _) hb)
    replace XA := Lib.hid (XA.out.below hb)
    replace HE := Lib.hid (HE.out.below hb)
    replace HP := Lib.hid (HP.out.below hb)
    clear hb
    cases hq : (ex.sub ps).isSome with
    | false =>
      rw [hq] at HQ
      go_wp2_with fail
      go_ret
      exact ⟨by rw [HQ.out]; rfl, B.out.alloc B.out.size _⟩
    | true =>
      rw [hq] at HQ
      have hb : Below w1.heap.size w1 (w1.alloc (.cells #[.int .i64 yk, .string ynm, .int .i64 yn, .int .i64 ytk, .slice yta ytn ytc, .slice ya ym yc] 38)) := below_alloc _ _
      replace B := Lib.hid (below_thru B.out (Nat.le_refl _) hb)
      replace XA := Lib.hid (XA.out.below hb)
      replace HE := Lib.hid (HE.out.below hb)
      replace HP := Lib.hid (HP.out.below hb)
      clear hb
      have c0 := XA.out.2 0
      have c1 := XA.out.2 1
      have c2 := XA.out.2 2
      have c3 := XA.out.2 3
      have c4 := XA.out.2 4
      have c5 := XA.out.2 5
      go_wp2_with fail
      clear c0 c1 c2 c3 c4 c5
      refine (specExRaw d _ ex _ HE.out hn1).mono ?_
      rintro e w2 ⟨rfl, hb⟩
      replace B := Lib.hid (below_thru B.out (Nat.le_refl _) hb)
      replace XA := Lib.hid (XA.out.below hb)
      replace HE := Lib.hid (HE.out.below hb)
      replace HP := Lib.hid (HP.out.below hb)
      clear hb
      go_wp2_with fail
      go_ret
      exact ⟨by rw [HQ.out]; rfl, B.out⟩
end Go.Proofs.YtfidcblaabeaaaaDoor
/-
  Proved: what lies under the cursor of an edit, if it is one; no program.
-/
namespace Go.Proofs.YtfidcblaabeaaaaDoor

def Edi.under (t : Edi) : Option Ex := if t.okB then t.ex.sub t.path else none
end Go.Proofs.YtfidcblaabeaaaaDoor
/-
  Proved: spec.UnderCursor gives a copy of the node under the cursor, in memory of its own; the memory that was there stays as it was.
-/
namespace Go.Proofs.YtfidcblaabeaaaaDoor
open Go.RowKit

set_option maxRecDepth 100000 in
set_option maxHeartbeats 4000000 in
theorem specUnder (d : Nat) (v : Value) (t : Edi) (w : World) (h : EditAt w d v t) (hn : t.bulk ≤ 1048576) :
    Calls Tryd.prog 12 #[v] w (SubEnd d t.under w) := by
  cases t with
  | mk ex ps =>
    have hEA := h
    obtain ⟨xk, xnm, xn, xtk, xta, xtn, xtc, xa, xm, xc, pa, pn, pc, rfl, he, hp, hl⟩ := h
    dsimp only at he hp hl ⊢
    obtain ⟨c, rfl⟩ := ex_deep he
    obtain ⟨d, hd⟩ : ∃ d, d = c + 2 := ⟨_, rfl⟩
    rw [← hd] at he hEA ⊢
    have hbk : (Edi.mk ex ps).bulk = ex.bulk + ps.length := rfl
    have hn1 : ex.bulk ≤ 1048576 := by omega
    have hn2 : ps.length ≤ 1048576 := by omega
    have B : Hid (Below w.heap.size w ((w.alloc (.cells #[.int .i64 xk, .string xnm, .int .i64 xn, .int .i64 xtk, .slice xta xtn xtc, .slice xa xm xc, .slice pa pn pc] 40)).alloc (.cells #[.int .i64 0, .string ⟨#[]⟩, .int .i64 0, .int .i64 0, .slice none 0 0, .slice none 0 0] 38))) := ((Below.refl _ _).alloc (Nat.le_refl _) _).alloc (by simp) _
    have XA : Hid (BoxAt ((w.alloc (.cells #[.int .i64 xk, .string xnm, .int .i64 xn, .int .i64 xtk, .slice xta xtn xtc, .slice xa xm xc, .slice pa pn pc] 40)).alloc (.cells #[.int .i64 0, .string ⟨#[]⟩, .int .i64 0, .int .i64 0, .slice none 0 0, .slice none 0 0] 38)) w.heap.size #[.int .i64 xk, .string xnm, .int .i64 xn, .int .i64 xtk, .slice xta xtn xtc, .slice xa xm xc, .slice pa pn pc]) := (BoxAt.new _ _ _).below (below_alloc _ _)
    have XR : Hid (BoxAt ((w.alloc (.cells #[.int .i64 xk, .string xnm, .int .i64 xn, .int .i64 xtk, .slice xta xtn xtc, .slice xa xm xc, .slice pa pn pc] 40)).alloc (.cells #[.int .i64 0, .string ⟨#[]⟩, .int .i64 0, .int .i64 0, .slice none 0 0, .slice none 0 0] 38)) (w.heap.size + 1) #[.int .i64 0, .string ⟨#[]⟩, .int .i64 0, .int .i64 0, .slice none 0 0, .slice none 0 0]) := box_at (BoxAt.new _ _ _) (by simp)
    have FR : Hid (FreeAt ((w.alloc (.cells #[.int .i64 xk, .string xnm, .int .i64 xn, .int .i64 xtk, .slice xta xtn xtc, .slice xa xm xc, .slice pa pn pc] 40)).alloc (.cells #[.int .i64 0, .string ⟨#[]⟩, .int .i64 0, .int .i64 0, .slice none 0 0, .slice none 0 0] 38)) (w.heap.size + 1)) := free_at (FreeAt.new _ _ _) (by simp)
    have hz0 : ((w.alloc (.cells #[.int .i64 xk, .string xnm, .int .i64 xn, .int .i64 xtk, .slice xta xtn xtc, .slice xa xm xc, .slice pa pn pc] 40)).alloc (.cells #[.int .i64 0, .string ⟨#[]⟩, .int .i64 0, .int .i64 0, .slice none 0 0, .slice none 0 0] 38)).heap.size = w.heap.size + 2 := by simp
    have HE := Lib.hid (he.below B.out)
    have HP := Lib.hid (hp.below B.out)
    have HA := Lib.hid (hEA.below B.out)
    clear he hp hEA hbk
    have x0 := XA.out.2 0
    have x1 := XA.out.2 1
    have x2 := XA.out.2 2
    have x3 := XA.out.2 3
    have x4 := XA.out.2 4
    have x5 := XA.out.2 5
    have x6 := XA.out.2 6
    go_enter Tryd.func12, Tryd.ntmps12
    go_wp2_with fail
    clear x0 x1 x2 x3 x4 x5 x6
    refine (specIsEdit d _ ⟨ex, ps⟩ _ HA.out hn).mono ?_
    rintro e w1 ⟨he1, hb⟩
    have hz1 := hb.size
    rw [hz0] at hz1
    replace B := Lib.hid (below_thru B.out (Nat.le_refl _) hb)
    replace XA := Lib.hid (XA.out.below hb)
    replace XR := Lib.hid (XR.out.below hb)
    replace FR := Lib.hid (FR.out.below hb)
    replace HE := Lib.hid (HE.out.below hb)
    replace HP := Lib.hid (HP.out.below hb)
    clear hb HA hz0
    cases hq : (Edi.mk ex ps).okB with
    | false =>
      rw [hq] at he1
      subst he1
      have HU : Hid ((Edi.mk ex ps).under = none) := by show _ = _; unfold Edi.under; rw [hq]; rfl
      clear hq
      subst hd
      have r0 := XR.out.2 0
      have s0 := FR.out.2 0
      have r1 := XR.out.2 1
      have s1 := FR.out.2 1
      have r2 := XR.out.2 2
      have s2 := FR.out.2 2
      have r3 := XR.out.2 3
      have s3 := FR.out.2 3
      have r4 := XR.out.2 4
      have s4 := FR.out.2 4
      have r5 := XR.out.2 5
      have s5 := FR.out.2 5
      go_wp2_with fail
      have XRF : BoxAt ((((((w1.setCell ⟨w.heap.size + 1, 0, none⟩ (.int .i64 0)).setCell ⟨w.heap.size + 1, 1, none⟩ (.string ⟨#[]⟩)).setCell ⟨w.heap.size + 1, 2, none⟩ (.int .i64 0)).setCell ⟨w.heap.size + 1, 3, none⟩ (.int .i64 0)).setCell ⟨w.heap.size + 1, 4, none⟩ (.slice none 0 0)).setCell ⟨w.heap.size + 1, 5, none⟩ (.slice none 0 0)) (w.heap.size + 1) #[.int .i64 0, .string ⟨#[]⟩, .int .i64 0, .int .i64 0, .slice none 0 0, .slice none 0 0] := by
        have := ((((((XR.out.put (j := 0) (u := .int .i64 0) (by simp)).put (j := 1) (u := .string ⟨#[]⟩) (by simp)).put (j := 2) (u := .int .i64 0) (by simp)).put (j := 3) (u := .int .i64 0) (by simp)).put (j := 4) (u := .slice none 0 0) (by simp)).put (j := 5) (u := .slice none 0 0) (by simp))
        exact this
      have hBF : Below w.heap.size w ((((((w1.setCell ⟨w.heap.size + 1, 0, none⟩ (.int .i64 0)).setCell ⟨w.heap.size + 1, 1, none⟩ (.string ⟨#[]⟩)).setCell ⟨w.heap.size + 1, 2, none⟩ (.int .i64 0)).setCell ⟨w.heap.size + 1, 3, none⟩ (.int .i64 0)).setCell ⟨w.heap.size + 1, 4, none⟩ (.slice none 0 0)).setCell ⟨w.heap.size + 1, 5, none⟩ (.slice none 0 0)) := ((((((B.out.setCell (by simp) _).setCell (by simp) _).setCell (by simp) _).setCell (by simp) _).setCell (by simp) _).setCell (by simp) _)
      have h0 := XRF.2 0
      have h1 := XRF.2 1
      have h2 := XRF.2 2
      have h3 := XRF.2 3
      have h4 := XRF.2 4
      have h5 := XRF.2 5
      clear XRF
      generalize ((((((w1.setCell ⟨w.heap.size + 1, 0, none⟩ (.int .i64 0)).setCell ⟨w.heap.size + 1, 1, none⟩ (.string ⟨#[]⟩)).setCell ⟨w.heap.size + 1, 2, none⟩ (.int .i64 0)).setCell ⟨w.heap.size + 1, 3, none⟩ (.int .i64 0)).setCell ⟨w.heap.size + 1, 4, none⟩ (.slice none 0 0)).setCell ⟨w.heap.size + 1, 5, none⟩ (.slice none 0 0)) = WX at h0 h1 h2 h3 h4 h5 hBF ⊢
      refine bodyPost_ret (v := .tuple #[.agg #[.int .i64 0, .string ⟨#[]⟩, .int .i64 0, .int .i64 0, .slice none 0 0, .slice none 0 0], .bool false]) (by simp [results, Tryd.results12, go_sem, h0, h1, h2, h3, h4, h5]) rfl ?_
      rw [HU.out]
      exact ⟨_, rfl, ⟨[], nil_own _ c, Fp.nil _ _, Nat.le_refl _⟩, hBF⟩
    | true =>
      rw [hq] at he1
      subst he1
      have HU : Hid ((Edi.mk ex ps).under = ex.sub ps) := by show _ = _; unfold Edi.under; rw [hq]; rfl
      clear hq
      have x0 := XA.out.2 0
      have x1 := XA.out.2 1
      have x2 := XA.out.2 2
      have x3 := XA.out.2 3
      have x4 := XA.out.2 4
      have x5 := XA.out.2 5
      have x6 := XA.out.2 6
      go_wp2_with fail
      clear x0 x1 x2 x3 x4 x5 x6
      refine (specSub d _ _ ex ps _ HE.out HP.out hn1 hn2).mono ?_
      rintro e2 w2 ⟨s, rfl, hi, hb⟩
      have hz2 := hb.size
      obtain ⟨R0, hR0⟩ : ∃ R0, R0 = (ex.sub ps).getD exNil := ⟨_, rfl⟩
      rw [← hR0] at hi
      have HR0 := Lib.hid hR0
      obtain ⟨bz, hbz⟩ : ∃ b : Bool, b = (ex.sub ps).isSome := ⟨_, rfl⟩
      rw [← hbz]
      have HZ := Lib.hid hbz
      obtain ⟨zk, znm, zn, ztk, zta, ztn, ztc, za, zm, zc, rfl⟩ := ex_parts hi.at_
      have HO : Hid (ExIn w2 d (.agg #[.int .i64 zk, .string znm, .int .i64 zn, .int .i64 ztk, .slice zta ztn ztc, .slice za zm zc]) R0 (w.heap.size + 2) w2.heap.size) := hi.wide (by omega) (Nat.le_refl _) (Nat.le_refl _)
      replace B := Lib.hid (below_thru B.out (Nat.le_refl _) hb)
      replace XR := Lib.hid (XR.out.below hb)
      replace FR := Lib.hid (FR.out.below hb)
      clear hi hb HE HP XA hR0 hbz
      have hba := below_alloc w2 (.cells #[.int .i64 zk, .string znm, .int .i64 zn, .int .i64 ztk, .slice zta ztn ztc, .slice za zm zc] 38)
      replace HO := Lib.hid (HO.out.below hba)
      replace B := Lib.hid (below_thru B.out (Nat.le_refl _) hba)
      replace XR := Lib.hid (XR.out.below hba)
      replace FR := Lib.hid (FR.out.below hba)
      have hz3 : (w2.alloc (.cells #[.int .i64 zk, .string znm, .int .i64 zn, .int .i64 ztk, .slice zta ztn ztc, .slice za zm zc] 38)).heap.size = w2.heap.size + 1 := by simp
      clear hba
      have r0 := XR.out.2 0
      have s0 := FR.out.2 0
      have r1 := XR.out.2 1
      have s1 := FR.out.2 1
      have r2 := XR.out.2 2
      have s2 := FR.out.2 2
      have r3 := XR.out.2 3
      have s3 := FR.out.2 3
      have r4 := XR.out.2 4
      have s4 := FR.out.2 4
      have r5 := XR.out.2 5
      have s5 := FR.out.2 5
      go_wp2_with fail
      have XRF : BoxAt (((((((w2.alloc (.cells #[.int .i64 zk, .string znm, .int .i64 zn, .int .i64 ztk, .slice zta ztn ztc, .slice za zm zc] 38)).setCell ⟨w.heap.size + 1, 0, none⟩ (.int .i64 zk)).setCell ⟨w.heap.size + 1, 1, none⟩ (.string znm)).setCell ⟨w.heap.size + 1, 2, none⟩ (.int .i64 zn)).setCell ⟨w.heap.size + 1, 3, none⟩ (.int .i64 ztk)).setCell ⟨w.heap.size + 1, 4, none⟩ (.slice zta ztn ztc)).setCell ⟨w.heap.size + 1, 5, none⟩ (.slice za zm zc)) (w.heap.size + 1) #[.int .i64 zk, .string znm, .int .i64 zn, .int .i64 ztk, .slice zta ztn ztc, .slice za zm zc] := by
        have := ((((((XR.out.put (j := 0) (u := .int .i64 zk) (by simp)).put (j := 1) (u := .string znm) (by simp)).put (j := 2) (u := .int .i64 zn) (by simp)).put (j := 3) (u := .int .i64 ztk) (by simp)).put (j := 4) (u := .slice zta ztn ztc) (by simp)).put (j := 5) (u := .slice za zm zc) (by simp))
        exact this
      have hBF : Below w.heap.size w (((((((w2.alloc (.cells #[.int .i64 zk, .string znm, .int .i64 zn, .int .i64 ztk, .slice zta ztn ztc, .slice za zm zc] 38)).setCell ⟨w.heap.size + 1, 0, none⟩ (.int .i64 zk)).setCell ⟨w.heap.size + 1, 1, none⟩ (.string znm)).setCell ⟨w.heap.size + 1, 2, none⟩ (.int .i64 zn)).setCell ⟨w.heap.size + 1, 3, none⟩ (.int .i64 ztk)).setCell ⟨w.heap.size + 1, 4, none⟩ (.slice zta ztn ztc)).setCell ⟨w.heap.size + 1, 5, none⟩ (.slice za zm zc)) := ((((((B.out.setCell (by simp) _).setCell (by simp) _).setCell (by simp) _).setCell (by simp) _).setCell (by simp) _).setCell (by simp) _)
      have HOF : ExIn (((((((w2.alloc (.cells #[.int .i64 zk, .string znm, .int .i64 zn, .int .i64 ztk, .slice zta ztn ztc, .slice za zm zc] 38)).setCell ⟨w.heap.size + 1, 0, none⟩ (.int .i64 zk)).setCell ⟨w.heap.size + 1, 1, none⟩ (.string znm)).setCell ⟨w.heap.size + 1, 2, none⟩ (.int .i64 zn)).setCell ⟨w.heap.size + 1, 3, none⟩ (.int .i64 ztk)).setCell ⟨w.heap.size + 1, 4, none⟩ (.slice zta ztn ztc)).setCell ⟨w.heap.size + 1, 5, none⟩ (.slice za zm zc)) d (.agg #[.int .i64 zk, .string znm, .int .i64 zn, .int .i64 ztk, .slice zta ztn ztc, .slice za zm zc]) R0 (w.heap.size + 2) w2.heap.size := ((((((HO.out.stored (by omega)).stored (by omega)).stored (by omega)).stored (by omega)).stored (by omega)).stored (by omega))
      have hzF : w2.heap.size ≤ (((((((w2.alloc (.cells #[.int .i64 zk, .string znm, .int .i64 zn, .int .i64 ztk, .slice zta ztn ztc, .slice za zm zc] 38)).setCell ⟨w.heap.size + 1, 0, none⟩ (.int .i64 zk)).setCell ⟨w.heap.size + 1, 1, none⟩ (.string znm)).setCell ⟨w.heap.size + 1, 2, none⟩ (.int .i64 zn)).setCell ⟨w.heap.size + 1, 3, none⟩ (.int .i64 ztk)).setCell ⟨w.heap.size + 1, 4, none⟩ (.slice zta ztn ztc)).setCell ⟨w.heap.size + 1, 5, none⟩ (.slice za zm zc)).heap.size := by simp
      have h0 := XRF.2 0
      have h1 := XRF.2 1
      have h2 := XRF.2 2
      have h3 := XRF.2 3
      have h4 := XRF.2 4
      have h5 := XRF.2 5
      clear XRF
      generalize (((((((w2.alloc (.cells #[.int .i64 zk, .string znm, .int .i64 zn, .int .i64 ztk, .slice zta ztn ztc, .slice za zm zc] 38)).setCell ⟨w.heap.size + 1, 0, none⟩ (.int .i64 zk)).setCell ⟨w.heap.size + 1, 1, none⟩ (.string znm)).setCell ⟨w.heap.size + 1, 2, none⟩ (.int .i64 zn)).setCell ⟨w.heap.size + 1, 3, none⟩ (.int .i64 ztk)).setCell ⟨w.heap.size + 1, 4, none⟩ (.slice zta ztn ztc)).setCell ⟨w.heap.size + 1, 5, none⟩ (.slice za zm zc)) = WX at h0 h1 h2 h3 h4 h5 hBF HOF hzF ⊢
      refine bodyPost_ret (v := .tuple #[.agg #[.int .i64 zk, .string znm, .int .i64 zn, .int .i64 ztk, .slice zta ztn ztc, .slice za zm zc], .bool bz]) (by simp [results, Tryd.results12, go_sem, h0, h1, h2, h3, h4, h5]) rfl ?_
      exact ⟨_, by rw [HU.out]; exact congrArg (fun b => Ending.returned (.tuple #[_, .bool b])) HZ.out, by rw [HU.out, ← HR0.out]; exact HOF.wide (by omega) hzF (Nat.le_refl _), hBF⟩
end Go.Proofs.YtfidcblaabeaaaaDoor
/-
  Proved: impl.nodeAt finds the node at a path, or gives nil; the memory that was there stays as it was.
-/
namespace Go.Proofs.YtfidcblaabeaaaaDoor
open Go.RowKit

/-- In the world w the pointer s points at a node that reads as e. -/
def PtrAt (w : World) (d : Nat) (s : Value) (e : Ex) : Prop :=
  ∃ b off xk xnm xn xtk xta xtn xtc xa xm xc, s = .pointer (some ⟨b, off, none⟩) ∧ b < w.heap.size ∧ w.cell? ⟨b, off, none⟩ = some (.int .i64 xk) ∧ w.cell? ⟨b, off + 1, none⟩ = some (.string xnm) ∧ w.cell? ⟨b, off + 2, none⟩ = some (.int .i64 xn) ∧ w.cell? ⟨b, off + 3, none⟩ = some (.int .i64 xtk) ∧ w.cell? ⟨b, off + 4, none⟩ = some (.slice xta xtn xtc) ∧ w.cell? ⟨b, off + 5, none⟩ = some (.slice xa xm xc) ∧ ExAt w d (.agg #[.int .i64 xk, .string xnm, .int .i64 xn, .int .i64 xtk, .slice xta xtn xtc, .slice xa xm xc]) e
theorem PtrAt.below {w w' : World} {d : Nat} {s : Value} {e : Ex} (h : PtrAt w d s e) (hb : Below w.heap.size w w') : PtrAt w' d s e := by
  obtain ⟨b, off, xk, xnm, xn, xtk, xta, xtn, xtc, xa, xm, xc, hs, hl, h0, h1, h2, h3, h4, h5, he⟩ := h
  have hk : ∀ o, w'.cell? ⟨b, o, none⟩ = w.cell? ⟨b, o, none⟩ := fun o => hb.cell (p := ⟨b, o, none⟩) hl
  exact ⟨b, off, xk, xnm, xn, xtk, xta, xtn, xtc, xa, xm, xc, hs, Nat.lt_of_lt_of_le hl hb.size, (hk _).trans h0, (hk _).trans h1, (hk _).trans h2, (hk _).trans h3, (hk _).trans h4, (hk _).trans h5, he.below hb⟩
theorem ex_show {w : World} {d : Nat} {c0 c1 c2 c3 c4 c5 : Value} {e : Ex} (h : ExAt w d (.agg #[c0, c1, c2, c3, c4, c5]) e) : ∃ xk xnm xn xtk xta xtn xtc xa xm xc, c0 = .int .i64 xk ∧ c1 = .string xnm ∧ c2 = .int .i64 xn ∧ c3 = .int .i64 xtk ∧ c4 = .slice xta xtn xtc ∧ c5 = .slice xa xm xc := ex_cells h
def NodeAtEnd (d : Nat) (r : Option Ex) (w : World) (e : Ending) (w' : World) : Prop :=
  w' = w ∧ match r with | some x => ∃ s, e = .returned s ∧ PtrAt w d s x | none => e = .returned (.pointer none)
set_option maxRecDepth 100000 in
set_option maxHeartbeats 4000000 in
theorem implNodeAt (d : Nat) (s v : Value) (e : Ex) (ps : List Int) (w : World) (hs : PtrAt w d s e) (hp : Ints w v ps) (hn : ps.length ≤ 1048576) :
    Calls Tryd.prog 30 #[s, v] w (NodeAtEnd d (e.sub ps) w) := by
  obtain ⟨pa, pc, rfl, hpc, hpat⟩ := hp
  have HP := Lib.hid hpat; clear hpat
  obtain ⟨b0, off0, y0, y1, y2, y3, y4, y5, y6, y7, y8, y9, rfl, hbl0, h00⟩ := id hs
  clear h00 hbl0
  go_enter Tryd.func30, Tryd.ntmps30
  go_wp2_with fail
  go_loopw [0, 9] (fun q i wr => ∃ (k : Nat) (x : Ex) (b off : Nat), k ≤ ps.length ∧ i = .int .i64 k ∧ q = .pointer (some ⟨b, off, none⟩) ∧ PtrAt w d q x ∧ e.sub ps = x.sub (ps.drop k) ∧ wr = w) (fun _ i _ => ps.length - (intOf i).toNat)
  case atStart => exact ⟨0, e, b0, off0, by omega, rfl, rfl, hs, by simp, rfl⟩
  case round =>
    obtain ⟨k, x, b, off, hk, rfl, rfl, hx, hsub, hw⟩ := hrel
    subst hw
    have HSUB := Lib.hid hsub; clear hsub
    obtain ⟨b', off', xk, xnm, xn, xtk, xta, xtn, xtc, xa, xm, xc, hptr, hbl, e0, e1, e2, e3, e4, e5, hex⟩ := hx
    injection hptr with hptr
    injection hptr with hptr
    injection hptr with hb1 hb2
    subst hb1 hb2
    by_cases hlt : k < ps.length
    · obtain ⟨bp, offp, rfl, hblp, hcp⟩ := HP.out k hlt
      obtain ⟨rfl, hmc, hc2, hrow⟩ := ex_row hex
      have HROW := Lib.hid hrow; clear hrow
      have HDR := Lib.hid (drop_at ps k hlt)
      obtain ⟨p, hp⟩ : ∃ p, p = ps[k] := ⟨_, rfl⟩
      rw [← hp] at hcp HDR
      clear hp
      by_cases q1 : p < 0
      · have HN : Hid (e.sub ps = none) := by show _ = _; rw [HSUB.out, HDR.out]; exact sub_low q1
        go_wp2_with fail
        go_ret
        exact ⟨rfl, by rw [HN.out]; rfl⟩
      · by_cases q2 : (x.parts.length : Int) ≤ p
        · have HN : Hid (e.sub ps = none) := by show _ = _; rw [HSUB.out, HDR.out]; exact sub_high q2
          go_wp2_with fail
          go_ret
          exact ⟨rfl, by rw [HN.out]; rfl⟩
        · obtain ⟨m, rfl⟩ : ∃ m : Nat, p = m := ⟨p.toNat, by omega⟩
          have hm : m < x.parts.length := by omega
          have HN : Hid (e.sub ps = (x.parts[m]).sub (ps.drop (k + 1))) := by
            show _ = _
            rw [HSUB.out, HDR.out]
            exact sub_step (by omega) (by simpa using hm)
          obtain ⟨bn, offn, z0, z1, z2, z3, z4, z5, rfl, hbn, f0, f1, f2, f3, f4, f5, hz⟩ := HROW.out m hm
          obtain ⟨zk, znm, zn, ztk, zta, ztn, ztc, za, zm, zc, rfl, rfl, rfl, rfl, rfl, rfl⟩ := ex_show hz
          have HX2 : Hid (PtrAt wr d (.pointer (some ⟨bn, offn + m * 6, none⟩)) x.parts[m]) := ⟨bn, offn + m * 6, _, _, _, _, _, _, _, _, _, _, rfl, hbn, f0, f1, f2, f3, f4, f5, hz⟩
          clear f0 f1 f2 f3 f4 f5 hz
          go_wp2_with fail
          exact ⟨⟨k + 1, x.parts[m], bn, offn + m * 6, by omega, by go_num, rfl, HX2.out, HN.out, (by first | trivial | rfl)⟩, by simp [intOf]; omega⟩
    · obtain rfl : k = ps.length := by omega
      have HN : Hid (e.sub ps = some x) := by show _ = _; rw [HSUB.out, List.drop_length]; exact sub_nil x
      have HX2 : Hid (PtrAt wr d (.pointer (some ⟨b, off, none⟩)) x) := ⟨b, off, _, _, _, _, _, _, _, _, _, _, rfl, hbl, e0, e1, e2, e3, e4, e5, hex⟩
      go_wp2_with fail
      go_ret
      refine ⟨rfl, ?_⟩
      rw [HN.out]
      exact ⟨_, rfl, HX2.out⟩
end Go.Proofs.YtfidcblaabeaaaaDoor
/-
  Proved: impl.isWord says whether a text is one of the three words; the memory that was there stays as it was.
-/
namespace Go.Proofs.YtfidcblaabeaaaaDoor
open Go.RowKit

set_option maxRecDepth 100000 in
theorem implWord (s : ByteArray) (w : World) : Calls Tryd.prog 91 #[.string s] w fun e w' => e = .returned (.bool (wordB s)) ∧ w = w' := by
  cases h1 : (s.toList == [105, 102]) with
  | true =>
    go_enter Tryd.func91, Tryd.ntmps91
    go_wp2_with fail
    go_ret
    exact ⟨by simp [wordB, h1], rfl⟩
  | false =>
    cases h2 : (s.toList == [102, 115, 116]) with
    | true =>
      go_enter Tryd.func91, Tryd.ntmps91
      go_wp2_with fail
      go_ret
      exact ⟨by simp [wordB, h1, h2], rfl⟩
    | false =>
      cases h3 : (s.toList == [115, 110, 100]) with
      | true =>
        go_enter Tryd.func91, Tryd.ntmps91
        go_wp2_with fail
        go_ret
        exact ⟨by simp [wordB, h1, h2, h3], rfl⟩
      | false =>
        go_enter Tryd.func91, Tryd.ntmps91
        go_wp2_with fail
        go_ret
        exact ⟨by simp [wordB, h1, h2, h3], rfl⟩
end Go.Proofs.YtfidcblaabeaaaaDoor
/-
  Proved: impl.IsName says whether a text is a name; the memory that was there stays as it was.
-/
namespace Go.Proofs.YtfidcblaabeaaaaDoor
open Go.RowKit

theorem below_iter (w : World) (s : ByteArray) (k : Nat) : Below w.heap.size w (w.iter s k) := (Below.refl _ _).alloc (Nat.le_refl _) _
set_option maxRecDepth 100000 in
set_option maxHeartbeats 4000000 in
theorem implName (s : ByteArray) (w : World) (hs : s.size ≤ 9223372036854775807) : Calls Tryd.prog 86 #[.string s] w fun e w' => e = .returned (.bool (nameB s)) ∧ Below w.heap.size w w' := by
  by_cases r1 : 1 ≤ s.size
  case neg =>
    have hz : s.size = 0 := by omega
    have hl : s.toList = [] := List.eq_nil_of_length_eq_zero (by rw [size_of_toList]; exact hz)
    have h1 : (s.toList == []) = true := by rw [hl]; rfl
    have h2 : s.toList.isEmpty = true := by rw [hl]; rfl
    have HR := Lib.hid r1
    clear hz hl r1
    go_enter Tryd.func86, Tryd.ntmps86
    go_wp2_with fail
    go_ret
    exact ⟨by simp [nameB, HR.out], Below.refl _ _⟩
  have h1 : (s.toList == []) = false := toList_some r1
  have h2 : s.toList.isEmpty = false := by cases hh : s.toList with | nil => rw [hh] at h1; cases h1 | cons a r => rfl
  by_cases r2 : s.size ≤ 5
  case neg =>
    have i2 : (5 : Int) < (s.size : Int) := by omega
    go_enter Tryd.func86, Tryd.ntmps86
    go_wp2_with fail
    go_ret
    exact ⟨by simp [nameB, r2], Below.refl _ _⟩
  have i2 : ¬ ((5 : Int) < (s.size : Int)) := by omega
  cases hw : wordB s with
  | true =>
    go_enter Tryd.func86, Tryd.ntmps86
    go_wp2_with fail
    refine (implWord s w).mono ?_
    rintro e w1 ⟨rfl, rfl⟩
    go_wp2_with fail
    go_ret
    exact ⟨by simp [nameB, hw], Below.refl _ _⟩
  | false =>
    have HNB : Hid (nameB s = okB s s.size) := by show _ = _; simp [nameB, hw, r1, r2]
    go_enter Tryd.func86, Tryd.ntmps86
    go_wp2_with fail
    refine (implWord s w).mono ?_
    rintro e w1 ⟨rfl, rfl⟩
    go_wp2_with fail
    go_loopw [3] (fun _ wr => ∃ k : Nat, wr = w.iter s k ∧ k ≤ s.size ∧ okB s k = true) (fun _ wr => s.size - wr.iterPos w.heap.size)
    case atStart => exact ⟨0, rfl, by omega, rfl⟩
    case round =>
      obtain ⟨k, rfl, hk, hf⟩ := hrel
      have HF := Lib.hid hf; clear hf
      by_cases hlt : k < s.size
      · have HSUC := Lib.hid (okB_succ s k hlt)
        by_cases hasc : (s[k]'hlt).toNat < 128
        · have hnx : ∀ ty, (Instr.next (.pointer (some ⟨w.heap.size, 0, none⟩)) true ty).run Tryd.prog (w.iter s k) = _ := fun ty => run_next_ascii w s k ty hlt hasc
          by_cases l1 : 97 ≤ (s[k]'hlt).toNat ∧ (s[k]'hlt).toNat ≤ 122
          · have OK := Lib.hid (okAt_letter (k := k) l1.1 l1.2)
            obtain ⟨l1a, l1b⟩ := l1
            have l1d : decide ((97 : Int) ≤ ((s[k]'hlt).toNat : Int)) = true := by simpa using (by omega : (97 : Int) ≤ ((s[k]'hlt).toNat : Int))
            have l2d : decide (((s[k]'hlt).toNat : Int) ≤ 122) = true := by simpa using (by omega : ((s[k]'hlt).toNat : Int) ≤ 122)
            clear l1a l1b
            go_wp2_with fail
            all_goals exact ⟨⟨k + 1, rfl, hlt, by rw [HSUC.out, HF.out, OK.out]; rfl⟩, by simp; omega⟩
          · by_cases l3 : 97 ≤ (s[k]'hlt).toNat
            · skip
              by_cases z : k = 0
              · have OK := Lib.hid (okAt_bad (c := (s[k]'hlt).toNat) (k := k) (by omega) (Or.inl z))
                have l1d : decide ((97 : Int) ≤ ((s[k]'hlt).toNat : Int)) = true := by simpa using (by omega : (97 : Int) ≤ ((s[k]'hlt).toNat : Int))
                have l2d : decide (((s[k]'hlt).toNat : Int) ≤ 122) = false := by simpa using (by omega : (122 : Int) < ((s[k]'hlt).toNat : Int))
                have zb : ((k : Int) == 0) = true := by simp [z]
                clear l1 l3 z
                go_wp2_with fail
                all_goals go_ret
                all_goals exact ⟨by rw [HNB.out, okB_false s (k + 1) s.size (by rw [HSUC.out, HF.out, OK.out]; rfl) hlt]; rfl, below_iter _ _ _⟩
              · have zb : ((k : Int) == 0) = false := by simpa using z
                have z1 : 1 ≤ k := by omega
                by_cases g1 : 48 ≤ (s[k]'hlt).toNat ∧ (s[k]'hlt).toNat ≤ 57
                · have OK := Lib.hid (okAt_digit (k := k) z1 g1.1 g1.2)
                  obtain ⟨g1a, g1b⟩ := g1
                  have l1d : decide ((97 : Int) ≤ ((s[k]'hlt).toNat : Int)) = true := by simpa using (by omega : (97 : Int) ≤ ((s[k]'hlt).toNat : Int))
                  have l2d : decide (((s[k]'hlt).toNat : Int) ≤ 122) = false := by simpa using (by omega : (122 : Int) < ((s[k]'hlt).toNat : Int))
                  have g1d : decide ((48 : Int) ≤ ((s[k]'hlt).toNat : Int)) = true := by simpa using (by omega : (48 : Int) ≤ ((s[k]'hlt).toNat : Int))
                  have g2d : decide (((s[k]'hlt).toNat : Int) ≤ 57) = true := by simpa using (by omega : ((s[k]'hlt).toNat : Int) ≤ 57)
                  clear z l1 l3 g1a g1b
                  go_wp2_with fail
                  all_goals exact ⟨⟨k + 1, rfl, hlt, by rw [HSUC.out, HF.out, OK.out]; rfl⟩, by simp; omega⟩
                · have OK := Lib.hid (okAt_bad (c := (s[k]'hlt).toNat) (k := k) (by omega) (Or.inr (by omega)))
                  by_cases g2 : 48 ≤ (s[k]'hlt).toNat
                  · skip
                    have l1d : decide ((97 : Int) ≤ ((s[k]'hlt).toNat : Int)) = true := by simpa using (by omega : (97 : Int) ≤ ((s[k]'hlt).toNat : Int))
                    have l2d : decide (((s[k]'hlt).toNat : Int) ≤ 122) = false := by simpa using (by omega : (122 : Int) < ((s[k]'hlt).toNat : Int))
                    have g1d : decide ((48 : Int) ≤ ((s[k]'hlt).toNat : Int)) = true := by simpa using (by omega : (48 : Int) ≤ ((s[k]'hlt).toNat : Int))
                    have g2d : decide (((s[k]'hlt).toNat : Int) ≤ 57) = false := by simpa using (by omega : (57 : Int) < ((s[k]'hlt).toNat : Int))
                    clear z l1 l3 g1 g2
                    go_wp2_with fail
                    all_goals go_ret
                    all_goals exact ⟨by rw [HNB.out, okB_false s (k + 1) s.size (by rw [HSUC.out, HF.out, OK.out]; rfl) hlt]; rfl, below_iter _ _ _⟩
                  · skip
                    have l1d : decide ((97 : Int) ≤ ((s[k]'hlt).toNat : Int)) = true := by simpa using (by omega : (97 : Int) ≤ ((s[k]'hlt).toNat : Int))
                    have l2d : decide (((s[k]'hlt).toNat : Int) ≤ 122) = false := by simpa using (by omega : (122 : Int) < ((s[k]'hlt).toNat : Int))
                    have g1d : decide ((48 : Int) ≤ ((s[k]'hlt).toNat : Int)) = false := by simpa using (by omega : ((s[k]'hlt).toNat : Int) < 48)
                    clear z l1 l3 g1 g2
                    go_wp2_with fail
                    all_goals go_ret
                    all_goals exact ⟨by rw [HNB.out, okB_false s (k + 1) s.size (by rw [HSUC.out, HF.out, OK.out]; rfl) hlt]; rfl, below_iter _ _ _⟩
            · skip
              by_cases z : k = 0
              · have OK := Lib.hid (okAt_bad (c := (s[k]'hlt).toNat) (k := k) (by omega) (Or.inl z))
                have l1d : decide ((97 : Int) ≤ ((s[k]'hlt).toNat : Int)) = false := by simpa using (by omega : ((s[k]'hlt).toNat : Int) < 97)
                have zb : ((k : Int) == 0) = true := by simp [z]
                clear l1 l3 z
                go_wp2_with fail
                all_goals go_ret
                all_goals exact ⟨by rw [HNB.out, okB_false s (k + 1) s.size (by rw [HSUC.out, HF.out, OK.out]; rfl) hlt]; rfl, below_iter _ _ _⟩
              · have zb : ((k : Int) == 0) = false := by simpa using z
                have z1 : 1 ≤ k := by omega
                by_cases g1 : 48 ≤ (s[k]'hlt).toNat ∧ (s[k]'hlt).toNat ≤ 57
                · have OK := Lib.hid (okAt_digit (k := k) z1 g1.1 g1.2)
                  obtain ⟨g1a, g1b⟩ := g1
                  have l1d : decide ((97 : Int) ≤ ((s[k]'hlt).toNat : Int)) = false := by simpa using (by omega : ((s[k]'hlt).toNat : Int) < 97)
                  have g1d : decide ((48 : Int) ≤ ((s[k]'hlt).toNat : Int)) = true := by simpa using (by omega : (48 : Int) ≤ ((s[k]'hlt).toNat : Int))
                  have g2d : decide (((s[k]'hlt).toNat : Int) ≤ 57) = true := by simpa using (by omega : ((s[k]'hlt).toNat : Int) ≤ 57)
                  clear z l1 l3 g1a g1b
                  go_wp2_with fail
                  all_goals exact ⟨⟨k + 1, rfl, hlt, by rw [HSUC.out, HF.out, OK.out]; rfl⟩, by simp; omega⟩
                · have OK := Lib.hid (okAt_bad (c := (s[k]'hlt).toNat) (k := k) (by omega) (Or.inr (by omega)))
                  by_cases g2 : 48 ≤ (s[k]'hlt).toNat
                  · skip
                    have l1d : decide ((97 : Int) ≤ ((s[k]'hlt).toNat : Int)) = false := by simpa using (by omega : ((s[k]'hlt).toNat : Int) < 97)
                    have g1d : decide ((48 : Int) ≤ ((s[k]'hlt).toNat : Int)) = true := by simpa using (by omega : (48 : Int) ≤ ((s[k]'hlt).toNat : Int))
                    have g2d : decide (((s[k]'hlt).toNat : Int) ≤ 57) = false := by simpa using (by omega : (57 : Int) < ((s[k]'hlt).toNat : Int))
                    clear z l1 l3 g1 g2
                    go_wp2_with fail
                    all_goals go_ret
                    all_goals exact ⟨by rw [HNB.out, okB_false s (k + 1) s.size (by rw [HSUC.out, HF.out, OK.out]; rfl) hlt]; rfl, below_iter _ _ _⟩
                  · skip
                    have l1d : decide ((97 : Int) ≤ ((s[k]'hlt).toNat : Int)) = false := by simpa using (by omega : ((s[k]'hlt).toNat : Int) < 97)
                    have g1d : decide ((48 : Int) ≤ ((s[k]'hlt).toNat : Int)) = false := by simpa using (by omega : ((s[k]'hlt).toNat : Int) < 48)
                    clear z l1 l3 g1 g2
                    go_wp2_with fail
                    all_goals go_ret
                    all_goals exact ⟨by rw [HNB.out, okB_false s (k + 1) s.size (by rw [HSUC.out, HF.out, OK.out]; rfl) hlt]; rfl, below_iter _ _ _⟩
        · have hnx : ∀ ty, (Instr.next (.pointer (some ⟨w.heap.size, 0, none⟩)) true ty).run Tryd.prog (w.iter s k) = _ := fun ty => run_next_any w s k ty hlt
          have hd := (decode_high s k hlt (by omega)).1
          have OK : Hid (okAt (s[k]'hlt).toNat k = false) := okAt_bad (by omega) (Or.inr (by omega))
          have m1 : decide ((97 : Int) ≤ ((Utf8.decode s k).1 : Int)) = true := by simpa using (by omega : (97 : Int) ≤ ((Utf8.decode s k).1 : Int))
          have m2 : decide (((Utf8.decode s k).1 : Int) ≤ 122) = false := by simpa using (by omega : (122 : Int) < ((Utf8.decode s k).1 : Int))
          have m3 : decide ((48 : Int) ≤ ((Utf8.decode s k).1 : Int)) = true := by simpa using (by omega : (48 : Int) ≤ ((Utf8.decode s k).1 : Int))
          have m4 : decide (((Utf8.decode s k).1 : Int) ≤ 57) = false := by simpa using (by omega : (57 : Int) < ((Utf8.decode s k).1 : Int))
          by_cases z : k = 0
          · have zb : ((k : Int) == 0) = true := by simp [z]
            clear z
            go_wp2_with fail
            go_ret
            exact ⟨by rw [HNB.out, okB_false s (k + 1) s.size (by rw [HSUC.out, HF.out, OK.out]; rfl) hlt]; rfl, below_iter _ _ _⟩
          · have zb : ((k : Int) == 0) = false := by simpa using z
            clear z
            go_wp2_with fail
            go_ret
            exact ⟨by rw [HNB.out, okB_false s (k + 1) s.size (by rw [HSUC.out, HF.out, OK.out]; rfl) hlt]; rfl, below_iter _ _ _⟩
      · have hnx : ∀ ty, (Instr.next (.pointer (some ⟨w.heap.size, 0, none⟩)) true ty).run Tryd.prog (w.iter s k) = _ := fun ty => run_next_end w s k ty hlt
        have hks : k = s.size := by omega
        have HK := Lib.hid hks
        clear hks
        go_wp2_with fail
        go_ret
        exact ⟨by rw [HNB.out, ← HK.out, HF.out]; rfl, below_iter _ _ _⟩
end Go.Proofs.YtfidcblaabeaaaaDoor
/-
  Proved: impl.nodeOf says which of the five kinds a type's root has (nil if it has none of their forms), and leaves the memory that was there as it was.
-/
namespace Go.Proofs.YtfidcblaabeaaaaDoor
open Go.RowKit

theorem below_drewN {B : Nat} {a w : World} (h : Below B a w) (n : Nat) : Below B a (w.drewN n) := ⟨h.os, h.tape, h.output, h.size, h.block⟩
/-- What nodeOf gives for a root of kind k with the parts ts. -/
def NodeAt (w : World) (d : Nat) (n : Value) (k : Int) (ts : List Ty) : Prop :=
  (kindOk k ts.length = false ∧ n = .nilIface) ∨
  (kindOk k ts.length = true ∧ ts = [] ∧ ((k = 1 ∧ n = .iface 105 (.agg #[])) ∨ (k = 2 ∧ n = .iface 106 (.agg #[])) ∨ (k = 3 ∧ n = .iface 107 (.agg #[])))) ∨
  (kindOk k ts.length = true ∧ ∃ t1 t2 k1 s1 k2 s2, ts = [t1, t2] ∧ TyAt w d (.agg #[.int .i64 k1, s1]) t1 ∧ TyAt w d (.agg #[.int .i64 k2, s2]) t2 ∧
    ((k = 4 ∧ n = .iface 109 (.agg #[.int .i64 k1, s1, .int .i64 k2, s2])) ∨ (k = 5 ∧ n = .iface 111 (.agg #[.int .i64 k1, s1, .int .i64 k2, s2]))))
def NodeEnd (w0 w : World) (d : Nat) (k : Int) (ts : List Ty) (e : Ending) (w' : World) : Prop :=
  ∃ n, e = .returned n ∧ NodeAt w0 d n k ts ∧ Below w.heap.size w w'
theorem node_bad {w0 w w' : World} {d : Nat} {k : Int} {ts : List Ty} (h : kindOk k ts.length = false) (hb : Below w.heap.size w w') : NodeEnd w0 w d k ts (.returned .nilIface) w' :=
  ⟨_, rfl, Or.inl ⟨h, rfl⟩, hb⟩
theorem two_of {d : Nat} {w : World} {ts : List Ty} {a : Option Addr} (hl : ts.length = 2)
    (hat : ∀ j (h : j < ts.length), ∃ b off c0 c1, a = some ⟨b, off, none⟩ ∧ b < w.heap.size ∧ w.cell? ⟨b, off + j * 2, none⟩ = some c0 ∧ w.cell? ⟨b, off + j * 2 + 1, none⟩ = some c1 ∧ TyAt w d (.agg #[c0, c1]) ts[j]) :
    ∃ t1 t2 k1 s1 n1 c1 k2 s2 n2 c2 b off, ts = [t1, t2] ∧ a = some ⟨b, off, none⟩ ∧ b < w.heap.size ∧ w.cell? ⟨b, off, none⟩ = some (.int .i64 k1) ∧ w.cell? ⟨b, off + 1, none⟩ = some (.slice s1 n1 c1) ∧ w.cell? ⟨b, off + 2, none⟩ = some (.int .i64 k2) ∧ w.cell? ⟨b, off + 3, none⟩ = some (.slice s2 n2 c2) ∧
      TyAt w d (.agg #[.int .i64 k1, .slice s1 n1 c1]) t1 ∧ TyAt w d (.agg #[.int .i64 k2, .slice s2 n2 c2]) t2 := by
  match ts, hl, hat with
  | [t1, t2], _, hat =>
    obtain ⟨b, off, x0, x1, rfl, hbl, h0, h1, ht1⟩ := hat 0 (by simp)
    obtain ⟨b', off', y0, y1, he, _, h2, h3, ht2⟩ := hat 1 (by simp)
    cases he
    obtain ⟨k1, s1, n1, c1, rfl, rfl⟩ := at_parts ht1
    obtain ⟨k2, s2, n2, c2, rfl, rfl⟩ := at_parts ht2
    exact ⟨t1, t2, k1, s1, n1, c1, k2, s2, n2, c2, b, off, rfl, rfl, hbl, by simpa using h0, by simpa using h1, by simpa using h2, by simpa [Nat.add_assoc] using h3, ht1, ht2⟩

set_option maxRecDepth 100000 in
set_option maxHeartbeats 2000000 in
theorem implNode (w0 : World) (d : Nat) (v : Value) (kd : Int) (ts : List Ty) (w : World) (h : TyAt w0 (d + 1) v (.node kd ts)) (hw : Below w0.heap.size w0 w) (hsz : ts.length ≤ 1152921504606846976) :
    Calls Tryd.prog 93 #[v] w (NodeEnd w0 w d kd ts) := by
  have HW := Lib.hid hw; clear hw
  obtain ⟨sl, rfl, hk0, hk1, a, cap, rfl, hcap, hcap2, hat⟩ := h
  have HAT := Lib.hid hat; clear hat
  obtain ⟨n, hn⟩ : ∃ n, n = ts.length := ⟨_, rfl⟩
  have HN := Lib.hid hn
  rw [← hn] at hcap hsz ⊢
  clear hn
  by_cases q1 : kd = 1
  · subst q1
    by_cases z : n = 0
    · subst z
      go_enter Tryd.func93, Tryd.ntmps93
      go_wp2_with fail
      go_ret
      have hts : ts = [] := List.eq_nil_of_length_eq_zero HN.out.symm
      exact ⟨_, rfl, Or.inr (Or.inl ⟨by rw [hts]; rfl, hts, Or.inl ⟨rfl, rfl⟩⟩), below_alloc _ _⟩
    · have z2 : ¬ ((n : Int) = 0) := by omega
      go_enter Tryd.func93, Tryd.ntmps93
      go_wp2_with fail
      go_ret
      exact node_bad (by rw [← HN.out]; simp [kindOk, z]) (below_alloc _ _)
  by_cases q2 : kd = 2
  · subst q2
    by_cases z : n = 0
    · subst z
      go_enter Tryd.func93, Tryd.ntmps93
      go_wp2_with fail
      go_ret
      have hts : ts = [] := List.eq_nil_of_length_eq_zero HN.out.symm
      exact ⟨_, rfl, Or.inr (Or.inl ⟨by rw [hts]; rfl, hts, Or.inr (Or.inl ⟨rfl, rfl⟩)⟩), below_alloc _ _⟩
    · have z2 : ¬ ((n : Int) = 0) := by omega
      go_enter Tryd.func93, Tryd.ntmps93
      go_wp2_with fail
      go_ret
      exact node_bad (by rw [← HN.out]; simp [kindOk, z]) (below_alloc _ _)
  by_cases q3 : kd = 3
  · subst q3
    by_cases z : n = 0
    · subst z
      go_enter Tryd.func93, Tryd.ntmps93
      go_wp2_with fail
      go_ret
      have hts : ts = [] := List.eq_nil_of_length_eq_zero HN.out.symm
      exact ⟨_, rfl, Or.inr (Or.inl ⟨by rw [hts]; rfl, hts, Or.inr (Or.inr ⟨rfl, rfl⟩)⟩), below_alloc _ _⟩
    · have z2 : ¬ ((n : Int) = 0) := by omega
      go_enter Tryd.func93, Tryd.ntmps93
      go_wp2_with fail
      go_ret
      exact node_bad (by rw [← HN.out]; simp [kindOk, z]) (below_alloc _ _)
  by_cases q4 : kd = 4
  · subst q4
    by_cases z : n = 2
    · subst z
      obtain ⟨t1, t2, k1, s1, n1, c1, k2, s2, n2, c2, b, off, hts, rfl, hbl0, g0, g1, g2, g3, ht1, ht2⟩ := two_of HN.out.symm HAT.out
      have HTS := Lib.hid hts
      have H1 := Lib.hid ht1
      have H2 := Lib.hid ht2
      clear hts ht1 ht2 HAT
      have hbl := Nat.lt_of_lt_of_le hbl0 HW.out.size
      have h0 := (HW.out.cell (p := ⟨b, off, none⟩) hbl0).trans g0
      have h1 := (HW.out.cell (p := ⟨b, off + 1, none⟩) hbl0).trans g1
      have h2 := (HW.out.cell (p := ⟨b, off + 2, none⟩) hbl0).trans g2
      have h3 := (HW.out.cell (p := ⟨b, off + 3, none⟩) hbl0).trans g3
      clear g0 g1 g2 g3
      have hb2 : ¬ (b = w.heap.size) := by omega
      go_enter Tryd.func93, Tryd.ntmps93
      go_wp2_with fail
      go_quiet (fail)
      go_wp2_with fail
      go_ret
      have X : ∀ nq, Below w.heap.size w ((w.alloc (.cells #[.int .i64 4, .slice (some ⟨b, off, none⟩) 2 cap] 35)).drewN nq) := fun nq => below_drewN (below_alloc _ _) nq
      exact ⟨_, rfl, Or.inr (Or.inr ⟨by rw [HTS.out]; rfl, t1, t2, k1, _, k2, _, HTS.out, H1.out, H2.out, Or.inl ⟨rfl, rfl⟩⟩), X _⟩
    · have z2 : ¬ ((n : Int) = 2) := by omega
      go_enter Tryd.func93, Tryd.ntmps93
      go_wp2_with fail
      go_ret
      exact node_bad (by rw [← HN.out]; simp [kindOk, z]) (below_alloc _ _)
  by_cases q5 : kd = 5
  · subst q5
    by_cases z : n = 2
    · subst z
      obtain ⟨t1, t2, k1, s1, n1, c1, k2, s2, n2, c2, b, off, hts, rfl, hbl0, g0, g1, g2, g3, ht1, ht2⟩ := two_of HN.out.symm HAT.out
      have HTS := Lib.hid hts
      have H1 := Lib.hid ht1
      have H2 := Lib.hid ht2
      clear hts ht1 ht2 HAT
      have hbl := Nat.lt_of_lt_of_le hbl0 HW.out.size
      have h0 := (HW.out.cell (p := ⟨b, off, none⟩) hbl0).trans g0
      have h1 := (HW.out.cell (p := ⟨b, off + 1, none⟩) hbl0).trans g1
      have h2 := (HW.out.cell (p := ⟨b, off + 2, none⟩) hbl0).trans g2
      have h3 := (HW.out.cell (p := ⟨b, off + 3, none⟩) hbl0).trans g3
      clear g0 g1 g2 g3
      have hb2 : ¬ (b = w.heap.size) := by omega
      go_enter Tryd.func93, Tryd.ntmps93
      go_wp2_with fail
      go_quiet (fail)
      go_wp2_with fail
      go_ret
      have X : ∀ nq, Below w.heap.size w ((w.alloc (.cells #[.int .i64 5, .slice (some ⟨b, off, none⟩) 2 cap] 35)).drewN nq) := fun nq => below_drewN (below_alloc _ _) nq
      exact ⟨_, rfl, Or.inr (Or.inr ⟨by rw [HTS.out]; rfl, t1, t2, k1, _, k2, _, HTS.out, H1.out, H2.out, Or.inr ⟨rfl, rfl⟩⟩), X _⟩
    · have z2 : ¬ ((n : Int) = 2) := by omega
      go_enter Tryd.func93, Tryd.ntmps93
      go_wp2_with fail
      go_ret
      exact node_bad (by rw [← HN.out]; simp [kindOk, z]) (below_alloc _ _)
  go_enter Tryd.func93, Tryd.ntmps93
  go_wp2_with fail
  go_ret
  exact node_bad (by rw [← HN.out]; simp [kindOk, q1, q2, q3, q4, q5]) (below_alloc _ _)
end Go.Proofs.YtfidcblaabeaaaaDoor
/-
  Proved: the method parts of each of the five nodes gives the parts of a type (none for the first three), and leaves the memory that was there as it was; which function a call of parts through the interface runs.
-/
namespace Go.Proofs.YtfidcblaabeaaaaDoor
open Go.RowKit

theorem meth_unknown (n : Nat) (w : World) : (method (n + 1) 105 (.agg #[]) "loop.example/g00585/impl.parts").run Tryd.prog w = .ok (109, .agg #[]) w := by kernel_rfl
theorem meth_num (n : Nat) (w : World) : (method (n + 1) 106 (.agg #[]) "loop.example/g00585/impl.parts").run Tryd.prog w = .ok (110, .agg #[]) w := by kernel_rfl
theorem meth_bool (n : Nat) (w : World) : (method (n + 1) 107 (.agg #[]) "loop.example/g00585/impl.parts").run Tryd.prog w = .ok (111, .agg #[]) w := by kernel_rfl
theorem meth_arrow (n : Nat) (w : World) (a b c d : Value) : (method (n + 1) 109 (.agg #[a, b, c, d]) "loop.example/g00585/impl.parts").run Tryd.prog w = .ok (112, .agg #[a, b, c, d]) w := by kernel_rfl
theorem meth_pair (n : Nat) (w : World) (a b c d : Value) : (method (n + 1) 111 (.agg #[a, b, c, d]) "loop.example/g00585/impl.parts").run Tryd.prog w = .ok (113, .agg #[a, b, c, d]) w := by kernel_rfl

set_option maxRecDepth 100000 in
theorem parts_unknown (w : World) : Calls Tryd.prog 109 #[.agg #[]] w fun e w' => e = .returned (.slice none 0 0) ∧ Below w.heap.size w w' := by
  go_enter Tryd.func109, Tryd.ntmps109
  go_wp2_with fail
  go_ret
  exact ⟨rfl, below_alloc _ _⟩
set_option maxRecDepth 100000 in
theorem parts_num (w : World) : Calls Tryd.prog 110 #[.agg #[]] w fun e w' => e = .returned (.slice none 0 0) ∧ Below w.heap.size w w' := by
  go_enter Tryd.func110, Tryd.ntmps110
  go_wp2_with fail
  go_ret
  exact ⟨rfl, below_alloc _ _⟩
set_option maxRecDepth 100000 in
theorem parts_bool (w : World) : Calls Tryd.prog 111 #[.agg #[]] w fun e w' => e = .returned (.slice none 0 0) ∧ Below w.heap.size w w' := by
  go_enter Tryd.func111, Tryd.ntmps111
  go_wp2_with fail
  go_ret
  exact ⟨rfl, below_alloc _ _⟩
def PartsEnd (w0 : World) (d : Nat) (t1 t2 : Ty) (w : World) (e : Ending) (w' : World) : Prop :=
  ∃ b, e = .returned (.slice (some ⟨b, 0, none⟩) 2 2) ∧ RowIn (TyAt w0 d) w' w.heap.size (.slice (some ⟨b, 0, none⟩) 2 2) [t1, t2] ∧ Below w.heap.size w w'
theorem tys_two {w0 w : World} {d b lo : Nat} {t1 t2 : Ty} {k1 k2 : Int} {s1 s2 : Value} (hlo : lo ≤ b) (hb : b < w.heap.size) (h0 : w.cell? ⟨b, 0, none⟩ = some (.int .i64 k1)) (h1 : w.cell? ⟨b, 1, none⟩ = some s1) (h2 : w.cell? ⟨b, 2, none⟩ = some (.int .i64 k2)) (h3 : w.cell? ⟨b, 3, none⟩ = some s2)
    (ht1 : TyAt w0 d (.agg #[.int .i64 k1, s1]) t1) (ht2 : TyAt w0 d (.agg #[.int .i64 k2, s2]) t2) : RowIn (TyAt w0 d) w lo (.slice (some ⟨b, 0, none⟩) 2 2) [t1, t2] := by
  refine ⟨_, _, rfl, Nat.le_refl _, by simp, fun j hj => ?_⟩
  match j, hj with
  | 0, _ => exact ⟨b, 0, _, _, rfl, hlo, hb, by simpa using h0, by simpa using h1, ht1⟩
  | 1, _ => exact ⟨b, 0, _, _, rfl, hlo, hb, by simpa using h2, by simpa using h3, ht2⟩
theorem box_four {w : World} {a b c d : Value} {T : TypeId} : BoxAt ((w.alloc (.cells #[a, b, c, d] T)).alloc (.cells #[a, b, c, d] 35)) (w.heap.size + 1) #[a, b, c, d] := by
  have h := BoxAt.new (w.alloc (.cells #[a, b, c, d] T)) #[a, b, c, d] 35
  rw [show (w.alloc (.cells #[a, b, c, d] T)).heap.size = w.heap.size + 1 from by simp] at h
  exact h
set_option maxRecDepth 100000 in
set_option maxHeartbeats 1000000 in
theorem parts_arrow (w0 : World) (d : Nat) (t1 t2 : Ty) (k1 k2 : Int) (v1 v2 : Value) (w : World) (h1 : TyAt w0 d (.agg #[.int .i64 k1, v1]) t1) (h2 : TyAt w0 d (.agg #[.int .i64 k2, v2]) t2) :
    Calls Tryd.prog 112 #[.agg #[.int .i64 k1, v1, .int .i64 k2, v2]] w (PartsEnd w0 d t1 t2 w) := by
  obtain ⟨_, s1, n1, c1, _, rfl⟩ := at_parts h1
  obtain ⟨_, s2, n2, c2, _, rfl⟩ := at_parts h2
  have H1 := Lib.hid h1
  have H2 := Lib.hid h2
  clear h1 h2
  go_enter Tryd.func112, Tryd.ntmps112
  go_wp2_with fail
  go_ret
  have X := ((Below.refl w.heap.size w).alloc (Nat.le_refl _) (.cells #[.int .i64 k1, .slice s1 n1 c1, .int .i64 k2, .slice s2 n2 c2] 109)).alloc (by simp) (.cells #[.int .i64 k1, .slice s1 n1 c1, .int .i64 k2, .slice s2 n2 c2] 35)
  have Y := box_four (w := w) (a := .int .i64 k1) (b := .slice s1 n1 c1) (c := .int .i64 k2) (d := .slice s2 n2 c2) (T := 109)
  exact ⟨_, rfl, tys_two (by omega) Y.1 (Y.2 0) (Y.2 1) (Y.2 2) (Y.2 3) H1.out H2.out, X⟩
set_option maxRecDepth 100000 in
set_option maxHeartbeats 1000000 in
theorem parts_pair (w0 : World) (d : Nat) (t1 t2 : Ty) (k1 k2 : Int) (v1 v2 : Value) (w : World) (h1 : TyAt w0 d (.agg #[.int .i64 k1, v1]) t1) (h2 : TyAt w0 d (.agg #[.int .i64 k2, v2]) t2) :
    Calls Tryd.prog 113 #[.agg #[.int .i64 k1, v1, .int .i64 k2, v2]] w (PartsEnd w0 d t1 t2 w) := by
  obtain ⟨_, s1, n1, c1, _, rfl⟩ := at_parts h1
  obtain ⟨_, s2, n2, c2, _, rfl⟩ := at_parts h2
  have H1 := Lib.hid h1
  have H2 := Lib.hid h2
  clear h1 h2
  go_enter Tryd.func113, Tryd.ntmps113
  go_wp2_with fail
  go_ret
  have X := ((Below.refl w.heap.size w).alloc (Nat.le_refl _) (.cells #[.int .i64 k1, .slice s1 n1 c1, .int .i64 k2, .slice s2 n2 c2] 111)).alloc (by simp) (.cells #[.int .i64 k1, .slice s1 n1 c1, .int .i64 k2, .slice s2 n2 c2] 35)
  have Y := box_four (w := w) (a := .int .i64 k1) (b := .slice s1 n1 c1) (c := .int .i64 k2) (d := .slice s2 n2 c2) (T := 111)
  exact ⟨_, rfl, tys_two (by omega) Y.1 (Y.2 0) (Y.2 1) (Y.2 2) (Y.2 3) H1.out H2.out, X⟩
end Go.Proofs.YtfidcblaabeaaaaDoor
/-
  Proved: impl.typeWithin says whether a type's tree has the form of a type and fits into the room and the depth that are left; it counts the room down, and touches nothing else.
-/
namespace Go.Proofs.YtfidcblaabeaaaaDoor
open Go.RowKit

def within (t : Ty) (r dp : Int) : Bool := decide ((t.size : Int) ≤ r) && decide ((t.depth : Int) ≤ dp) && t.form
def WithinEnd (p : Nat) (r dp : Int) (t : Ty) (w : World) (e : Ending) (w' : World) : Prop :=
  ∃ r' : Int, e = .returned (.bool (within t r dp)) ∧ w'.cell? ⟨p, 0, none⟩ = some (.int .i64 r') ∧ w'.frozen? ⟨p, 0, none⟩ = false ∧ r - t.size ≤ r' ∧ r' ≤ r ∧ (within t r dp = true → r' = r - t.size) ∧
    Below p w w' ∧ (∀ b, b < w.heap.size → b ≠ p → w'.heap[b]? = w.heap[b]?)
/-- What the count leaves of memory: below p nothing has changed, nor any old block but p; the room holds r. -/
def Room (p : Nat) (r : Int) (w w' : World) : Prop :=
  w'.cell? ⟨p, 0, none⟩ = some (.int .i64 r) ∧ w'.frozen? ⟨p, 0, none⟩ = false ∧ Below p w w' ∧ (∀ b, b < w.heap.size → b ≠ p → w'.heap[b]? = w.heap[b]?)
theorem Room.stored {p : Nat} {r : Int} {x : Value} {w w2 : World} (hp : p < w.heap.size) (hb : Below w.heap.size w w2) (e0 : w2.cell? ⟨p, 0, none⟩ = some x) (e1 : w2.frozen? ⟨p, 0, none⟩ = false) : Room p r w (w2.setCell ⟨p, 0, none⟩ (.int .i64 r)) := by
  refine ⟨by simp [go_sem, e0], by simp [go_sem, e1], (hb.mono (Nat.le_of_lt hp)).setCell (Nat.le_refl _) _, fun b h1 h2 => ?_⟩
  rw [heap_setCell_other _ _ _ _ h2]
  exact hb.block b h1
theorem Room.below {p : Nat} {r : Int} {w w1 w2 : World} (hp : p < w.heap.size) (h : Room p r w w1) (hb : Below w1.heap.size w1 w2) : Room p r w w2 := by
  obtain ⟨h0, h1, h2, h3⟩ := h
  have hz := h2.size
  refine ⟨(hb.cell (p := ⟨p, 0, none⟩) (Nat.lt_of_lt_of_le hp hz)).trans h0, (hb.frozen (p := ⟨p, 0, none⟩) (Nat.lt_of_lt_of_le hp hz)).trans h1, h2.trans (hb.mono (by omega)), fun b hb1 hb2 => ?_⟩
  rw [hb.block b (by omega)]
  exact h3 b hb1 hb2
theorem Room.on {p : Nat} {r r2 : Int} {w w1 w2 : World} (h : Room p r w w1) (h2 : Room p r2 w1 w2) : Room p r2 w w2 := by
  obtain ⟨_, _, g2, g3⟩ := h
  obtain ⟨k0, k1, k2, k3⟩ := h2
  refine ⟨k0, k1, g2.trans k2, fun b hb1 hb2 => ?_⟩
  rw [k3 b (by have := g2.size; omega) hb2]
  exact g3 b hb1 hb2
theorem WithinEnd.of {p : Nat} {r dp r' : Int} {t : Ty} {w w' : World} {b : Bool} (hb : within t r dp = b) (hr : Room p r' w w') (h1 : r - t.size ≤ r') (h2 : r' ≤ r) (h3 : b = true → r' = r - t.size) : WithinEnd p r dp t w (.returned (.bool b)) w' := by
  subst hb
  exact ⟨r', rfl, hr.1, hr.2.1, h1, h2, h3, hr.2.2.1, hr.2.2.2⟩
theorem WithinEnd.room {p : Nat} {r dp : Int} {t : Ty} {w w' : World} {e : Ending} (h : WithinEnd p r dp t w e w') : ∃ r', e = .returned (.bool (within t r dp)) ∧ Room p r' w w' ∧ r - t.size ≤ r' ∧ r' ≤ r ∧ (within t r dp = true → r' = r - t.size) := by
  obtain ⟨r', h0, h1, h2, h3, h4, h5, h6, h7⟩ := h
  exact ⟨r', h0, ⟨h1, h2, h6, h7⟩, h3, h4, h5⟩
theorem Ty.depths_get (ts : List Ty) (k : Nat) (h : k < ts.length) : ts[k].depth ≤ Ty.depths ts := by
  induction ts generalizing k with
  | nil => simp at h
  | cons s r ih =>
    cases k with
    | zero => simp only [List.getElem_cons_zero, Ty.depths]; omega
    | succ k => simp only [List.getElem_cons_succ, Ty.depths]; have := ih k (by simpa using h); omega
theorem within_true {t : Ty} {r dp : Int} (h : within t r dp = true) : (t.size : Int) ≤ r ∧ (t.depth : Int) ≤ dp ∧ t.form = true := by
  simp only [within, Bool.and_eq_true, decide_eq_true_eq] at h
  exact ⟨h.1.1, h.1.2, h.2⟩
theorem within_sub {kd r dp r2 : Int} {ts : List Ty} {k : Nat} (h : k < ts.length) (hr : r2 = r - 1 - Ty.sizes (ts.take k)) (hf : within ts[k] r2 (dp - 1) = false) : within (.node kd ts) r dp = false := by
  cases hw : within (.node kd ts) r dp with
  | false => rfl
  | true =>
    obtain ⟨w1, w2, w3⟩ := within_true hw
    simp only [Ty.size, Ty.depth, Ty.form, Bool.and_eq_true] at w1 w2 w3
    have h1 := Ty.sizes_take ts k h
    have h2 := Ty.sizes_le ts (k + 1)
    have h3 := Ty.depths_get ts k h
    have h4 : ts[k].form = true := by
      have e := Ty.forms_take ts k h
      cases hfk : ts[k].form with
      | true => rfl
      | false =>
        rw [hfk, Bool.and_false] at e
        have := Ty.forms_false ts (k + 1) e
        rw [this] at w3; exact absurd w3.1 (by simp)
    have : within ts[k] r2 (dp - 1) = true := by
      simp only [within, Bool.and_eq_true, decide_eq_true_eq]
      exact ⟨⟨by omega, by omega⟩, h4⟩
    rw [this] at hf; cases hf
theorem within_mk {t : Ty} {r dp : Int} (h1 : (t.size : Int) ≤ r) (h2 : (t.depth : Int) ≤ dp) (h3 : t.form = true) : within t r dp = true := by
  simp only [within, Bool.and_eq_true, decide_eq_true_eq]
  exact ⟨⟨h1, h2⟩, h3⟩
set_option maxRecDepth 100000 in
set_option maxHeartbeats 4000000 in
theorem implWithin (w0 : World) : ∀ (d : Nat) (v : Value) (t : Ty) (p : Nat) (r dp : Int) (w : World), TyAt w0 d v t → Below w0.heap.size w0 w → w0.heap.size ≤ p → t.size ≤ 1048577 → p < w.heap.size → 0 ≤ r → r ≤ 1048576 → 0 ≤ dp → dp ≤ 100 →
    w.cell? ⟨p, 0, none⟩ = some (.int .i64 r) → w.frozen? ⟨p, 0, none⟩ = false →
    Calls Tryd.prog 92 #[v, .pointer (some ⟨p, 0, none⟩), .int .i64 dp] w (WithinEnd p r dp t w)
  | 0, _, _, _, _, _, _, h, _, _, _, _, _, _, _, _, _, _ => h.elim
  | d + 1, v, .node kd ts, p, r, dp, w, h, hw0, hp0, hsz, hp, hr0, hr1, hd0, hd1, hcell, hfroz => by
    have IH : Hid (∀ (v : Value) (t : Ty) (p : Nat) (r dp : Int) (w : World), TyAt w0 d v t → Below w0.heap.size w0 w → w0.heap.size ≤ p → t.size ≤ 1048577 → p < w.heap.size → 0 ≤ r → r ≤ 1048576 → 0 ≤ dp → dp ≤ 100 →
      w.cell? ⟨p, 0, none⟩ = some (.int .i64 r) → w.frozen? ⟨p, 0, none⟩ = false →
      Calls Tryd.prog 92 #[v, .pointer (some ⟨p, 0, none⟩), .int .i64 dp] w (WithinEnd p r dp t w)) := implWithin w0 d
    have hlen : ts.length ≤ 1152921504606846976 := by have := Ty.length_le ts; simp [Ty.size] at hsz; omega
    have HSZ : Hid (1 + Ty.sizes ts ≤ 1048577) := by simp [Ty.size] at hsz; show _ ≤ _; omega
    have hszi : (Ty.node kd ts).size = 1 + Ty.sizes ts := rfl
    have HSI := Lib.hid hszi
    clear hsz hszi
    have HT := Lib.hid h
    obtain ⟨sk, sa, sn, sc, rfl⟩ := agg_parts h
    clear h
    have HW0 := Lib.hid hw0; clear hw0
    have hb := HW0.out.alloc HW0.out.size (.cells #[.int .i64 sk, .slice sa sn sc] 35)
    have HW1 := Lib.hid hb; clear hb
    have hpw : ¬ (p = w.heap.size) := by omega
    go_enter Tryd.func92, Tryd.ntmps92
    go_wp2_with fail
    refine (implNode w0 d _ kd ts _ HT.out HW1.out hlen).mono ?_
    rintro e w2 ⟨n, rfl, hnode, hb⟩
    have B2 := Lib.hid (below_on (below_alloc w _) hb (by simp)); clear hb HW1
    have e0 := (B2.out.cell (p := ⟨p, 0, none⟩) hp).trans hcell
    have e1 := (B2.out.frozen (p := ⟨p, 0, none⟩) hp).trans hfroz
    have R2 := Lib.hid (Room.stored (r := r - 1) hp B2.out e0 e1)
    clear hcell hfroz
    have fin : ∀ b, within (.node kd ts) r dp = b → b = false → WithinEnd p r dp (.node kd ts) w (.returned (.bool b)) (w2.setCell ⟨p, 0, none⟩ (.int .i64 (r - 1))) := fun b h1 h2 =>
      WithinEnd.of h1 R2.out (by rw [HSI.out]; omega) (by omega) (fun h => by rw [h2] at h; cases h)
    have FIN := Lib.hid fin; clear fin
    have HSG : Hid (Ty.size (.node kd ts) = 1 + Ty.sizes ts) := HSI.out
    by_cases hkb : kindOk kd ts.length = false
    · have hn : n = .nilIface := by
        rcases hnode with ⟨_, h⟩ | ⟨h, _⟩ | ⟨h, _⟩
        · exact h
        · rw [hkb] at h; cases h
        · rw [hkb] at h; cases h
      subst hn
      go_wp2_with fail
      go_ret
      exact FIN.out _ (by simp [within, Ty.form, hkb]) rfl
    have hko : kindOk kd ts.length = true := by simpa using hkb
    have HKO := Lib.hid hko; clear hko hkb
    have early : r < 1 ∨ dp = 0 → within (.node kd ts) r dp = false := fun h => by
      cases hw : within (.node kd ts) r dp with
      | false => rfl
      | true =>
        obtain ⟨w1, w2, w3⟩ := within_true hw
        simp only [Ty.size, Ty.depth] at w1 w2
        omega
    have EARLY := Lib.hid early; clear early
    by_cases hr : r < 1
    · rcases hnode with ⟨h, _⟩ | ⟨_, rfl, ⟨rfl, rfl⟩ | ⟨rfl, rfl⟩ | ⟨rfl, rfl⟩⟩ | ⟨_, t1, t2, k1, s1, k2, s2, rfl, ht1, ht2, ⟨rfl, rfl⟩ | ⟨rfl, rfl⟩⟩
      · rw [HKO.out] at h; cases h
      all_goals (go_wp2_with fail; go_ret; exact FIN.out _ (EARLY.out (Or.inl hr)) rfl)
    by_cases hd : dp = 0
    · have hdb : (dp == 0) = true := by simp [hd]
      rcases hnode with ⟨h, _⟩ | ⟨_, rfl, ⟨rfl, rfl⟩ | ⟨rfl, rfl⟩ | ⟨rfl, rfl⟩⟩ | ⟨_, t1, t2, k1, s1, k2, s2, rfl, ht1, ht2, ⟨rfl, rfl⟩ | ⟨rfl, rfl⟩⟩
      · rw [HKO.out] at h; cases h
      all_goals (go_wp2_with fail; go_ret; exact FIN.out _ (EARLY.out (Or.inr hd)) rfl)
    have hdb : (dp == 0) = false := by simp [hd]
    clear FIN EARLY
    rcases hnode with ⟨h, _⟩ | ⟨_, rfl, ⟨rfl, rfl⟩ | ⟨rfl, rfl⟩ | ⟨rfl, rfl⟩⟩ | ⟨_, t1, t2, k1, s1, k2, s2, rfl, ht1, ht2, ⟨rfl, rfl⟩ | ⟨rfl, rfl⟩⟩
    · rw [HKO.out] at h; cases h
    · have hm := meth_unknown
      go_wp2_with fail
      refine (parts_unknown _).mono ?_
      rintro e w4 ⟨rfl, hb⟩
      have R4 := Lib.hid (R2.out.below hp hb)
      have HZ : Hid (w.heap.size ≤ w2.heap.size) := B2.out.size
      have hz4 := hb.size
      rw [World.size_setCell] at hz4
      clear hb R2 e0 e1 B2 hm
      have hz2 : w.heap.size ≤ w2.heap.size := HZ.out
      clear HZ
      go_wp2_with fail
      go_loopw [32] (fun i wr => ∃ k : Nat, k ≤ 0 ∧ i = .int .i64 k ∧ 0 ≤ r - 1 - (Ty.sizes (List.take k []) : Int) ∧ (Ty.depths (List.take k []) : Int) ≤ dp - 1 ∧ Ty.forms (List.take k []) = true ∧ Room p (r - 1 - Ty.sizes (List.take k [])) w wr ∧ w4.heap.size ≤ wr.heap.size ∧ (∀ b, b < w4.heap.size → b ≠ p → wr.heap[b]? = w4.heap[b]?)) (fun i _ => 0 - (intOf i).toNat)
      case atStart => exact ⟨0, by omega, rfl, by simp [Ty.sizes]; omega, by simp [Ty.depths]; omega, by simp [Ty.forms], by simpa [Ty.sizes] using R4.out, Nat.le_refl _, fun _ _ _ => rfl⟩
      case round =>
        obtain ⟨k, hk, rfl, hs, hds, hf, hroom, hz, hkeep⟩ := hrel
        have HS := Lib.hid hs
        have HD := Lib.hid hds
        have HF := Lib.hid hf
        have HR := Lib.hid hroom
        have HK := Lib.hid hkeep
        clear hs hds hf hroom hkeep
        obtain rfl : k = 0 := by omega
        have hfin : within (.node 1 []) r dp = true := by
          have h1 : 0 ≤ r - 1 - (Ty.sizes [] : Int) := HS.out
          have h2 : (Ty.depths [] : Int) ≤ dp - 1 := HD.out
          have h3 : Ty.forms [] = true := HF.out
          have h4 := HKO.out
          exact within_mk (show ((1 + Ty.sizes [] : Nat) : Int) ≤ r by omega) (show ((1 + Ty.depths [] : Nat) : Int) ≤ dp by omega) (by simp only [Ty.form, h3, h4, Bool.and_self])
        have HFIN := Lib.hid hfin; clear hfin
        have h1 : 0 ≤ r - 1 - (Ty.sizes [] : Int) := HS.out
        have hlo : r - ↑(1 + Ty.sizes []) ≤ r - 1 - ↑(Ty.sizes []) := by omega
        have HLO := Lib.hid hlo; clear hlo h1
        go_wp2_with fail
        go_ret
        exact WithinEnd.of (r' := r - 1 - ↑(Ty.sizes [])) HFIN.out HR.out (by rw [HSG.out]; exact HLO.out) (by omega) (fun _ => by rw [HSG.out]; omega)
    · have hm := meth_num
      go_wp2_with fail
      refine (parts_num _).mono ?_
      rintro e w4 ⟨rfl, hb⟩
      have R4 := Lib.hid (R2.out.below hp hb)
      have HZ : Hid (w.heap.size ≤ w2.heap.size) := B2.out.size
      have hz4 := hb.size
      rw [World.size_setCell] at hz4
      clear hb R2 e0 e1 B2 hm
      have hz2 : w.heap.size ≤ w2.heap.size := HZ.out
      clear HZ
      go_wp2_with fail
      go_loopw [32] (fun i wr => ∃ k : Nat, k ≤ 0 ∧ i = .int .i64 k ∧ 0 ≤ r - 1 - (Ty.sizes (List.take k []) : Int) ∧ (Ty.depths (List.take k []) : Int) ≤ dp - 1 ∧ Ty.forms (List.take k []) = true ∧ Room p (r - 1 - Ty.sizes (List.take k [])) w wr ∧ w4.heap.size ≤ wr.heap.size ∧ (∀ b, b < w4.heap.size → b ≠ p → wr.heap[b]? = w4.heap[b]?)) (fun i _ => 0 - (intOf i).toNat)
      case atStart => exact ⟨0, by omega, rfl, by simp [Ty.sizes]; omega, by simp [Ty.depths]; omega, by simp [Ty.forms], by simpa [Ty.sizes] using R4.out, Nat.le_refl _, fun _ _ _ => rfl⟩
      case round =>
        obtain ⟨k, hk, rfl, hs, hds, hf, hroom, hz, hkeep⟩ := hrel
        have HS := Lib.hid hs
        have HD := Lib.hid hds
        have HF := Lib.hid hf
        have HR := Lib.hid hroom
        have HK := Lib.hid hkeep
        clear hs hds hf hroom hkeep
        obtain rfl : k = 0 := by omega
        have hfin : within (.node 2 []) r dp = true := by
          have h1 : 0 ≤ r - 1 - (Ty.sizes [] : Int) := HS.out
          have h2 : (Ty.depths [] : Int) ≤ dp - 1 := HD.out
          have h3 : Ty.forms [] = true := HF.out
          have h4 := HKO.out
          exact within_mk (show ((1 + Ty.sizes [] : Nat) : Int) ≤ r by omega) (show ((1 + Ty.depths [] : Nat) : Int) ≤ dp by omega) (by simp only [Ty.form, h3, h4, Bool.and_self])
        have HFIN := Lib.hid hfin; clear hfin
        have h1 : 0 ≤ r - 1 - (Ty.sizes [] : Int) := HS.out
        have hlo : r - ↑(1 + Ty.sizes []) ≤ r - 1 - ↑(Ty.sizes []) := by omega
        have HLO := Lib.hid hlo; clear hlo h1
        go_wp2_with fail
        go_ret
        exact WithinEnd.of (r' := r - 1 - ↑(Ty.sizes [])) HFIN.out HR.out (by rw [HSG.out]; exact HLO.out) (by omega) (fun _ => by rw [HSG.out]; omega)
    · have hm := meth_bool
      go_wp2_with fail
      refine (parts_bool _).mono ?_
      rintro e w4 ⟨rfl, hb⟩
      have R4 := Lib.hid (R2.out.below hp hb)
      have HZ : Hid (w.heap.size ≤ w2.heap.size) := B2.out.size
      have hz4 := hb.size
      rw [World.size_setCell] at hz4
      clear hb R2 e0 e1 B2 hm
      have hz2 : w.heap.size ≤ w2.heap.size := HZ.out
      clear HZ
      go_wp2_with fail
      go_loopw [32] (fun i wr => ∃ k : Nat, k ≤ 0 ∧ i = .int .i64 k ∧ 0 ≤ r - 1 - (Ty.sizes (List.take k []) : Int) ∧ (Ty.depths (List.take k []) : Int) ≤ dp - 1 ∧ Ty.forms (List.take k []) = true ∧ Room p (r - 1 - Ty.sizes (List.take k [])) w wr ∧ w4.heap.size ≤ wr.heap.size ∧ (∀ b, b < w4.heap.size → b ≠ p → wr.heap[b]? = w4.heap[b]?)) (fun i _ => 0 - (intOf i).toNat)
      case atStart => exact ⟨0, by omega, rfl, by simp [Ty.sizes]; omega, by simp [Ty.depths]; omega, by simp [Ty.forms], by simpa [Ty.sizes] using R4.out, Nat.le_refl _, fun _ _ _ => rfl⟩
      case round =>
        obtain ⟨k, hk, rfl, hs, hds, hf, hroom, hz, hkeep⟩ := hrel
        have HS := Lib.hid hs
        have HD := Lib.hid hds
        have HF := Lib.hid hf
        have HR := Lib.hid hroom
        have HK := Lib.hid hkeep
        clear hs hds hf hroom hkeep
        obtain rfl : k = 0 := by omega
        have hfin : within (.node 3 []) r dp = true := by
          have h1 : 0 ≤ r - 1 - (Ty.sizes [] : Int) := HS.out
          have h2 : (Ty.depths [] : Int) ≤ dp - 1 := HD.out
          have h3 : Ty.forms [] = true := HF.out
          have h4 := HKO.out
          exact within_mk (show ((1 + Ty.sizes [] : Nat) : Int) ≤ r by omega) (show ((1 + Ty.depths [] : Nat) : Int) ≤ dp by omega) (by simp only [Ty.form, h3, h4, Bool.and_self])
        have HFIN := Lib.hid hfin; clear hfin
        have h1 : 0 ≤ r - 1 - (Ty.sizes [] : Int) := HS.out
        have hlo : r - ↑(1 + Ty.sizes []) ≤ r - 1 - ↑(Ty.sizes []) := by omega
        have HLO := Lib.hid hlo; clear hlo h1
        go_wp2_with fail
        go_ret
        exact WithinEnd.of (r' := r - 1 - ↑(Ty.sizes [])) HFIN.out HR.out (by rw [HSG.out]; exact HLO.out) (by omega) (fun _ => by rw [HSG.out]; omega)
    · have H1 := Lib.hid ht1
      have H2 := Lib.hid ht2
      clear ht1 ht2
      have hm := fun (n : Nat) (w : World) => meth_arrow n w (.int .i64 k1) s1 (.int .i64 k2) s2
      go_wp2_with fail
      refine (parts_arrow w0 d t1 t2 k1 k2 s1 s2 _ H1.out H2.out).mono ?_
      rintro e w4 ⟨bb, rfl, hrow, hb⟩
      have R4 := Lib.hid (R2.out.below hp hb)
      have HZ : Hid (w.heap.size ≤ w2.heap.size) := B2.out.size
      have hz4 := hb.size
      rw [World.size_setCell] at hz4
      clear hb R2 e0 e1 B2 hm
      have hz2 : w.heap.size ≤ w2.heap.size := HZ.out
      clear HZ
      have HROW : Hid (∀ j (h : j < 2), ∃ x0 x1, p < bb ∧ bb < w4.heap.size ∧ w4.cell? ⟨bb, j * 2, none⟩ = some x0 ∧ w4.cell? ⟨bb, j * 2 + 1, none⟩ = some x1 ∧ TyAt w0 d (.agg #[x0, x1]) ([t1, t2][j]'h)) := fun j hj => by
        obtain ⟨a9, c9, he, _, _, hat⟩ := hrow
        obtain ⟨b9, o9, x0, x1, ha, h1, h2, h3, h4, h5⟩ := hat j hj
        simp only [Value.slice.injEq] at he
        obtain ⟨rfl, _⟩ := he
        injection ha with ha
        injection ha with ha1 ha2
        subst ha1 ha2
        rw [World.size_setCell] at h1
        exact ⟨x0, x1, by omega, h2, by simpa using h3, by simpa using h4, h5⟩
      clear hrow H1 H2
      go_wp2_with fail
      go_loopw [32] (fun i wr => ∃ k : Nat, k ≤ 2 ∧ i = .int .i64 k ∧ 0 ≤ r - 1 - (Ty.sizes (List.take k [t1, t2]) : Int) ∧ (Ty.depths (List.take k [t1, t2]) : Int) ≤ dp - 1 ∧ Ty.forms (List.take k [t1, t2]) = true ∧ Room p (r - 1 - Ty.sizes (List.take k [t1, t2])) w wr ∧ w4.heap.size ≤ wr.heap.size ∧ (∀ b, b < w4.heap.size → b ≠ p → wr.heap[b]? = w4.heap[b]?)) (fun i _ => 2 - (intOf i).toNat)
      case atStart => exact ⟨0, by omega, rfl, by simp [Ty.sizes]; omega, by simp [Ty.depths]; omega, by simp [Ty.forms], by simpa [Ty.sizes] using R4.out, Nat.le_refl _, fun _ _ _ => rfl⟩
      case round =>
        obtain ⟨k, hk, rfl, hs, hds, hf, hroom, hz, hkeep⟩ := hrel
        have HS := Lib.hid hs
        have HD := Lib.hid hds
        have HF := Lib.hid hf
        have HR := Lib.hid hroom
        have HK := Lib.hid hkeep
        clear hs hds hf hroom hkeep
        by_cases hlt : k < 2
        · obtain ⟨x0, x1, hpb, hbl, hc0, hc1, ht⟩ := HROW.out k hlt
          obtain ⟨yk, ya, yn, yc, rfl, rfl⟩ := at_parts ht
          have x0 : wr.cell? ⟨bb, k * 2, none⟩ = some (.int .i64 yk) := by rw [World.cell?_of_block (HK.out bb hbl (by omega))]; exact hc0
          have x1 : wr.cell? ⟨bb, k * 2 + 1, none⟩ = some (.slice ya yn yc) := by rw [World.cell?_of_block (HK.out bb hbl (by omega))]; exact hc1
          have hpp := below_alloc wr (.cells #[.int .i64 yk, .slice ya yn yc] 35)
          have HTK := Lib.hid ht
          have HRP := Lib.hid (HR.out.below hp hpp)
          have HWP : Hid (Below w0.heap.size w0 (wr.alloc (.cells #[.int .i64 yk, .slice ya yn yc] 35))) := HW0.out.trans (HRP.out.2.2.1.mono hp0)
          have hg := Ty.size_get [t1, t2] k hlt
          have hzk : Ty.size ([t1, t2][k]'hlt) ≤ 1048577 := by have := HSZ.out; omega
          have hpk : p < (wr.alloc (.cells #[.int .i64 yk, .slice ya yn yc] 35)).heap.size := by simp; omega
          obtain ⟨rr, hrr⟩ : ∃ rr, rr = r - 1 - (Ty.sizes (List.take k [t1, t2]) : Int) := ⟨_, rfl⟩
          rw [← hrr] at HRP HS
          have HRR := Lib.hid hrr; clear hrr
          have g0 : 0 ≤ rr := HS.out
          have g1 : rr ≤ 1048576 := by have := HRR.out; omega
          have gd : 0 ≤ dp - 1 := by omega
          clear ht hc0 hc1 hpp hg
          go_wp2_with fail
          refine (IH.out _ _ p rr (dp - 1) _ HTK.out HWP.out hp0 hzk hpk g0 g1 gd (by omega) HRP.out.1 HRP.out.2.1).mono ?_
          rintro e w6 hend
          obtain ⟨r6, rfl, hr6, h1, h2, h3⟩ := hend.room
          have HR6 := Lib.hid (HRP.out.on hr6)
          have HK6 : Hid (∀ b, b < w4.heap.size → b ≠ p → w6.heap[b]? = w4.heap[b]?) := fun b hb1 hb2 => by
            rw [hr6.2.2.2 b (by simp; omega) hb2, heap_alloc_old _ _ (by omega)]
            exact HK.out b hb1 hb2
          have hz6 : w4.heap.size ≤ w6.heap.size := by have := hr6.2.2.1.size; simp at this; omega
          clear hend hr6
          cases hw : within ([t1, t2][k]'hlt) rr (dp - 1) with
          | true =>
            have h4 := h3 hw
            obtain ⟨u1, u2, u3⟩ := within_true hw
            subst h4
            have HU3 := Lib.hid u3
            have T1 := Lib.hid (Ty.sizes_take [t1, t2] k hlt)
            have T2 := Lib.hid (Ty.depths_take [t1, t2] k hlt)
            have T3 := Lib.hid (Ty.forms_take [t1, t2] k hlt)
            have HW := Lib.hid hw
            have U2 := Lib.hid u2
            have U1 := Lib.hid u1
            clear h1 h2 h3 u3 u2 u1 hw
            have eq1 : Hid (rr - ↑(Ty.size ([t1, t2][k]'hlt)) = r - 1 - ↑(Ty.sizes (List.take (k + 1) [t1, t2]))) := by rw [T1.out]; have := HRR.out; show _ = _; omega
            go_wp2_with fail
            exact ⟨⟨k + 1, by omega, by go_num, by rw [← eq1.out]; have := U1.out; omega, by rw [T2.out]; have := HD.out; have := U2.out; omega, by rw [T3.out, HF.out, HU3.out]; rfl, by rw [← eq1.out]; exact HR6.out, hz6, HK6.out⟩, by simp [intOf]; omega⟩
          | false =>
            have hfin := within_sub (kd := 4) (r := r) (dp := dp) hlt HRR.out hw
            have HFIN := Lib.hid hfin
            have hsz1 := Ty.sizes_take [t1, t2] k hlt
            have hsz2 := Ty.sizes_le [t1, t2] (k + 1)
            have hq := HRR.out
            have hlo : r - ↑(1 + Ty.sizes [t1, t2]) ≤ r6 := by omega
            have hhi : r6 ≤ r := by omega
            clear hfin hw hsz1 hsz2 hq h1 h2 h3
            go_wp2_with fail
            go_ret
            exact WithinEnd.of HFIN.out HR6.out (by rw [HSG.out]; exact hlo) hhi (fun h => by cases h)
        · obtain rfl : k = 2 := by omega
          have hfin : within (.node 4 [t1, t2]) r dp = true := by
            have h1 : 0 ≤ r - 1 - (Ty.sizes [t1, t2] : Int) := HS.out
            have h2 : (Ty.depths [t1, t2] : Int) ≤ dp - 1 := HD.out
            have h3 : Ty.forms [t1, t2] = true := HF.out
            have h4 := HKO.out
            exact within_mk (show ((1 + Ty.sizes [t1, t2] : Nat) : Int) ≤ r by omega) (show ((1 + Ty.depths [t1, t2] : Nat) : Int) ≤ dp by omega) (by simp only [Ty.form, h3, h4, Bool.and_self])
          have HFIN := Lib.hid hfin; clear hfin
          have h1 : 0 ≤ r - 1 - (Ty.sizes [t1, t2] : Int) := HS.out
          have hlo : r - ↑(1 + Ty.sizes [t1, t2]) ≤ r - 1 - ↑(Ty.sizes [t1, t2]) := by omega
          have HLO := Lib.hid hlo; clear hlo h1
          go_wp2_with fail
          go_ret
          exact WithinEnd.of (r' := r - 1 - ↑(Ty.sizes [t1, t2])) HFIN.out HR.out (by rw [HSG.out]; exact HLO.out) (by omega) (fun _ => by rw [HSG.out]; omega)
    · have H1 := Lib.hid ht1
      have H2 := Lib.hid ht2
      clear ht1 ht2
      have hm := fun (n : Nat) (w : World) => meth_pair n w (.int .i64 k1) s1 (.int .i64 k2) s2
      go_wp2_with fail
      refine (parts_pair w0 d t1 t2 k1 k2 s1 s2 _ H1.out H2.out).mono ?_
      rintro e w4 ⟨bb, rfl, hrow, hb⟩
      have R4 := Lib.hid (R2.out.below hp hb)
      have HZ : Hid (w.heap.size ≤ w2.heap.size) := B2.out.size
      have hz4 := hb.size
      rw [World.size_setCell] at hz4
      clear hb R2 e0 e1 B2 hm
      have hz2 : w.heap.size ≤ w2.heap.size := HZ.out
      clear HZ
      have HROW : Hid (∀ j (h : j < 2), ∃ x0 x1, p < bb ∧ bb < w4.heap.size ∧ w4.cell? ⟨bb, j * 2, none⟩ = some x0 ∧ w4.cell? ⟨bb, j * 2 + 1, none⟩ = some x1 ∧ TyAt w0 d (.agg #[x0, x1]) ([t1, t2][j]'h)) := fun j hj => by
        obtain ⟨a9, c9, he, _, _, hat⟩ := hrow
        obtain ⟨b9, o9, x0, x1, ha, h1, h2, h3, h4, h5⟩ := hat j hj
        simp only [Value.slice.injEq] at he
        obtain ⟨rfl, _⟩ := he
        injection ha with ha
        injection ha with ha1 ha2
        subst ha1 ha2
        rw [World.size_setCell] at h1
        exact ⟨x0, x1, by omega, h2, by simpa using h3, by simpa using h4, h5⟩
      clear hrow H1 H2
      go_wp2_with fail
      go_loopw [32] (fun i wr => ∃ k : Nat, k ≤ 2 ∧ i = .int .i64 k ∧ 0 ≤ r - 1 - (Ty.sizes (List.take k [t1, t2]) : Int) ∧ (Ty.depths (List.take k [t1, t2]) : Int) ≤ dp - 1 ∧ Ty.forms (List.take k [t1, t2]) = true ∧ Room p (r - 1 - Ty.sizes (List.take k [t1, t2])) w wr ∧ w4.heap.size ≤ wr.heap.size ∧ (∀ b, b < w4.heap.size → b ≠ p → wr.heap[b]? = w4.heap[b]?)) (fun i _ => 2 - (intOf i).toNat)
      case atStart => exact ⟨0, by omega, rfl, by simp [Ty.sizes]; omega, by simp [Ty.depths]; omega, by simp [Ty.forms], by simpa [Ty.sizes] using R4.out, Nat.le_refl _, fun _ _ _ => rfl⟩
      case round =>
        obtain ⟨k, hk, rfl, hs, hds, hf, hroom, hz, hkeep⟩ := hrel
        have HS := Lib.hid hs
        have HD := Lib.hid hds
        have HF := Lib.hid hf
        have HR := Lib.hid hroom
        have HK := Lib.hid hkeep
        clear hs hds hf hroom hkeep
        by_cases hlt : k < 2
        · obtain ⟨x0, x1, hpb, hbl, hc0, hc1, ht⟩ := HROW.out k hlt
          obtain ⟨yk, ya, yn, yc, rfl, rfl⟩ := at_parts ht
          have x0 : wr.cell? ⟨bb, k * 2, none⟩ = some (.int .i64 yk) := by rw [World.cell?_of_block (HK.out bb hbl (by omega))]; exact hc0
          have x1 : wr.cell? ⟨bb, k * 2 + 1, none⟩ = some (.slice ya yn yc) := by rw [World.cell?_of_block (HK.out bb hbl (by omega))]; exact hc1
          have hpp := below_alloc wr (.cells #[.int .i64 yk, .slice ya yn yc] 35)
          have HTK := Lib.hid ht
          have HRP := Lib.hid (HR.out.below hp hpp)
          have HWP : Hid (Below w0.heap.size w0 (wr.alloc (.cells #[.int .i64 yk, .slice ya yn yc] 35))) := HW0.out.trans (HRP.out.2.2.1.mono hp0)
          have hg := Ty.size_get [t1, t2] k hlt
          have hzk : Ty.size ([t1, t2][k]'hlt) ≤ 1048577 := by have := HSZ.out; omega
          have hpk : p < (wr.alloc (.cells #[.int .i64 yk, .slice ya yn yc] 35)).heap.size := by simp; omega
          obtain ⟨rr, hrr⟩ : ∃ rr, rr = r - 1 - (Ty.sizes (List.take k [t1, t2]) : Int) := ⟨_, rfl⟩
          rw [← hrr] at HRP HS
          have HRR := Lib.hid hrr; clear hrr
          have g0 : 0 ≤ rr := HS.out
          have g1 : rr ≤ 1048576 := by have := HRR.out; omega
          have gd : 0 ≤ dp - 1 := by omega
          clear ht hc0 hc1 hpp hg
          go_wp2_with fail
          refine (IH.out _ _ p rr (dp - 1) _ HTK.out HWP.out hp0 hzk hpk g0 g1 gd (by omega) HRP.out.1 HRP.out.2.1).mono ?_
          rintro e w6 hend
          obtain ⟨r6, rfl, hr6, h1, h2, h3⟩ := hend.room
          have HR6 := Lib.hid (HRP.out.on hr6)
          have HK6 : Hid (∀ b, b < w4.heap.size → b ≠ p → w6.heap[b]? = w4.heap[b]?) := fun b hb1 hb2 => by
            rw [hr6.2.2.2 b (by simp; omega) hb2, heap_alloc_old _ _ (by omega)]
            exact HK.out b hb1 hb2
          have hz6 : w4.heap.size ≤ w6.heap.size := by have := hr6.2.2.1.size; simp at this; omega
          clear hend hr6
          cases hw : within ([t1, t2][k]'hlt) rr (dp - 1) with
          | true =>
            have h4 := h3 hw
            obtain ⟨u1, u2, u3⟩ := within_true hw
            subst h4
            have HU3 := Lib.hid u3
            have T1 := Lib.hid (Ty.sizes_take [t1, t2] k hlt)
            have T2 := Lib.hid (Ty.depths_take [t1, t2] k hlt)
            have T3 := Lib.hid (Ty.forms_take [t1, t2] k hlt)
            have HW := Lib.hid hw
            have U2 := Lib.hid u2
            have U1 := Lib.hid u1
            clear h1 h2 h3 u3 u2 u1 hw
            have eq1 : Hid (rr - ↑(Ty.size ([t1, t2][k]'hlt)) = r - 1 - ↑(Ty.sizes (List.take (k + 1) [t1, t2]))) := by rw [T1.out]; have := HRR.out; show _ = _; omega
            go_wp2_with fail
            exact ⟨⟨k + 1, by omega, by go_num, by rw [← eq1.out]; have := U1.out; omega, by rw [T2.out]; have := HD.out; have := U2.out; omega, by rw [T3.out, HF.out, HU3.out]; rfl, by rw [← eq1.out]; exact HR6.out, hz6, HK6.out⟩, by simp [intOf]; omega⟩
          | false =>
            have hfin := within_sub (kd := 5) (r := r) (dp := dp) hlt HRR.out hw
            have HFIN := Lib.hid hfin
            have hsz1 := Ty.sizes_take [t1, t2] k hlt
            have hsz2 := Ty.sizes_le [t1, t2] (k + 1)
            have hq := HRR.out
            have hlo : r - ↑(1 + Ty.sizes [t1, t2]) ≤ r6 := by omega
            have hhi : r6 ≤ r := by omega
            clear hfin hw hsz1 hsz2 hq h1 h2 h3
            go_wp2_with fail
            go_ret
            exact WithinEnd.of HFIN.out HR6.out (by rw [HSG.out]; exact hlo) hhi (fun h => by cases h)
        · obtain rfl : k = 2 := by omega
          have hfin : within (.node 5 [t1, t2]) r dp = true := by
            have h1 : 0 ≤ r - 1 - (Ty.sizes [t1, t2] : Int) := HS.out
            have h2 : (Ty.depths [t1, t2] : Int) ≤ dp - 1 := HD.out
            have h3 : Ty.forms [t1, t2] = true := HF.out
            have h4 := HKO.out
            exact within_mk (show ((1 + Ty.sizes [t1, t2] : Nat) : Int) ≤ r by omega) (show ((1 + Ty.depths [t1, t2] : Nat) : Int) ≤ dp by omega) (by simp only [Ty.form, h3, h4, Bool.and_self])
          have HFIN := Lib.hid hfin; clear hfin
          have h1 : 0 ≤ r - 1 - (Ty.sizes [t1, t2] : Int) := HS.out
          have hlo : r - ↑(1 + Ty.sizes [t1, t2]) ≤ r - 1 - ↑(Ty.sizes [t1, t2]) := by omega
          have HLO := Lib.hid hlo; clear hlo h1
          go_wp2_with fail
          go_ret
          exact WithinEnd.of (r' := r - 1 - ↑(Ty.sizes [t1, t2])) HFIN.out HR.out (by rw [HSG.out]; exact HLO.out) (by omega) (fun _ => by rw [HSG.out]; omega)
end Go.Proofs.YtfidcblaabeaaaaDoor
/-
  Proved: impl.IsNote says whether a type's tree is a note; it leaves the memory that was there as it was.
-/
namespace Go.Proofs.YtfidcblaabeaaaaDoor
open Go.RowKit

theorem within_note (t : Ty) : within t 15 5 = t.note := by
  have e1 : decide ((t.size : Int) ≤ 15) = decide (t.size ≤ 15) := decide_eq_decide.2 (by omega)
  have e2 : decide ((t.depth : Int) ≤ 5) = decide (t.depth ≤ 5) := decide_eq_decide.2 (by omega)
  unfold within Ty.note Ty.valid
  rw [e1, e2]
  by_cases h1 : t.size ≤ 15 <;> by_cases h2 : t.depth ≤ 5
  · have h3 : t.size ≤ 800 := by omega
    have h4 : t.depth ≤ 24 := by omega
    simp [h1, h2, h3, h4]
  · simp [h2]
  · simp [h1]
  · simp [h1]

set_option maxRecDepth 100000 in
set_option maxHeartbeats 1000000 in
theorem implNote (d : Nat) (v : Value) (t : Ty) (w : World) (h : TyAt w d v t) (hsz : t.size ≤ 1048577) :
    Calls Tryd.prog 87 #[v] w fun e w' => e = .returned (.bool t.note) ∧ Below w.heap.size w w' := by
  have HT := Lib.hid h
  obtain ⟨yk, ya, yn, yc, rfl⟩ := agg_parts h
  clear h
  have X : Hid (Below w.heap.size w ((w.alloc (.cells #[.int .i64 yk, .slice ya yn yc] 35)).alloc (.cells #[.int .i64 15] 3))) := ((Below.refl _ _).alloc (Nat.le_refl _) _).alloc (by simp) _
  go_enter Tryd.func87, Tryd.ntmps87
  go_wp2_with fail
  refine (implWithin w d _ t (w.heap.size + 1) 15 5 _ HT.out X.out (by omega) hsz (by simp) (by omega) (by omega) (by omega) (by omega) (by simp [go_sem]) (by simp [go_sem])).mono ?_
  intro e w' hend
  obtain ⟨r', rfl, hr, _⟩ := hend.room
  have HB := Lib.hid (X.out.trans (hr.2.2.1.mono (Nat.le_succ _)))
  clear hend hr
  go_wp2_with fail
  go_ret
  exact ⟨by rw [within_note]; rfl, HB.out⟩
end Go.Proofs.YtfidcblaabeaaaaDoor
/-
  Proved: impl.EqualType says whether two trees are equal, and leaves the memory that was there as it was.
-/
namespace Go.Proofs.YtfidcblaabeaaaaDoor
open Go.RowKit

set_option maxRecDepth 100000 in
set_option maxHeartbeats 2000000 in
theorem implEqual : ∀ (d : Nat) (v1 v2 : Value) (t1 t2 : Ty) (w : World), TyAt w d v1 t1 → TyAt w d v2 t2 →
    Calls Tryd.prog 88 #[v1, v2] w fun e w' => e = .returned (.bool (t1.beq t2)) ∧ Below w.heap.size w w'
  | 0, _, _, _, _, _, h, _ => h.elim
  | d + 1, v1, v2, .node k1 cs, .node k2 bs, w, h1, h2 => by
    have IH : Hid (∀ (v1 v2 : Value) (t1 t2 : Ty) (w : World), TyAt w d v1 t1 → TyAt w d v2 t2 → Calls Tryd.prog 88 #[v1, v2] w fun e w' => e = .returned (.bool (t1.beq t2)) ∧ Below w.heap.size w w') := implEqual d
    obtain ⟨s1, rfl, hk0, hk1, a1, cap1, rfl, hcap1, hm1, hat1⟩ := h1
    obtain ⟨s2, rfl, hk2, hk3, a2, cap2, rfl, hcap2, hm2, hat2⟩ := h2
    have HA1 := Lib.hid hat1; clear hat1
    have HA2 := Lib.hid hat2; clear hat2
    by_cases q1 : k1 = k2
    · subst q1
      by_cases q2 : bs.length = cs.length
      · have HFIN : Hid ((Ty.node k1 cs).beq (Ty.node k1 bs) = Ty.beqs cs bs) := by show _ = _; simp [Ty.beq]
        rw [q2]
        go_enter Tryd.func88, Tryd.ntmps88
        go_wp2_with fail
        go_loopw [23] (fun i wr => ∃ k : Nat, k ≤ cs.length ∧ i = .int .i64 k ∧ Ty.beqs (cs.take k) (bs.take k) = true ∧ Below (w.heap.size + 2) ((w.alloc (.cells #[.int .i64 k1, .slice a1 cs.length cap1] 35)).alloc (.cells #[.int .i64 k1, .slice a2 cs.length cap2] 35)) wr) (fun i _ => cs.length - (intOf i).toNat)
        case atStart => exact ⟨0, by omega, rfl, by simp [Ty.beqs], Below.refl _ _⟩
        case round =>
          obtain ⟨k, hk, rfl, hf, hb⟩ := hrel
          have HF := Lib.hid hf; clear hf
          have y1 := two_first hb 1
          have y2 := two_next hb 1
          have HB := Lib.hid (two_below hb)
          have HBX := Lib.hid hb; clear hb
          by_cases hlt : k < cs.length
          · have hlt2 : k < bs.length := by omega
            obtain ⟨b1, off1, x0, x1, rfl, hbl1, hc10, hc11, ht1⟩ := HA1.out k hlt
            obtain ⟨b2, off2, z0, z1, rfl, hbl2, hc20, hc21, ht2⟩ := HA2.out k hlt2
            have c10 : wr.cell? ⟨b1, off1 + k * 2, none⟩ = some x0 := by rw [HB.out.cell (p := ⟨b1, off1 + k * 2, none⟩) hbl1]; exact hc10
            have c11 : wr.cell? ⟨b1, off1 + k * 2 + 1, none⟩ = some x1 := by rw [HB.out.cell (p := ⟨b1, off1 + k * 2 + 1, none⟩) hbl1]; exact hc11
            have c20 : wr.cell? ⟨b2, off2 + k * 2, none⟩ = some z0 := by rw [HB.out.cell (p := ⟨b2, off2 + k * 2, none⟩) hbl2]; exact hc20
            have c21 : wr.cell? ⟨b2, off2 + k * 2 + 1, none⟩ = some z1 := by rw [HB.out.cell (p := ⟨b2, off2 + k * 2 + 1, none⟩) hbl2]; exact hc21
            have HT1 := Lib.hid (ht1.below HB.out.drew)
            have HT2 := Lib.hid (ht2.below HB.out.drew)
            clear ht1 ht2 hc10 hc11 hc20 hc21
            go_wp2_with fail
            go_still_tail 10, (by kernel_rfl)
            change wpList _ _ _ _ _ wr.drew
            go_wp2_with fail
            refine (IH.out _ _ _ _ wr.drew HT1.out HT2.out).mono ?_
            rintro e w' ⟨rfl, hb1⟩
            have HN := Lib.hid (two_on HBX.out.drew hb1); clear hb1
            have HTK := Lib.hid (Ty.beqs_take cs bs k hlt hlt2)
            cases hfk : cs[k].beq bs[k] with
            | true =>
              have HFK := Lib.hid hfk; clear hfk
              go_wp2_with fail
              exact ⟨⟨k + 1, by omega, by go_num, by rw [HTK.out, HF.out, HFK.out]; rfl, HN.out⟩, by simp [intOf]; omega⟩
            | false =>
              have HFK := Lib.hid hfk; clear hfk
              go_wp2_with fail
              go_ret
              have e : Ty.beqs cs bs = false := Ty.beqs_false cs bs (k + 1) (by rw [HTK.out, HF.out, HFK.out]; rfl) q2.symm
              exact ⟨by rw [HFIN.out, e]; rfl, two_below HN.out⟩
          · obtain rfl : k = cs.length := by omega
            have e : Hid (Ty.beqs cs bs = true) := by
              have := HF.out
              rw [List.take_length, ← q2, List.take_length] at this; exact this
            go_wp2_with fail
            go_ret
            exact ⟨by rw [HFIN.out, e.out]; rfl, HB.out⟩
      · have HFIN : Hid ((Ty.node k1 cs).beq (Ty.node k1 bs) = false) := by show _ = _; simp [Ty.beq, Ty.beqs_len cs bs (fun e => q2 e.symm)]
        have q3 : ¬ ((cs.length : Int) = (bs.length : Int)) := by omega
        go_enter Tryd.func88, Tryd.ntmps88
        go_wp2_with fail
        go_ret
        exact ⟨by rw [HFIN.out]; rfl, ((Below.refl _ _).alloc (Nat.le_refl _) _).alloc (by simp) _⟩
    · have HFIN : Hid ((Ty.node k1 cs).beq (Ty.node k2 bs) = false) := by show _ = _; simp [Ty.beq, q1]
      go_enter Tryd.func88, Tryd.ntmps88
      go_wp2_with fail
      go_ret
      exact ⟨by rw [HFIN.out]; rfl, ((Below.refl _ _).alloc (Nat.le_refl _) _).alloc (by simp) _⟩
end Go.Proofs.YtfidcblaabeaaaaDoor
/-
  Proved: plain facts on ground types; the memory that was there stays as it was.
-/
namespace Go.Proofs.YtfidcblaabeaaaaDoor
open Go.RowKit

/-- The ground type of a type's kind; the zero type for others. -/
def Ty.ground : Ty → Ty
  | .node k ts => if (Ty.node k ts).valid = true then (if k = 2 then .node 2 [] else if k = 3 then .node 3 [] else if k = 4 then .node 4 [.node 1 [], .node 1 []] else if k = 5 then .node 5 [.node 1 [], .node 1 []] else .node 0 []) else .node 0 []
theorem Ty.ground_size (t : Ty) : t.ground.size ≤ 3 := by
  cases t with
  | node k ts =>
    simp only [Ty.ground]
    (repeat' split) <;> decide
theorem own_zero (w : World) (d : Nat) (k : Int) (h0 : -9223372036854775808 ≤ k) (h1 : k ≤ 9223372036854775807) : TyOwn w (d + 1) (.agg #[.int .i64 k, .slice none 0 0]) (.node k []) [] :=
  ⟨_, rfl, h0, h1, none, 0, [], [], rfl, Nat.le_refl _, by omega, rfl, rfl, (fun b hb => by cases hb), fun j hj => by simp at hj⟩
end Go.Proofs.YtfidcblaabeaaaaDoor
/-
  Proved: the table of arities reads as it is written while old memory stays.
-/
namespace Go.Proofs.YtfidcblaabeaaaaDoor
open Go.RowKit

def TabAt (w : World) : Prop := Lib.TabIs Tryd.prog w "loop.example/g00585/impl.arities" .i64 arTab
theorem TabAt.below {w w' : World} (h : TabAt w) (hb : Below w.heap.size w w') : TabAt w' := Law.tab_below hb h
theorem implArityAt (n : Int) (w : World) (h : TabAt w) : Calls Tryd.prog 79 #[.int .i64 n] w fun e w' => e = .returned (.int .i64 (arity n)) ∧ Below w.heap.size w w' := implArity n w h
end Go.Proofs.YtfidcblaabeaaaaDoor
/-
  Proved: impl.isNameFor, impl.isNumberFor, impl.isTypeFor and impl.isExprNode say whether the fields of a node belong to its kind; the memory that was there stays as it was.
-/
namespace Go.Proofs.YtfidcblaabeaaaaDoor
open Go.RowKit

set_option maxRecDepth 100000 in
theorem implNameFor (k : Int) (nm : ByteArray) (w : World) (hs : nm.size ≤ 9223372036854775807) : Calls Tryd.prog 80 #[.int .i64 k, .string nm] w fun e w' => e = .returned (.bool (nameFor k nm)) ∧ Below w.heap.size w w' := by
  by_cases q2 : k = 2
  · subst q2
    go_enter Tryd.func80, Tryd.ntmps80
    go_wp2_with fail
    refine (implName nm _ hs).mono ?_
    rintro e w1 ⟨rfl, hb⟩
    go_wp2_with fail
    go_ret
    exact ⟨by simp [nameFor], hb⟩
  by_cases q3 : k = 3
  · subst q3
    go_enter Tryd.func80, Tryd.ntmps80
    go_wp2_with fail
    refine (implName nm _ hs).mono ?_
    rintro e w1 ⟨rfl, hb⟩
    go_wp2_with fail
    go_ret
    exact ⟨by simp [nameFor], hb⟩
  have z2 : (k == 2) = false := by simp [q2]
  have z3 : (k == 3) = false := by simp [q3]
  by_cases qz : nm.size = 0
  · have e1 := text_zero qz
    have HZ : Hid (nameFor k nm = true) := by show _ = _; simp [nameFor, q2, q3, qz]
    go_enter Tryd.func80, Tryd.ntmps80
    go_wp2_with fail
    go_ret
    exact ⟨by rw [HZ.out]; rfl, Below.refl _ _⟩
  · have e1 := toList_some (s := nm) (by omega)
    have HZ : Hid (nameFor k nm = false) := by show _ = _; simp [nameFor, q2, q3, qz]
    go_enter Tryd.func80, Tryd.ntmps80
    go_wp2_with fail
    go_ret
    exact ⟨by rw [HZ.out]; rfl, Below.refl _ _⟩
set_option maxRecDepth 100000 in
theorem implNumFor (k n : Int) (w : World) : Calls Tryd.prog 81 #[.int .i64 k, .int .i64 n] w fun e w' => e = .returned (.bool (numFor k n)) ∧ Below w.heap.size w w' := by
  by_cases q1 : k = 1
  · subst q1
    by_cases r1 : 1 ≤ n
    · by_cases r2 : n ≤ 99
      · go_enter Tryd.func81, Tryd.ntmps81
        go_wp2_with fail
        go_ret
        exact ⟨by first | (simp [numFor, *]; done) | (simp [numFor, *]; omega), Below.refl _ _⟩
      · go_enter Tryd.func81, Tryd.ntmps81
        go_wp2_with fail
        go_ret
        exact ⟨by first | (simp [numFor, *]; done) | (simp [numFor, *]; omega), Below.refl _ _⟩
    · go_enter Tryd.func81, Tryd.ntmps81
      go_wp2_with fail
      go_ret
      exact ⟨by first | (simp [numFor, *]; done) | (simp [numFor, *]; omega), Below.refl _ _⟩
  by_cases q14 : k = 14
  · subst q14
    by_cases r1 : 1 ≤ n
    · by_cases r2 : n ≤ 99
      · go_enter Tryd.func81, Tryd.ntmps81
        go_wp2_with fail
        go_ret
        exact ⟨by first | (simp [numFor, *]; done) | (simp [numFor, *]; omega), Below.refl _ _⟩
      · go_enter Tryd.func81, Tryd.ntmps81
        go_wp2_with fail
        go_ret
        exact ⟨by first | (simp [numFor, *]; done) | (simp [numFor, *]; omega), Below.refl _ _⟩
    · go_enter Tryd.func81, Tryd.ntmps81
      go_wp2_with fail
      go_ret
      exact ⟨by first | (simp [numFor, *]; done) | (simp [numFor, *]; omega), Below.refl _ _⟩
  by_cases q5 : k = 5
  · subst q5
    by_cases r1 : 0 ≤ n
    · by_cases r2 : n ≤ 999
      · go_enter Tryd.func81, Tryd.ntmps81
        go_wp2_with fail
        go_ret
        exact ⟨by first | (simp [numFor, *]; done) | (simp [numFor, *]; omega), Below.refl _ _⟩
      · go_enter Tryd.func81, Tryd.ntmps81
        go_wp2_with fail
        go_ret
        exact ⟨by first | (simp [numFor, *]; done) | (simp [numFor, *]; omega), Below.refl _ _⟩
    · go_enter Tryd.func81, Tryd.ntmps81
      go_wp2_with fail
      go_ret
      exact ⟨by first | (simp [numFor, *]; done) | (simp [numFor, *]; omega), Below.refl _ _⟩
  by_cases q8 : k = 8
  · subst q8
    by_cases r0 : n = 0
    · subst r0
      go_enter Tryd.func81, Tryd.ntmps81
      go_wp2_with fail
      go_ret
      exact ⟨by simp [numFor], Below.refl _ _⟩
    · have r0b : (n == 0) = false := by simp [r0]
      by_cases r1 : n = 1
      · subst r1
        go_enter Tryd.func81, Tryd.ntmps81
        go_wp2_with fail
        go_ret
        exact ⟨by simp [numFor], Below.refl _ _⟩
      · have r1b : (n == 1) = false := by simp [r1]
        go_enter Tryd.func81, Tryd.ntmps81
        go_wp2_with fail
        go_ret
        exact ⟨by simp [numFor]; omega, Below.refl _ _⟩
  by_cases r0 : n = 0
  · subst r0
    go_enter Tryd.func81, Tryd.ntmps81
    go_wp2_with fail
    go_ret
    exact ⟨by first | (simp [numFor, *]; done) | (simp [numFor, *]; omega), Below.refl _ _⟩
  · have r0b : (n == 0) = false := by simp [r0]
    go_enter Tryd.func81, Tryd.ntmps81
    go_wp2_with fail
    go_ret
    exact ⟨by first | (simp [numFor, *]; done) | (simp [numFor, *]; omega), Below.refl _ _⟩
set_option maxRecDepth 100000 in
theorem implTypeFor (d : Nat) (v : Value) (k : Int) (ty : Ty) (w : World) (h : TyAt w d v ty) (hsz : ty.size ≤ 1048577) : Calls Tryd.prog 82 #[.int .i64 k, v] w fun e w' => e = .returned (.bool (typeFor k ty)) ∧ Below w.heap.size w w' := by
  have HT := Lib.hid h
  obtain ⟨yk, ya, yn, yc, rfl⟩ := agg_parts h
  clear h
  have E0 := below_alloc w (.cells #[.int .i64 yk, .slice ya yn yc] 35)
  have HT0 := Lib.hid (HT.out.below E0)
  have HE := Lib.hid E0
  clear E0 HT
  by_cases q3 : k = 3
  · subst q3
    go_enter Tryd.func82, Tryd.ntmps82
    go_wp2_with fail
    refine (implNote d _ ty _ HT0.out hsz).mono ?_
    rintro e w1 ⟨rfl, hb⟩
    have HB := Lib.hid (below_thru HE.out (Nat.le_refl _) hb)
    clear hb
    go_wp2_with fail
    go_ret
    exact ⟨by simp [typeFor], HB.out⟩
  by_cases q13 : k = 13
  · subst q13
    go_enter Tryd.func82, Tryd.ntmps82
    go_wp2_with fail
    refine (implNote d _ ty _ HT0.out hsz).mono ?_
    rintro e w1 ⟨rfl, hb⟩
    have HB := Lib.hid (below_thru HE.out (Nat.le_refl _) hb)
    clear hb
    go_wp2_with fail
    go_ret
    exact ⟨by simp [typeFor], HB.out⟩
  have z3 : (k == 3) = false := by simp [q3]
  have z13 : (k == 13) = false := by simp [q13]
  have qf : typeFor k ty = ty.beq (.node 0 []) := by first | (simp [typeFor, *]; done) | (simp [typeFor, *]; omega)
  cases d with
  | zero => exact HT0.out.elim
  | succ d =>
  go_enter Tryd.func82, Tryd.ntmps82
  go_wp2_with fail
  refine (implEqual (d + 1) _ _ ty (.node 0 []) _ HT0.out (own_zero _ d 0 (by omega) (by omega)).at_).mono ?_
  rintro e w1 ⟨rfl, hb⟩
  have HB := Lib.hid (below_thru HE.out (Nat.le_refl _) hb)
  clear hb
  go_wp2_with fail
  go_ret
  exact ⟨by rw [qf]; rfl, HB.out⟩
end Go.Proofs.YtfidcblaabeaaaaDoor
namespace Go.Proofs.YtfidcblaabeaaaaDoor
open Go.RowKit

set_option maxRecDepth 100000 in
set_option maxHeartbeats 1000000 in
theorem implFits (d : Nat) (v : Value) (kd : Int) (nm : ByteArray) (n : Int) (ty : Ty) (es : List Ex) (w : World) (h : ExAt w (d + 1) v (.node kd nm n ty es)) (hsz : (Ex.node kd nm n ty es).bulk ≤ 1048576) (htab : TabAt w) :
    Calls Tryd.prog 74 #[v] w fun e w' => e = .returned (.bool (fitsB kd nm n ty es.length)) ∧ Below w.heap.size w w' := by
  have HV := ex_parts h
  obtain ⟨c3, c4, sl, rfl, hk0, hk1, hn0, hn1, hnm, hty, a, cap, rfl, hcap, hcap2, hat⟩ := h
  obtain ⟨k', nm', n', tk, ta, tn, tc, sa, sn, sc, hv⟩ := HV
  injection hv with hv
  injection hv with hv
  simp at hv
  obtain ⟨rfl, rfl, rfl, rfl, rfl, rfl, rfl, rfl⟩ := hv
  have HAT := Lib.hid hat; clear hat
  have hbk : (Ex.node kd nm n ty es).bulk = nm.size + (ty.size - 1) + Ex.bulks es := rfl
  have HSZ : Hid (Ex.bulks es ≤ 1048576) := by show _ ≤ _; omega
  have HNM : Hid (nm.size ≤ 1048576) := by show _ ≤ _; omega
  have HTZ : Hid (ty.size ≤ 1048577) := by show _ ≤ _; omega
  have hlen : es.length ≤ 1048576 := by have := Ex.length_le es; omega
  have HTY := Lib.hid hty
  clear hsz hbk hty
  clear HAT HSZ
  have HNS : Hid (nm.size ≤ 9223372036854775807) := by have := HNM.out; show _ ≤ _; omega
  obtain ⟨W, hW⟩ : ∃ W, W = w.alloc (.cells #[.int .i64 kd, .string nm, .int .i64 n, .int .i64 tk, .slice ta tn tc, .slice a es.length cap] 38) := ⟨_, rfl⟩
  have B : Hid (Below w.heap.size w W) := by rw [hW]; exact below_alloc _ _
  have HTYb := Lib.hid (HTY.out.below B.out)
  have HTAB := Lib.hid (htab.below B.out)
  clear HTY htab
  have XA : Hid (BoxAt W w.heap.size #[.int .i64 kd, .string nm, .int .i64 n, .int .i64 tk, .slice ta tn tc, .slice a es.length cap]) := by rw [hW]; exact BoxAt.new _ _ _
  have C1 : ∀ q : Grown W.heap.size W, Calls Tryd.prog 79 #[.int .i64 kd] q.val fun e w' => e = .returned (.int .i64 (arity kd)) ∧ Below q.val.heap.size q.val w' := fun q => implArityAt _ _ (HTAB.out.below q.old)
  have C2 : ∀ q : Grown W.heap.size W, Calls Tryd.prog 80 #[.int .i64 kd, .string nm] q.val fun e w' => e = .returned (.bool (nameFor kd nm)) ∧ Below q.val.heap.size q.val w' := fun q => implNameFor _ _ _ HNS.out
  have C3 : ∀ q : Grown W.heap.size W, Calls Tryd.prog 81 #[.int .i64 kd, .int .i64 n] q.val fun e w' => e = .returned (.bool (numFor kd n)) ∧ Below q.val.heap.size q.val w' := fun q => implNumFor _ _ _
  have C4 : ∀ q : Grown W.heap.size W, Calls Tryd.prog 82 #[.int .i64 kd, .agg #[.int .i64 tk, .slice ta tn tc]] q.val fun e w' => e = .returned (.bool (typeFor kd ty)) ∧ Below q.val.heap.size q.val w' := fun q => implTypeFor d _ _ ty _ (HTYb.out.below q.old) HTZ.out
  have hfit : fitsB kd nm n ty es.length = (decide ((es.length : Int) = arity kd) && (nameFor kd nm && (numFor kd n && typeFor kd ty))) := rfl
  generalize fitsB kd nm n ty es.length = m at hfit ⊢
  generalize arity kd = r at hfit C1
  generalize nameFor kd nm = bn at hfit C2
  generalize numFor kd n = bu at hfit C3
  generalize typeFor kd ty = bt at hfit C4
  have HM := Lib.hid hfit
  clear hfit
  go_enter Tryd.func74, Tryd.ntmps74
  go_wp2_with fail
  rw [← hW]
  clear hW
  have a0 : ∀ q : Grown W.heap.size W, q.val.cell? ⟨w.heap.size, 0, none⟩ = _ := fun q => (XA.out.grown q).2 0
  have a1 : ∀ q : Grown W.heap.size W, q.val.cell? ⟨w.heap.size, 1, none⟩ = _ := fun q => (XA.out.grown q).2 1
  have a2 : ∀ q : Grown W.heap.size W, q.val.cell? ⟨w.heap.size, 2, none⟩ = _ := fun q => (XA.out.grown q).2 2
  have a3 : ∀ q : Grown W.heap.size W, q.val.cell? ⟨w.heap.size, 3, none⟩ = _ := fun q => (XA.out.grown q).2 3
  have a4 : ∀ q : Grown W.heap.size W, q.val.cell? ⟨w.heap.size, 4, none⟩ = _ := fun q => (XA.out.grown q).2 4
  have a5 : ∀ q : Grown W.heap.size W, q.val.cell? ⟨w.heap.size, 5, none⟩ = _ := fun q => (XA.out.grown q).2 5
  clear XA HTYb HTAB
  by_cases qa : (es.length : Int) = r
  case neg =>
    have qb : ((es.length : Int) == r) = false := by simp [qa]
    refine wp_region_grown W.heap.size (by kernel_rfl) (by kernel_rfl) ?_
    repeat (go_big_quiet_step ((first | (go_at_call 79; exact grown_of (Nat.le_refl _) (C1 _)) | (go_at_call 80; exact grown_of (Nat.le_refl _) (C2 _)) | (go_at_call 81; exact grown_of (Nat.le_refl _) (C3 _)) | (go_at_call 82; exact grown_of (Nat.le_refl _) (C4 _)))))
    refine wpQuiet_nil ?_
    rintro _ ⟨⟨wq, hq⟩, rfl⟩
    go_wp2_with fail
    go_ret
    exact ⟨by rw [HM.out]; simp [*], below_thru B.out (Nat.le_of_eq rfl) hq⟩
  have qb : ((es.length : Int) == r) = true := by simp [qa]
  cases bn
  case false =>
    refine wp_region_grown W.heap.size (by kernel_rfl) (by kernel_rfl) ?_
    repeat (go_big_quiet_step ((first | (go_at_call 79; exact grown_of (Nat.le_refl _) (C1 _)) | (go_at_call 80; exact grown_of (Nat.le_refl _) (C2 _)) | (go_at_call 81; exact grown_of (Nat.le_refl _) (C3 _)) | (go_at_call 82; exact grown_of (Nat.le_refl _) (C4 _)))))
    refine wpQuiet_nil ?_
    rintro _ ⟨⟨wq, hq⟩, rfl⟩
    go_wp2_with fail
    go_ret
    exact ⟨by rw [HM.out]; simp [*], below_thru B.out (Nat.le_of_eq rfl) hq⟩
  cases bu
  case false =>
    refine wp_region_grown W.heap.size (by kernel_rfl) (by kernel_rfl) ?_
    repeat (go_big_quiet_step ((first | (go_at_call 79; exact grown_of (Nat.le_refl _) (C1 _)) | (go_at_call 80; exact grown_of (Nat.le_refl _) (C2 _)) | (go_at_call 81; exact grown_of (Nat.le_refl _) (C3 _)) | (go_at_call 82; exact grown_of (Nat.le_refl _) (C4 _)))))
    refine wpQuiet_nil ?_
    rintro _ ⟨⟨wq, hq⟩, rfl⟩
    go_wp2_with fail
    go_ret
    exact ⟨by rw [HM.out]; simp [*], below_thru B.out (Nat.le_of_eq rfl) hq⟩
  refine wp_region_grown W.heap.size (by kernel_rfl) (by kernel_rfl) ?_
  repeat (go_big_quiet_step ((first | (go_at_call 79; exact grown_of (Nat.le_refl _) (C1 _)) | (go_at_call 80; exact grown_of (Nat.le_refl _) (C2 _)) | (go_at_call 81; exact grown_of (Nat.le_refl _) (C3 _)) | (go_at_call 82; exact grown_of (Nat.le_refl _) (C4 _)))))
  refine wpQuiet_nil ?_
  rintro _ ⟨⟨wq, hq⟩, rfl⟩
  go_wp2_with fail
  go_ret
  exact ⟨by rw [HM.out]; simp [*], below_thru B.out (Nat.le_of_eq rfl) hq⟩
end Go.Proofs.YtfidcblaabeaaaaDoor
