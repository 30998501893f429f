/-
  Proved: plain facts on records that lie in memory: bounds of their own memory; paths and expressions as fields.
-/
import Derived.Test.YtcohfbdhdngplaaExIn
import Derived.Test.YtcohfbdhdngplaaIntsRow
import Derived.Test.YtcohfbdhdngplaaToExpr
import Derived.Test.YtcohfbdhdngplaaToInts
import Derived.Test.YtcohfbdhdngplaaSzExpr
import Derived.Test.YtcohfbdhdngplaaEqExpr
import Derived.Test.YtcohfbdhdngplaaEqInts
import Derived.Test.YtcohfbdhdngplaaTyEq
import Derived.Test.YtcohfbdhdngplaaTwo
import Derived.Test.YtcohfbdhdngplaaPut
import Derived.Test.YtcohfbdhdngplaaExprArg
namespace Go.Proofs.Ytcohfbdhdngplaa
open Go.RowKit

def Wi (lo hi : Nat) (P : Nat → Nat → Prop) : Prop := ∃ a b, lo ≤ a ∧ b ≤ hi ∧ P a b
theorem Wi.map {lo hi : Nat} {P Q : Nat → Nat → Prop} (h : Wi lo hi P) (f : ∀ a b, lo ≤ a → b ≤ hi → P a b → Q a b) : Wi lo hi Q := by
  obtain ⟨a, b, h1, h2, h3⟩ := h
  exact ⟨a, b, h1, h2, f a b h1 h2 h3⟩
theorem Wi.at_ {lo hi : Nat} {P : Nat → Nat → Prop} {q : Prop} (h : Wi lo hi P) (f : ∀ a b, P a b → q) : q := by
  obtain ⟨a, b, h1, h2, h3⟩ := h
  exact f a b h3
theorem Wi.of {lo hi : Nat} {P : Nat → Nat → Prop} (h : ∀ a b, P a b) (_ : lo ≤ hi) : Wi lo hi P := ⟨lo, hi, Nat.le_refl _, Nat.le_refl _, h lo hi⟩
theorem Wi.wide {lo hi lo2 hi2 : Nat} {P : Nat → Nat → Prop} (h : Wi lo hi P) (h1 : lo2 ≤ lo) (h2 : hi ≤ hi2) : Wi lo2 hi2 P := by
  obtain ⟨a, b, h3, h4, h5⟩ := h
  exact ⟨a, b, Nat.le_trans h1 h3, Nat.le_trans h4 h2, h5⟩
/-- All old blocks but those from lo up to hi are as they were. -/
def Rest (lo hi : Nat) (w w' : World) : Prop := w.heap.size ≤ w'.heap.size ∧ ∀ b, b < w.heap.size → (b < lo ∨ hi ≤ b) → w'.heap[b]? = w.heap[b]?
theorem Rest.refl (lo hi : Nat) (w : World) : Rest lo hi w w := ⟨Nat.le_refl _, fun _ _ _ => rfl⟩
theorem Rest.set {lo hi : Nat} {w0 w : World} {p j : Nat} {u : Value} (h : Rest lo hi w0 w) (h1 : lo ≤ p) (h2 : p < hi) : Rest lo hi w0 (w.setCell ⟨p, j, none⟩ u) :=
  ⟨by simpa using h.1, fun b hb hor => by rw [heap_setCell_other _ _ _ _ (by simp; omega)]; exact h.2 b hb hor⟩
theorem ExIn.rest {w w' : World} {d : Nat} {v : Value} {t : Ex} {lo hi lo2 hi2 : Nat} (h : ExIn w d v t lo hi) (k : Rest lo2 hi2 w w') (hd : hi ≤ lo2 ∨ hi2 ≤ lo) : ExIn w' d v t lo hi := by
  obtain ⟨fp, h, hf, hz⟩ := h
  exact ⟨fp, h.kept k.1 fun b hbf => k.2 b (by have := (hf.2 b hbf).2; omega) (by have := hf.2 b hbf; omega), hf, Nat.le_trans hz k.1⟩
theorem IntsIn.rest {w w' : World} {v : Value} {ns : List Int} {lo hi lo2 hi2 : Nat} (h : IntsIn w v ns lo hi) (k : Rest lo2 hi2 w w') (hd : hi ≤ lo2 ∨ hi2 ≤ lo) : IntsIn w' v ns lo hi :=
  ⟨own_keeps h.1 fun b hb => k.2 b (h.1.lt b hb).2 (by have h1 := h.2.1 b hb; have h2 := (h.1.lt b hb).1; omega), h.2.1, Nat.le_trans h.2.2 k.1⟩
/-- Cells written one after another into block p, from cell j on. -/
def allStored (p : Nat) : Nat → List Value → World → World
  | _, [], w => w
  | j, u :: r, w => allStored p (j + 1) r (w.setCell ⟨p, j, none⟩ u)
theorem BoxAt.storeAll {p : Nat} : ∀ (us old pre rest : List Value) (w : World), BoxAt w p (pre ++ (old ++ rest)).toArray → us.length = old.length → BoxAt (allStored p pre.length us w) p (pre ++ (us ++ rest)).toArray
  | [], [], pre, rest, w, h, _ => h
  | [], _ :: _, _, _, _, _, h => by simp at h
  | _ :: _, [], _, _, _, _, h => by simp at h
  | u :: r, o :: s, pre, rest, w, h, hl => by
    have h1 := h.put (j := pre.length) (u := u) (by simp)
    have e1 : (pre ++ (o :: s ++ rest)).toArray.setIfInBounds pre.length u = ((pre ++ [u]) ++ (s ++ rest)).toArray := by simp
    rw [e1] at h1
    have h2 := BoxAt.storeAll r s (pre ++ [u]) rest _ h1 (by simpa using hl)
    rw [List.append_assoc, List.length_append] at h2
    exact h2
theorem BoxAt.besideAll {p q : Nat} {cs : Array Value} : ∀ (us : List Value) (j : Nat) (w : World), BoxAt w q cs → q ≠ p → BoxAt (allStored p j us w) q cs
  | [], _, _, h, _ => h
  | _ :: r, _, _, h, hne => BoxAt.besideAll r _ _ (h.stored hne) hne
theorem FreeAt.storeAll {p q : Nat} : ∀ (us : List Value) (j : Nat) (w : World), FreeAt w q → FreeAt (allStored p j us w) q
  | [], _, _, h => h
  | _ :: r, _, _, h => FreeAt.storeAll r _ _ h.put
theorem Rest.storeAll {lo hi p : Nat} {w0 : World} : ∀ (us : List Value) (j : Nat) (w : World), Rest lo hi w0 w → lo ≤ p → p < hi → Rest lo hi w0 (allStored p j us w)
  | [], _, _, h, _, _ => h
  | _ :: r, _, _, h, h1, h2 => Rest.storeAll r _ _ (h.set h1 h2) h1 h2
theorem Below.storeAll {B p : Nat} {w0 : World} : ∀ (us : List Value) (j : Nat) (w : World), Below B w0 w → B ≤ p → Below B w0 (allStored p j us w)
  | [], _, _, h, _ => h
  | _ :: r, _, _, h, h1 => Below.storeAll r _ _ (h.setCell (p := ⟨p, _, none⟩) h1 _) h1
theorem size_storeAll {p : Nat} : ∀ (us : List Value) (j : Nat) (w : World), (allStored p j us w).heap.size = w.heap.size
  | [], _, _ => rfl
  | _ :: r, _, w => by rw [show allStored p _ (_ :: r) w = allStored p _ r _ from rfl, size_storeAll r]; simp
/-- A path: numbers; the depth counts for nothing. -/
def PathAt (w : World) (_ : Nat) (v : Value) (x : List Int) : Prop := Ints w v x ∧ x.length ≤ 9223372036854775807
def PathIn (w : World) (_ : Nat) (v : Value) (x : List Int) (lo hi : Nat) : Prop := IntsIn w v x lo hi ∧ x.length ≤ 9223372036854775807
theorem PathAt.below {w w' : World} {d : Nat} {v : Value} {x : List Int} (h : PathAt w d v x) (hb : Below w.heap.size w w') : PathAt w' d v x := ⟨h.1.below hb, h.2⟩
theorem PathAt.mono {w : World} {d d' : Nat} {v : Value} {x : List Int} (h : PathAt w d v x) (_ : d ≤ d') : PathAt w d' v x := h
theorem path_parts {w : World} {d : Nat} {v : Value} {x : List Int} (h : PathAt w d v x) : ∃ a n c, v = .slice a n c := by
  obtain ⟨⟨a, c, rfl, _⟩, _⟩ := h
  exact ⟨_, _, _, rfl⟩
theorem PathIn.at_ {w : World} {d : Nat} {v : Value} {x : List Int} {lo hi : Nat} (h : PathIn w d v x lo hi) : PathAt w d v x := ⟨h.1.ints, h.2⟩
theorem PathIn.below {w w' : World} {d : Nat} {v : Value} {x : List Int} {lo hi : Nat} (h : PathIn w d v x lo hi) (hb : Below w.heap.size w w') : PathIn w' d v x lo hi := ⟨h.1.below hb, h.2⟩
theorem PathIn.rest {w w' : World} {d : Nat} {v : Value} {x : List Int} {lo hi lo2 hi2 : Nat} (h : PathIn w d v x lo hi) (kp : Rest lo2 hi2 w w') (hd : hi ≤ lo2 ∨ hi2 ≤ lo) : PathIn w' d v x lo hi := ⟨h.1.rest kp hd, h.2⟩
theorem szPath (d : Nat) (v : Value) (x : List Int) (left : Int) (w : World) (hl0 : 0 ≤ left) (hl1 : left ≤ 1048576) (h : PathAt w d v x) :
    Calls Try.prog 116 #[v, .int .i64 left] w (SzTyEnd x.length left w) := by
  have hn := h.2
  obtain ⟨⟨a, cap, rfl, hcap, hat⟩, _⟩ := h
  clear hat
  by_cases hneg : left - (x.length : Int) < 0
  · go_enter Try.func116, Try.ntmps116
    go_wp2_with fail
    go_ret
    exact ⟨-1, rfl, Below.refl _ _, Or.inl ⟨by omega, by omega⟩⟩
  · go_enter Try.func116, Try.ntmps116
    go_wp2_with fail
    go_ret
    exact ⟨left - x.length, rfl, Below.refl _ _, Or.inr ⟨by omega, by omega⟩⟩
theorem toPath (d : Nat) (v : Value) (x : List Int) (w : World) (hn : x.length ≤ 1048576) (h : PathAt w d v x) :
    Calls Try.prog 118 #[v] w fun e w' => ∃ v' fp, e = .returned v' ∧ PathIn w' d v' x w.heap.size w'.heap.size ∧ fp = ([] : List Nat) ∧ Below w.heap.size w w' := by
  refine (toInts v x hn w h.1).mono ?_
  rintro e w' ⟨v', rfl, hrow, hb⟩
  exact ⟨v', [], rfl, ⟨IntsIn.of hrow (Nat.le_refl _), h.2⟩, rfl, hb⟩
theorem eqPath (d : Nat) (v1 v2 : Value) (x : List Int) (w : World) (h : PathAt w d v1 x) (h' : PathAt w d v2 x) :
    Calls Try.prog 122 #[v1, v2] w (EqTrueEnd w) := eqInts v1 v2 x h.2 w h.1 h'.1
theorem szExr (d : Nat) (v : Value) (x : Ex) (left : Int) (w : World) (hl0 : 0 ≤ left) (hl1 : left ≤ 1048576) (h : ExAt w d v x) :
    Calls Try.prog 10 #[v, .int .i64 left] w (SzTyEnd x.bulk left w) := szEx_all d v x left w hl0 hl1 h
theorem toExr (d : Nat) (v : Value) (x : Ex) (w : World) (hn : x.bulk ≤ 1048576) (h : ExAt w d v x) :
    Calls Try.prog 12 #[v] w fun e w' => ∃ v' fp, e = .returned v' ∧ ExIn w' d v' x w.heap.size w'.heap.size ∧ fp = ([] : List Nat) ∧ Below w.heap.size w w' := by
  refine ((toEx_all d).1 v x w hn h).mono ?_
  rintro e w' ⟨v', fp, rfl, ht, hf, hb⟩
  exact ⟨v', [], rfl, ⟨fp, ht, hf, Nat.le_refl _⟩, rfl, hb⟩
theorem eqExr (d : Nat) (v1 v2 : Value) (x : Ex) (w : World) (h : ExAt w d v1 x) (h' : ExAt w d v2 x) :
    Calls Try.prog 15 #[v1, v2] w (EqTrueEnd w) := eqEx_all d v1 v2 x w h h'
end Go.Proofs.Ytcohfbdhdngplaa
