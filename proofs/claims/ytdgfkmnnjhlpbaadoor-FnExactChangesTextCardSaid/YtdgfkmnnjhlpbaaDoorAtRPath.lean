/-
  Proved: paths whose numbers an int holds, as fields of a record.
-/
import Derived.Test.YtdgfkmnnjhlpbaaDoorRecBase
namespace Go.Proofs.YtdgfkmnnjhlpbaaDoor
open Go.RowKit

def i64r (ns : List Int) : Prop := ∀ n ∈ ns, -9223372036854775808 ≤ n ∧ n ≤ 9223372036854775807
def RPathAt (w : World) (d : Nat) (v : Value) (x : List Int) : Prop := PathAt w d v x ∧ i64r x
def RPathIn (w : World) (d : Nat) (v : Value) (x : List Int) (lo hi : Nat) : Prop := PathIn w d v x lo hi ∧ i64r x
theorem RPathAt.below {w w' : World} {d : Nat} {v : Value} {x : List Int} (h : RPathAt w d v x) (hb : Below w.heap.size w w') : RPathAt w' d v x := ⟨h.1.below hb, h.2⟩
theorem RPathAt.mono {w : World} {d d' : Nat} {v : Value} {x : List Int} (h : RPathAt w d v x) (hd : d ≤ d') : RPathAt w d' v x := ⟨h.1.mono hd, h.2⟩
theorem rpath_parts {w : World} {d : Nat} {v : Value} {x : List Int} (h : RPathAt w d v x) : ∃ a n c, v = .slice a n c := path_parts h.1
theorem RPathIn.at_ {w : World} {d : Nat} {v : Value} {x : List Int} {lo hi : Nat} (h : RPathIn w d v x lo hi) : RPathAt w d v x := ⟨h.1.at_, h.2⟩
theorem RPathIn.below {w w' : World} {d : Nat} {v : Value} {x : List Int} {lo hi : Nat} (h : RPathIn w d v x lo hi) (hb : Below w.heap.size w w') : RPathIn w' d v x lo hi := ⟨h.1.below hb, h.2⟩
theorem RPathIn.rest {w w' : World} {d : Nat} {v : Value} {x : List Int} {lo hi lo2 hi2 : Nat} (h : RPathIn w d v x lo hi) (kp : Rest lo2 hi2 w w') (hd : hi ≤ lo2 ∨ hi2 ≤ lo) : RPathIn w' d v x lo hi := ⟨h.1.rest kp hd, h.2⟩
theorem szRPath (d : Nat) (v : Value) (x : List Int) (left : Int) (w : World) (hl0 : 0 ≤ left) (hl1 : left ≤ 1048576) (h : RPathAt w d v x) :
    Calls Tryd.prog 114 #[v, .int .i64 left] w (SzTyEnd x.length left w) := szPath d v x left w hl0 hl1 h.1
theorem toRPath (d : Nat) (v : Value) (x : List Int) (w : World) (hn : x.length ≤ 1048576) (h : RPathAt w d v x) :
    Calls Tryd.prog 45 #[v] w fun e w' => ∃ v' fp, e = .returned v' ∧ RPathIn w' d v' x w.heap.size w'.heap.size ∧ fp = ([] : List Nat) ∧ Below w.heap.size w w' := by
  refine (toPath d v x w hn h.1).mono ?_
  rintro e w' ⟨v', fp, he, hp, hf, hb⟩
  exact ⟨v', fp, he, ⟨hp, h.2⟩, hf, hb⟩
theorem eqRPath (d : Nat) (v1 v2 : Value) (x : List Int) (w : World) (h : RPathAt w d v1 x) (h' : RPathAt w d v2 x) :
    Calls Tryd.prog 47 #[v1, v2] w (EqTrueEnd w) := eqPath d v1 v2 x w h.1 h'.1
end Go.Proofs.YtdgfkmnnjhlpbaaDoor
