/-
  Proved: plain facts on scalars and environments as fields of a record.
-/
import Derived.Test.YtajikfageppobaaRecBase
import Derived.Test.YtajikfageppobaaToCore
import Derived.Test.YtajikfageppobaaSzCore
import Derived.Test.YtajikfageppobaaEqCore
import Derived.Test.YtajikfageppobaaCbsForm
import Derived.Test.YtajikfageppobaaCoreArg
namespace Go.Proofs.Ytajikfageppobaa
open Go.RowKit

def IntAt (_ : World) (_ : Nat) (v : Value) (x : Int) : Prop := v = .int .i64 x
def IntIn (_ : World) (_ : Nat) (v : Value) (x : Int) (_ _ : Nat) : Prop := v = .int .i64 x
theorem IntAt.below {w w' : World} {d : Nat} {v : Value} {x : Int} (h : IntAt w d v x) (_ : Below w.heap.size w w') : IntAt w' d v x := h
theorem IntAt.mono {w : World} {d d' : Nat} {v : Value} {x : Int} (h : IntAt w d v x) (_ : d ≤ d') : IntAt w d' v x := h
theorem IntIn.at_ {w : World} {d : Nat} {v : Value} {x : Int} {lo hi : Nat} (h : IntIn w d v x lo hi) : IntAt w d v x := h
theorem IntIn.below {w w' : World} {d : Nat} {v : Value} {x : Int} {lo hi : Nat} (h : IntIn w d v x lo hi) (_ : Below w.heap.size w w') : IntIn w' d v x lo hi := h
theorem IntIn.rest {w w' : World} {d : Nat} {v : Value} {x : Int} {lo hi lo2 hi2 : Nat} (h : IntIn w d v x lo hi) (_ : Rest lo2 hi2 w w') (_ : hi ≤ lo2 ∨ hi2 ≤ lo) : IntIn w' d v x lo hi := h
theorem int_parts {w : World} {d : Nat} {v : Value} {x : Int} (h : IntAt w d v x) : ∃ x, v = .int .i64 x := ⟨x, h⟩
def BoolAt (_ : World) (_ : Nat) (v : Value) (x : Bool) : Prop := v = .bool x
def BoolIn (_ : World) (_ : Nat) (v : Value) (x : Bool) (_ _ : Nat) : Prop := v = .bool x
theorem BoolAt.below {w w' : World} {d : Nat} {v : Value} {x : Bool} (h : BoolAt w d v x) (_ : Below w.heap.size w w') : BoolAt w' d v x := h
theorem BoolAt.mono {w : World} {d d' : Nat} {v : Value} {x : Bool} (h : BoolAt w d v x) (_ : d ≤ d') : BoolAt w d' v x := h
theorem BoolIn.at_ {w : World} {d : Nat} {v : Value} {x : Bool} {lo hi : Nat} (h : BoolIn w d v x lo hi) : BoolAt w d v x := h
theorem BoolIn.below {w w' : World} {d : Nat} {v : Value} {x : Bool} {lo hi : Nat} (h : BoolIn w d v x lo hi) (_ : Below w.heap.size w w') : BoolIn w' d v x lo hi := h
theorem BoolIn.rest {w w' : World} {d : Nat} {v : Value} {x : Bool} {lo hi lo2 hi2 : Nat} (h : BoolIn w d v x lo hi) (_ : Rest lo2 hi2 w w') (_ : hi ≤ lo2 ∨ hi2 ≤ lo) : BoolIn w' d v x lo hi := h
theorem bool_parts {w : World} {d : Nat} {v : Value} {x : Bool} (h : BoolAt w d v x) : ∃ x, v = .bool x := ⟨x, h⟩
/-- An environment: its names, its values. -/
structure Envi where
  ns : List ByteArray
  vs : List Co
def Envi.bulk (x : Envi) : Nat := txs x.ns + Co.bulks x.vs
def EnvAt (w : World) (d : Nat) (v : Value) (x : Envi) : Prop := CbsAt w d v x.ns x.vs
def EnvIn (w : World) (d : Nat) (v : Value) (x : Envi) (lo hi : Nat) : Prop := ∃ fp, CbsOwn w d v x.ns x.vs fp ∧ Fp lo hi fp ∧ hi ≤ w.heap.size
theorem EnvAt.below {w w' : World} {d : Nat} {v : Value} {x : Envi} (h : EnvAt w d v x) (hb : Below w.heap.size w w') : EnvAt w' d v x := CbsAt.below h hb
theorem env_parts {w : World} {d : Nat} {v : Value} {x : Envi} (h : EnvAt w d v x) : ∃ a n c, v = .slice a n c := cbs_form h
theorem EnvIn.at_ {w : World} {d : Nat} {v : Value} {x : Envi} {lo hi : Nat} (h : EnvIn w d v x lo hi) : EnvAt w d v x := by obtain ⟨fp, h, _⟩ := h; exact CbsOwn.at_ h
theorem EnvIn.below {w w' : World} {d : Nat} {v : Value} {x : Envi} {lo hi : Nat} (h : EnvIn w d v x lo hi) (hb : Below w.heap.size w w') : EnvIn w' d v x lo hi := by
  obtain ⟨fp, h, hf, hz⟩ := h
  exact ⟨fp, CbsOwn.kept h hb.size fun b hbf => hb.block b (Nat.lt_of_lt_of_le (hf.2 b hbf).2 hz), hf, Nat.le_trans hz hb.size⟩
theorem EnvIn.rest {w w' : World} {d : Nat} {v : Value} {x : Envi} {lo hi lo2 hi2 : Nat} (h : EnvIn w d v x lo hi) (k : Rest lo2 hi2 w w') (hd : hi ≤ lo2 ∨ hi2 ≤ lo) : EnvIn w' d v x lo hi := by
  obtain ⟨fp, h, hf, hz⟩ := h
  exact ⟨fp, CbsOwn.kept h k.1 fun b hbf => k.2 b (by have := (hf.2 b hbf).2; omega) (by have := hf.2 b hbf; omega), hf, Nat.le_trans hz k.1⟩
theorem szEnv (d : Nat) (v : Value) (x : Envi) (left : Int) (w : World) (hl0 : 0 ≤ left) (hl1 : left ≤ 1048576) (h : EnvAt w d v x) :
    Calls Try.prog 54 #[v, .int .i64 left] w (SzTyEnd x.bulk left w) := szCbs_all d v x.ns x.vs left w hl0 hl1 h
theorem toEnv (d : Nat) (v : Value) (x : Envi) (w : World) (hn : x.bulk ≤ 1048576) (h : EnvAt w d v x) :
    Calls Try.prog 56 #[v] w fun e w' => ∃ v' fp, e = .returned v' ∧ EnvIn w' d v' x w.heap.size w'.heap.size ∧ fp = ([] : List Nat) ∧ Below w.heap.size w w' := by
  refine ((toCo_all d).2.2 v x.ns x.vs w (by unfold Envi.bulk at hn; omega) h).mono ?_
  rintro e w' ⟨v', fp, rfl, ht, hf, hb⟩
  exact ⟨v', [], rfl, ⟨fp, ht, hf, Nat.le_refl _⟩, rfl, hb⟩
theorem eqEnv (d : Nat) (v1 v2 : Value) (x : Envi) (w : World) (h : EnvAt w d v1 x) (h' : EnvAt w d v2 x) :
    Calls Try.prog 58 #[v1, v2] w (EqTrueEnd w) := eqCbs_all d v1 v2 x.ns x.vs w h h'
theorem EnvAt.mono {w : World} {d d' : Nat} {v : Value} {x : Envi} (h : EnvAt w d v x) (hd : d ≤ d') : EnvAt w d' v x := CbsAt.mono h hd
end Go.Proofs.Ytajikfageppobaa
