/-
  Proved: how a value of the kind Conflict lies in memory; plain facts.
-/
import Derived.Test.YtajikfageppobaaRecBase
namespace Go.Proofs.Ytajikfageppobaa
open Go.RowKit

structure Cfl where
  ours : List Int
  theirs : List Int
def Cfl.bulk (x : Cfl) : Nat := x.ours.length + x.theirs.length
def CflAt (w : World) (d : Nat) (v : Value) (x : Cfl) : Prop :=
  ∃ pba pbn pbc pca pcn pcc, v = .agg #[.slice pba pbn pbc, .slice pca pcn pcc] ∧ PathAt w d (.slice pba pbn pbc) x.ours ∧ PathAt w d (.slice pca pcn pcc) x.theirs
def CflIn (w : World) (d : Nat) (v : Value) (x : Cfl) (lo hi : Nat) : Prop :=
  ∃ pba pbn pbc pca pcn pcc, v = .agg #[.slice pba pbn pbc, .slice pca pcn pcc] ∧ Wi lo hi (PathIn w d (.slice pba pbn pbc) x.ours) ∧ Wi lo hi (PathIn w d (.slice pca pcn pcc) x.theirs)
theorem CflAt.below {w w' : World} {d : Nat} {v : Value} {x : Cfl} (h : CflAt w d v x) (hb : Below w.heap.size w w') : CflAt w' d v x := by
  obtain ⟨pba, pbn, pbc, pca, pcn, pcc, hv, h1, h2⟩ := h
  exact ⟨pba, pbn, pbc, pca, pcn, pcc, hv, h1.below hb, h2.below hb⟩
theorem CflAt.mono {w : World} {d d' : Nat} {v : Value} {x : Cfl} (h : CflAt w d v x) (hd : d ≤ d') : CflAt w d' v x := by
  obtain ⟨pba, pbn, pbc, pca, pcn, pcc, hv, h1, h2⟩ := h
  exact ⟨pba, pbn, pbc, pca, pcn, pcc, hv, h1.mono hd, h2.mono hd⟩
theorem cfl_parts {w : World} {d : Nat} {v : Value} {x : Cfl} (h : CflAt w d v x) : ∃ pba pbn pbc pca pcn pcc, v = .agg #[.slice pba pbn pbc, .slice pca pcn pcc] := by
  obtain ⟨pba, pbn, pbc, pca, pcn, pcc, hv, h1, h2⟩ := h
  exact ⟨pba, pbn, pbc, pca, pcn, pcc, hv⟩
theorem CflIn.at_ {w : World} {d : Nat} {v : Value} {x : Cfl} {lo hi : Nat} (h : CflIn w d v x lo hi) : CflAt w d v x := by
  obtain ⟨pba, pbn, pbc, pca, pcn, pcc, hv, h1, h2⟩ := h
  exact ⟨pba, pbn, pbc, pca, pcn, pcc, hv, h1.at_ fun _ _ h => h.at_, h2.at_ fun _ _ h => h.at_⟩
theorem CflIn.below {w w' : World} {d : Nat} {v : Value} {x : Cfl} {lo hi : Nat} (h : CflIn w d v x lo hi) (hb : Below w.heap.size w w') : CflIn w' d v x lo hi := by
  obtain ⟨pba, pbn, pbc, pca, pcn, pcc, hv, h1, h2⟩ := h
  exact ⟨pba, pbn, pbc, pca, pcn, pcc, hv, h1.map fun _ _ _ _ h => h.below hb, h2.map fun _ _ _ _ h => h.below hb⟩
theorem CflIn.rest {w w' : World} {d : Nat} {v : Value} {x : Cfl} {lo hi lo2 hi2 : Nat} (h : CflIn w d v x lo hi) (kp : Rest lo2 hi2 w w') (hd : hi ≤ lo2 ∨ hi2 ≤ lo) : CflIn w' d v x lo hi := by
  obtain ⟨pba, pbn, pbc, pca, pcn, pcc, hv, h1, h2⟩ := h
  exact ⟨pba, pbn, pbc, pca, pcn, pcc, hv, h1.map fun _ _ _ _ h => h.rest kp (by omega), h2.map fun _ _ _ _ h => h.rest kp (by omega)⟩
end Go.Proofs.Ytajikfageppobaa
