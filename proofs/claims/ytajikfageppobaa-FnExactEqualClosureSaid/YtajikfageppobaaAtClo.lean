/-
  Proved: how a value of the kind Closure lies in memory; plain facts.
-/
import Derived.Test.YtajikfageppobaaEnvBase
namespace Go.Proofs.Ytajikfageppobaa
open Go.RowKit

structure Clo where
  num : Int
  mark : Bool
  env : Envi
def Clo.bulk (x : Clo) : Nat := x.env.bulk
def CloAt (w : World) (d : Nat) (v : Value) (x : Clo) : Prop :=
  ∃ pbi pcb pda pdn pdc, v = .agg #[.int .i64 pbi, .bool pcb, .slice pda pdn pdc] ∧ IntAt w d (.int .i64 pbi) x.num ∧ BoolAt w d (.bool pcb) x.mark ∧ EnvAt w d (.slice pda pdn pdc) x.env
def CloIn (w : World) (d : Nat) (v : Value) (x : Clo) (lo hi : Nat) : Prop :=
  ∃ pbi pcb pda pdn pdc, v = .agg #[.int .i64 pbi, .bool pcb, .slice pda pdn pdc] ∧ Wi lo hi (IntIn w d (.int .i64 pbi) x.num) ∧ Wi lo hi (BoolIn w d (.bool pcb) x.mark) ∧ Wi lo hi (EnvIn w d (.slice pda pdn pdc) x.env)
theorem CloAt.below {w w' : World} {d : Nat} {v : Value} {x : Clo} (h : CloAt w d v x) (hb : Below w.heap.size w w') : CloAt w' d v x := by
  obtain ⟨pbi, pcb, pda, pdn, pdc, hv, h1, h2, h3⟩ := h
  exact ⟨pbi, pcb, pda, pdn, pdc, hv, h1.below hb, h2.below hb, h3.below hb⟩
theorem CloAt.mono {w : World} {d d' : Nat} {v : Value} {x : Clo} (h : CloAt w d v x) (hd : d ≤ d') : CloAt w d' v x := by
  obtain ⟨pbi, pcb, pda, pdn, pdc, hv, h1, h2, h3⟩ := h
  exact ⟨pbi, pcb, pda, pdn, pdc, hv, h1.mono hd, h2.mono hd, h3.mono hd⟩
theorem clo_parts {w : World} {d : Nat} {v : Value} {x : Clo} (h : CloAt w d v x) : ∃ pbi pcb pda pdn pdc, v = .agg #[.int .i64 pbi, .bool pcb, .slice pda pdn pdc] := by
  obtain ⟨pbi, pcb, pda, pdn, pdc, hv, h1, h2, h3⟩ := h
  exact ⟨pbi, pcb, pda, pdn, pdc, hv⟩
theorem CloIn.at_ {w : World} {d : Nat} {v : Value} {x : Clo} {lo hi : Nat} (h : CloIn w d v x lo hi) : CloAt w d v x := by
  obtain ⟨pbi, pcb, pda, pdn, pdc, hv, h1, h2, h3⟩ := h
  exact ⟨pbi, pcb, pda, pdn, pdc, hv, h1.at_ fun _ _ h => h.at_, h2.at_ fun _ _ h => h.at_, h3.at_ fun _ _ h => h.at_⟩
theorem CloIn.below {w w' : World} {d : Nat} {v : Value} {x : Clo} {lo hi : Nat} (h : CloIn w d v x lo hi) (hb : Below w.heap.size w w') : CloIn w' d v x lo hi := by
  obtain ⟨pbi, pcb, pda, pdn, pdc, hv, h1, h2, h3⟩ := h
  exact ⟨pbi, pcb, pda, pdn, pdc, hv, h1.map fun _ _ _ _ h => h.below hb, h2.map fun _ _ _ _ h => h.below hb, h3.map fun _ _ _ _ h => h.below hb⟩
theorem CloIn.rest {w w' : World} {d : Nat} {v : Value} {x : Clo} {lo hi lo2 hi2 : Nat} (h : CloIn w d v x lo hi) (kp : Rest lo2 hi2 w w') (hd : hi ≤ lo2 ∨ hi2 ≤ lo) : CloIn w' d v x lo hi := by
  obtain ⟨pbi, pcb, pda, pdn, pdc, hv, h1, h2, h3⟩ := h
  exact ⟨pbi, pcb, pda, pdn, pdc, hv, h1.map fun _ _ _ _ h => h.rest kp (by omega), h2.map fun _ _ _ _ h => h.rest kp (by omega), h3.map fun _ _ _ _ h => h.rest kp (by omega)⟩
end Go.Proofs.Ytajikfageppobaa
