/-
  Proved: how a value of the kind History lies in memory; plain facts.
-/
import Derived.Test.YtcohfbdhdngplaaAtEdts
import Derived.Test.YtcohfbdhdngplaaAtEdt
namespace Go.Proofs.Ytcohfbdhdngplaa
open Go.RowKit

structure His where
  past : List Edt
  now : Edt
  next : List Edt
def His.bulk (x : His) : Nat := Edt.bulks x.past + x.now.bulk + Edt.bulks x.next
def HisAt (w : World) (d : Nat) (v : Value) (x : His) : Prop :=
  ∃ pba pbn pbc pcbk pcbnm pcbm pcbtk pcbta pcbtn pcbtc pcbsa pcbsn pcbsc pcca pccn pccc pda pdn pdc, v = .agg #[.slice pba pbn pbc, .int .i64 pcbk, .string pcbnm, .int .i64 pcbm, .int .i64 pcbtk, .slice pcbta pcbtn pcbtc, .slice pcbsa pcbsn pcbsc, .slice pcca pccn pccc, .slice pda pdn pdc] ∧ EdtsAt w d (.slice pba pbn pbc) x.past ∧ EdtAt w d (.agg #[.int .i64 pcbk, .string pcbnm, .int .i64 pcbm, .int .i64 pcbtk, .slice pcbta pcbtn pcbtc, .slice pcbsa pcbsn pcbsc, .slice pcca pccn pccc]) x.now ∧ EdtsAt w d (.slice pda pdn pdc) x.next
def HisIn (w : World) (d : Nat) (v : Value) (x : His) (lo hi : Nat) : Prop :=
  ∃ pba pbn pbc pcbk pcbnm pcbm pcbtk pcbta pcbtn pcbtc pcbsa pcbsn pcbsc pcca pccn pccc pda pdn pdc, v = .agg #[.slice pba pbn pbc, .int .i64 pcbk, .string pcbnm, .int .i64 pcbm, .int .i64 pcbtk, .slice pcbta pcbtn pcbtc, .slice pcbsa pcbsn pcbsc, .slice pcca pccn pccc, .slice pda pdn pdc] ∧ Wi lo hi (EdtsIn w d (.slice pba pbn pbc) x.past) ∧ Wi lo hi (EdtIn w d (.agg #[.int .i64 pcbk, .string pcbnm, .int .i64 pcbm, .int .i64 pcbtk, .slice pcbta pcbtn pcbtc, .slice pcbsa pcbsn pcbsc, .slice pcca pccn pccc]) x.now) ∧ Wi lo hi (EdtsIn w d (.slice pda pdn pdc) x.next)
theorem HisAt.below {w w' : World} {d : Nat} {v : Value} {x : His} (h : HisAt w d v x) (hb : Below w.heap.size w w') : HisAt w' d v x := by
  obtain ⟨pba, pbn, pbc, pcbk, pcbnm, pcbm, pcbtk, pcbta, pcbtn, pcbtc, pcbsa, pcbsn, pcbsc, pcca, pccn, pccc, pda, pdn, pdc, hv, h1, h2, h3⟩ := h
  exact ⟨pba, pbn, pbc, pcbk, pcbnm, pcbm, pcbtk, pcbta, pcbtn, pcbtc, pcbsa, pcbsn, pcbsc, pcca, pccn, pccc, pda, pdn, pdc, hv, h1.below hb, h2.below hb, h3.below hb⟩
theorem HisAt.mono {w : World} {d d' : Nat} {v : Value} {x : His} (h : HisAt w d v x) (hd : d ≤ d') : HisAt w d' v x := by
  obtain ⟨pba, pbn, pbc, pcbk, pcbnm, pcbm, pcbtk, pcbta, pcbtn, pcbtc, pcbsa, pcbsn, pcbsc, pcca, pccn, pccc, pda, pdn, pdc, hv, h1, h2, h3⟩ := h
  exact ⟨pba, pbn, pbc, pcbk, pcbnm, pcbm, pcbtk, pcbta, pcbtn, pcbtc, pcbsa, pcbsn, pcbsc, pcca, pccn, pccc, pda, pdn, pdc, hv, h1.mono hd, h2.mono hd, h3.mono hd⟩
theorem his_parts {w : World} {d : Nat} {v : Value} {x : His} (h : HisAt w d v x) : ∃ pba pbn pbc pcbk pcbnm pcbm pcbtk pcbta pcbtn pcbtc pcbsa pcbsn pcbsc pcca pccn pccc pda pdn pdc, v = .agg #[.slice pba pbn pbc, .int .i64 pcbk, .string pcbnm, .int .i64 pcbm, .int .i64 pcbtk, .slice pcbta pcbtn pcbtc, .slice pcbsa pcbsn pcbsc, .slice pcca pccn pccc, .slice pda pdn pdc] := by
  obtain ⟨pba, pbn, pbc, pcbk, pcbnm, pcbm, pcbtk, pcbta, pcbtn, pcbtc, pcbsa, pcbsn, pcbsc, pcca, pccn, pccc, pda, pdn, pdc, hv, h1, h2, h3⟩ := h
  exact ⟨pba, pbn, pbc, pcbk, pcbnm, pcbm, pcbtk, pcbta, pcbtn, pcbtc, pcbsa, pcbsn, pcbsc, pcca, pccn, pccc, pda, pdn, pdc, hv⟩
theorem HisIn.at_ {w : World} {d : Nat} {v : Value} {x : His} {lo hi : Nat} (h : HisIn w d v x lo hi) : HisAt w d v x := by
  obtain ⟨pba, pbn, pbc, pcbk, pcbnm, pcbm, pcbtk, pcbta, pcbtn, pcbtc, pcbsa, pcbsn, pcbsc, pcca, pccn, pccc, pda, pdn, pdc, hv, h1, h2, h3⟩ := h
  exact ⟨pba, pbn, pbc, pcbk, pcbnm, pcbm, pcbtk, pcbta, pcbtn, pcbtc, pcbsa, pcbsn, pcbsc, pcca, pccn, pccc, pda, pdn, pdc, hv, h1.at_ fun _ _ h => h.at_, h2.at_ fun _ _ h => h.at_, h3.at_ fun _ _ h => h.at_⟩
theorem HisIn.below {w w' : World} {d : Nat} {v : Value} {x : His} {lo hi : Nat} (h : HisIn w d v x lo hi) (hb : Below w.heap.size w w') : HisIn w' d v x lo hi := by
  obtain ⟨pba, pbn, pbc, pcbk, pcbnm, pcbm, pcbtk, pcbta, pcbtn, pcbtc, pcbsa, pcbsn, pcbsc, pcca, pccn, pccc, pda, pdn, pdc, hv, h1, h2, h3⟩ := h
  exact ⟨pba, pbn, pbc, pcbk, pcbnm, pcbm, pcbtk, pcbta, pcbtn, pcbtc, pcbsa, pcbsn, pcbsc, pcca, pccn, pccc, pda, pdn, pdc, hv, h1.map fun _ _ _ _ h => h.below hb, h2.map fun _ _ _ _ h => h.below hb, h3.map fun _ _ _ _ h => h.below hb⟩
theorem HisIn.rest {w w' : World} {d : Nat} {v : Value} {x : His} {lo hi lo2 hi2 : Nat} (h : HisIn w d v x lo hi) (kp : Rest lo2 hi2 w w') (hd : hi ≤ lo2 ∨ hi2 ≤ lo) : HisIn w' d v x lo hi := by
  obtain ⟨pba, pbn, pbc, pcbk, pcbnm, pcbm, pcbtk, pcbta, pcbtn, pcbtc, pcbsa, pcbsn, pcbsc, pcca, pccn, pccc, pda, pdn, pdc, hv, h1, h2, h3⟩ := h
  exact ⟨pba, pbn, pbc, pcbk, pcbnm, pcbm, pcbtk, pcbta, pcbtn, pcbtc, pcbsa, pcbsn, pcbsc, pcca, pccn, pccc, pda, pdn, pdc, hv, h1.map fun _ _ _ _ h => h.rest kp (by omega), h2.map fun _ _ _ _ h => h.rest kp (by omega), h3.map fun _ _ _ _ h => h.rest kp (by omega)⟩
end Go.Proofs.Ytcohfbdhdngplaa
