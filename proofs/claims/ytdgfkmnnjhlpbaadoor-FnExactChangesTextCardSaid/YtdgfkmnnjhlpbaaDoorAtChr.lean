/-
  Proved: how a value of the kind Change lies in memory; plain facts.
-/
import Derived.Test.YtdgfkmnnjhlpbaaDoorAtRPath
import Derived.Test.YtdgfkmnnjhlpbaaDoorRecBase
namespace Go.Proofs.YtdgfkmnnjhlpbaaDoor
open Go.RowKit

structure Chr where
  path : List Int
  ex : Ex
def Chr.bulk (x : Chr) : Nat := x.path.length + x.ex.bulk
def ChrAt (w : World) (d : Nat) (v : Value) (x : Chr) : Prop :=
  ∃ pba pbn pbc pck pcnm pcm pctk pcta pctn pctc pcsa pcsn pcsc, v = .agg #[.slice pba pbn pbc, .int .i64 pck, .string pcnm, .int .i64 pcm, .int .i64 pctk, .slice pcta pctn pctc, .slice pcsa pcsn pcsc] ∧ RPathAt w d (.slice pba pbn pbc) x.path ∧ ExAt w d (.agg #[.int .i64 pck, .string pcnm, .int .i64 pcm, .int .i64 pctk, .slice pcta pctn pctc, .slice pcsa pcsn pcsc]) x.ex
def ChrIn (w : World) (d : Nat) (v : Value) (x : Chr) (lo hi : Nat) : Prop :=
  ∃ pba pbn pbc pck pcnm pcm pctk pcta pctn pctc pcsa pcsn pcsc, v = .agg #[.slice pba pbn pbc, .int .i64 pck, .string pcnm, .int .i64 pcm, .int .i64 pctk, .slice pcta pctn pctc, .slice pcsa pcsn pcsc] ∧ Wi lo hi (RPathIn w d (.slice pba pbn pbc) x.path) ∧ Wi lo hi (ExIn w d (.agg #[.int .i64 pck, .string pcnm, .int .i64 pcm, .int .i64 pctk, .slice pcta pctn pctc, .slice pcsa pcsn pcsc]) x.ex)
theorem ChrAt.below {w w' : World} {d : Nat} {v : Value} {x : Chr} (h : ChrAt w d v x) (hb : Below w.heap.size w w') : ChrAt w' d v x := by
  obtain ⟨pba, pbn, pbc, pck, pcnm, pcm, pctk, pcta, pctn, pctc, pcsa, pcsn, pcsc, hv, h1, h2⟩ := h
  exact ⟨pba, pbn, pbc, pck, pcnm, pcm, pctk, pcta, pctn, pctc, pcsa, pcsn, pcsc, hv, h1.below hb, h2.below hb⟩
theorem ChrAt.mono {w : World} {d d' : Nat} {v : Value} {x : Chr} (h : ChrAt w d v x) (hd : d ≤ d') : ChrAt w d' v x := by
  obtain ⟨pba, pbn, pbc, pck, pcnm, pcm, pctk, pcta, pctn, pctc, pcsa, pcsn, pcsc, hv, h1, h2⟩ := h
  exact ⟨pba, pbn, pbc, pck, pcnm, pcm, pctk, pcta, pctn, pctc, pcsa, pcsn, pcsc, hv, h1.mono hd, h2.mono hd⟩
theorem chr_parts {w : World} {d : Nat} {v : Value} {x : Chr} (h : ChrAt w d v x) : ∃ pba pbn pbc pck pcnm pcm pctk pcta pctn pctc pcsa pcsn pcsc, v = .agg #[.slice pba pbn pbc, .int .i64 pck, .string pcnm, .int .i64 pcm, .int .i64 pctk, .slice pcta pctn pctc, .slice pcsa pcsn pcsc] := by
  obtain ⟨pba, pbn, pbc, pck, pcnm, pcm, pctk, pcta, pctn, pctc, pcsa, pcsn, pcsc, hv, h1, h2⟩ := h
  exact ⟨pba, pbn, pbc, pck, pcnm, pcm, pctk, pcta, pctn, pctc, pcsa, pcsn, pcsc, hv⟩
theorem ChrIn.at_ {w : World} {d : Nat} {v : Value} {x : Chr} {lo hi : Nat} (h : ChrIn w d v x lo hi) : ChrAt w d v x := by
  obtain ⟨pba, pbn, pbc, pck, pcnm, pcm, pctk, pcta, pctn, pctc, pcsa, pcsn, pcsc, hv, h1, h2⟩ := h
  exact ⟨pba, pbn, pbc, pck, pcnm, pcm, pctk, pcta, pctn, pctc, pcsa, pcsn, pcsc, hv, h1.at_ fun _ _ h => h.at_, h2.at_ fun _ _ h => h.at_⟩
theorem ChrIn.below {w w' : World} {d : Nat} {v : Value} {x : Chr} {lo hi : Nat} (h : ChrIn w d v x lo hi) (hb : Below w.heap.size w w') : ChrIn w' d v x lo hi := by
  obtain ⟨pba, pbn, pbc, pck, pcnm, pcm, pctk, pcta, pctn, pctc, pcsa, pcsn, pcsc, hv, h1, h2⟩ := h
  exact ⟨pba, pbn, pbc, pck, pcnm, pcm, pctk, pcta, pctn, pctc, pcsa, pcsn, pcsc, hv, h1.map fun _ _ _ _ h => h.below hb, h2.map fun _ _ _ _ h => h.below hb⟩
theorem ChrIn.rest {w w' : World} {d : Nat} {v : Value} {x : Chr} {lo hi lo2 hi2 : Nat} (h : ChrIn w d v x lo hi) (kp : Rest lo2 hi2 w w') (hd : hi ≤ lo2 ∨ hi2 ≤ lo) : ChrIn w' d v x lo hi := by
  obtain ⟨pba, pbn, pbc, pck, pcnm, pcm, pctk, pcta, pctn, pctc, pcsa, pcsn, pcsc, hv, h1, h2⟩ := h
  exact ⟨pba, pbn, pbc, pck, pcnm, pcm, pctk, pcta, pctn, pctc, pcsa, pcsn, pcsc, hv, h1.map fun _ _ _ _ h => h.rest kp (by omega), h2.map fun _ _ _ _ h => h.rest kp (by omega)⟩
end Go.Proofs.YtdgfkmnnjhlpbaaDoor
