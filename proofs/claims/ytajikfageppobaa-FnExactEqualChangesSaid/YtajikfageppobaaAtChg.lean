/-
  Proved: how a value of the kind Change lies in memory; plain facts.
-/
import Derived.Test.YtajikfageppobaaRecBase
namespace Go.Proofs.Ytajikfageppobaa
open Go.RowKit

structure Chg where
  path : List Int
  ex : Ex
def Chg.bulk (x : Chg) : Nat := x.path.length + x.ex.bulk
def ChgAt (w : World) (d : Nat) (v : Value) (x : Chg) : Prop :=
  ∃ pba pbn pbc pck pcnm pcm pctk pcta pctn pctc pcsa pcsn pcsc, v = .agg #[.slice pba pbn pbc, .int .i64 pck, .string pcnm, .int .i64 pcm, .int .i64 pctk, .slice pcta pctn pctc, .slice pcsa pcsn pcsc] ∧ PathAt w d (.slice pba pbn pbc) x.path ∧ ExAt w d (.agg #[.int .i64 pck, .string pcnm, .int .i64 pcm, .int .i64 pctk, .slice pcta pctn pctc, .slice pcsa pcsn pcsc]) x.ex
def ChgIn (w : World) (d : Nat) (v : Value) (x : Chg) (lo hi : Nat) : Prop :=
  ∃ pba pbn pbc pck pcnm pcm pctk pcta pctn pctc pcsa pcsn pcsc, v = .agg #[.slice pba pbn pbc, .int .i64 pck, .string pcnm, .int .i64 pcm, .int .i64 pctk, .slice pcta pctn pctc, .slice pcsa pcsn pcsc] ∧ Wi lo hi (PathIn w d (.slice pba pbn pbc) x.path) ∧ Wi lo hi (ExIn w d (.agg #[.int .i64 pck, .string pcnm, .int .i64 pcm, .int .i64 pctk, .slice pcta pctn pctc, .slice pcsa pcsn pcsc]) x.ex)
theorem ChgAt.below {w w' : World} {d : Nat} {v : Value} {x : Chg} (h : ChgAt w d v x) (hb : Below w.heap.size w w') : ChgAt w' d v x := by
  obtain ⟨pba, pbn, pbc, pck, pcnm, pcm, pctk, pcta, pctn, pctc, pcsa, pcsn, pcsc, hv, h1, h2⟩ := h
  exact ⟨pba, pbn, pbc, pck, pcnm, pcm, pctk, pcta, pctn, pctc, pcsa, pcsn, pcsc, hv, h1.below hb, h2.below hb⟩
theorem ChgAt.mono {w : World} {d d' : Nat} {v : Value} {x : Chg} (h : ChgAt w d v x) (hd : d ≤ d') : ChgAt w d' v x := by
  obtain ⟨pba, pbn, pbc, pck, pcnm, pcm, pctk, pcta, pctn, pctc, pcsa, pcsn, pcsc, hv, h1, h2⟩ := h
  exact ⟨pba, pbn, pbc, pck, pcnm, pcm, pctk, pcta, pctn, pctc, pcsa, pcsn, pcsc, hv, h1.mono hd, h2.mono hd⟩
theorem chg_parts {w : World} {d : Nat} {v : Value} {x : Chg} (h : ChgAt w d v x) : ∃ pba pbn pbc pck pcnm pcm pctk pcta pctn pctc pcsa pcsn pcsc, v = .agg #[.slice pba pbn pbc, .int .i64 pck, .string pcnm, .int .i64 pcm, .int .i64 pctk, .slice pcta pctn pctc, .slice pcsa pcsn pcsc] := by
  obtain ⟨pba, pbn, pbc, pck, pcnm, pcm, pctk, pcta, pctn, pctc, pcsa, pcsn, pcsc, hv, h1, h2⟩ := h
  exact ⟨pba, pbn, pbc, pck, pcnm, pcm, pctk, pcta, pctn, pctc, pcsa, pcsn, pcsc, hv⟩
theorem ChgIn.at_ {w : World} {d : Nat} {v : Value} {x : Chg} {lo hi : Nat} (h : ChgIn w d v x lo hi) : ChgAt w d v x := by
  obtain ⟨pba, pbn, pbc, pck, pcnm, pcm, pctk, pcta, pctn, pctc, pcsa, pcsn, pcsc, hv, h1, h2⟩ := h
  exact ⟨pba, pbn, pbc, pck, pcnm, pcm, pctk, pcta, pctn, pctc, pcsa, pcsn, pcsc, hv, h1.at_ fun _ _ h => h.at_, h2.at_ fun _ _ h => h.at_⟩
theorem ChgIn.below {w w' : World} {d : Nat} {v : Value} {x : Chg} {lo hi : Nat} (h : ChgIn w d v x lo hi) (hb : Below w.heap.size w w') : ChgIn w' d v x lo hi := by
  obtain ⟨pba, pbn, pbc, pck, pcnm, pcm, pctk, pcta, pctn, pctc, pcsa, pcsn, pcsc, hv, h1, h2⟩ := h
  exact ⟨pba, pbn, pbc, pck, pcnm, pcm, pctk, pcta, pctn, pctc, pcsa, pcsn, pcsc, hv, h1.map fun _ _ _ _ h => h.below hb, h2.map fun _ _ _ _ h => h.below hb⟩
theorem ChgIn.rest {w w' : World} {d : Nat} {v : Value} {x : Chg} {lo hi lo2 hi2 : Nat} (h : ChgIn w d v x lo hi) (kp : Rest lo2 hi2 w w') (hd : hi ≤ lo2 ∨ hi2 ≤ lo) : ChgIn w' d v x lo hi := by
  obtain ⟨pba, pbn, pbc, pck, pcnm, pcm, pctk, pcta, pctn, pctc, pcsa, pcsn, pcsc, hv, h1, h2⟩ := h
  exact ⟨pba, pbn, pbc, pck, pcnm, pcm, pctk, pcta, pctn, pctc, pcsa, pcsn, pcsc, hv, h1.map fun _ _ _ _ h => h.rest kp (by omega), h2.map fun _ _ _ _ h => h.rest kp (by omega)⟩
end Go.Proofs.Ytajikfageppobaa
