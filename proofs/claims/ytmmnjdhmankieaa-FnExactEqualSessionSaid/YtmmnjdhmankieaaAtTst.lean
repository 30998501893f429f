/-
  Proved: how a value of the kind Test lies in memory; plain facts.
-/
import Derived.Test.YtmmnjdhmankieaaRecBase
namespace Go.Proofs.Ytmmnjdhmankieaa
open Go.RowKit

structure Tst where
  arg : Ex
  want : Ex
def Tst.bulk (x : Tst) : Nat := x.arg.bulk + x.want.bulk
def TstAt (w : World) (d : Nat) (v : Value) (x : Tst) : Prop :=
  ∃ pbk pbnm pbm pbtk pbta pbtn pbtc pbsa pbsn pbsc pck pcnm pcm pctk pcta pctn pctc pcsa pcsn pcsc, v = .agg #[.int .i64 pbk, .string pbnm, .int .i64 pbm, .int .i64 pbtk, .slice pbta pbtn pbtc, .slice pbsa pbsn pbsc, .int .i64 pck, .string pcnm, .int .i64 pcm, .int .i64 pctk, .slice pcta pctn pctc, .slice pcsa pcsn pcsc] ∧ ExAt w d (.agg #[.int .i64 pbk, .string pbnm, .int .i64 pbm, .int .i64 pbtk, .slice pbta pbtn pbtc, .slice pbsa pbsn pbsc]) x.arg ∧ ExAt w d (.agg #[.int .i64 pck, .string pcnm, .int .i64 pcm, .int .i64 pctk, .slice pcta pctn pctc, .slice pcsa pcsn pcsc]) x.want
def TstIn (w : World) (d : Nat) (v : Value) (x : Tst) (lo hi : Nat) : Prop :=
  ∃ pbk pbnm pbm pbtk pbta pbtn pbtc pbsa pbsn pbsc pck pcnm pcm pctk pcta pctn pctc pcsa pcsn pcsc, v = .agg #[.int .i64 pbk, .string pbnm, .int .i64 pbm, .int .i64 pbtk, .slice pbta pbtn pbtc, .slice pbsa pbsn pbsc, .int .i64 pck, .string pcnm, .int .i64 pcm, .int .i64 pctk, .slice pcta pctn pctc, .slice pcsa pcsn pcsc] ∧ Wi lo hi (ExIn w d (.agg #[.int .i64 pbk, .string pbnm, .int .i64 pbm, .int .i64 pbtk, .slice pbta pbtn pbtc, .slice pbsa pbsn pbsc]) x.arg) ∧ Wi lo hi (ExIn w d (.agg #[.int .i64 pck, .string pcnm, .int .i64 pcm, .int .i64 pctk, .slice pcta pctn pctc, .slice pcsa pcsn pcsc]) x.want)
theorem TstAt.below {w w' : World} {d : Nat} {v : Value} {x : Tst} (h : TstAt w d v x) (hb : Below w.heap.size w w') : TstAt w' d v x := by
  obtain ⟨pbk, pbnm, pbm, pbtk, pbta, pbtn, pbtc, pbsa, pbsn, pbsc, pck, pcnm, pcm, pctk, pcta, pctn, pctc, pcsa, pcsn, pcsc, hv, h1, h2⟩ := h
  exact ⟨pbk, pbnm, pbm, pbtk, pbta, pbtn, pbtc, pbsa, pbsn, pbsc, pck, pcnm, pcm, pctk, pcta, pctn, pctc, pcsa, pcsn, pcsc, hv, h1.below hb, h2.below hb⟩
theorem TstAt.mono {w : World} {d d' : Nat} {v : Value} {x : Tst} (h : TstAt w d v x) (hd : d ≤ d') : TstAt w d' v x := by
  obtain ⟨pbk, pbnm, pbm, pbtk, pbta, pbtn, pbtc, pbsa, pbsn, pbsc, pck, pcnm, pcm, pctk, pcta, pctn, pctc, pcsa, pcsn, pcsc, hv, h1, h2⟩ := h
  exact ⟨pbk, pbnm, pbm, pbtk, pbta, pbtn, pbtc, pbsa, pbsn, pbsc, pck, pcnm, pcm, pctk, pcta, pctn, pctc, pcsa, pcsn, pcsc, hv, h1.mono hd, h2.mono hd⟩
theorem tst_parts {w : World} {d : Nat} {v : Value} {x : Tst} (h : TstAt w d v x) : ∃ pbk pbnm pbm pbtk pbta pbtn pbtc pbsa pbsn pbsc pck pcnm pcm pctk pcta pctn pctc pcsa pcsn pcsc, v = .agg #[.int .i64 pbk, .string pbnm, .int .i64 pbm, .int .i64 pbtk, .slice pbta pbtn pbtc, .slice pbsa pbsn pbsc, .int .i64 pck, .string pcnm, .int .i64 pcm, .int .i64 pctk, .slice pcta pctn pctc, .slice pcsa pcsn pcsc] := by
  obtain ⟨pbk, pbnm, pbm, pbtk, pbta, pbtn, pbtc, pbsa, pbsn, pbsc, pck, pcnm, pcm, pctk, pcta, pctn, pctc, pcsa, pcsn, pcsc, hv, h1, h2⟩ := h
  exact ⟨pbk, pbnm, pbm, pbtk, pbta, pbtn, pbtc, pbsa, pbsn, pbsc, pck, pcnm, pcm, pctk, pcta, pctn, pctc, pcsa, pcsn, pcsc, hv⟩
theorem TstIn.at_ {w : World} {d : Nat} {v : Value} {x : Tst} {lo hi : Nat} (h : TstIn w d v x lo hi) : TstAt w d v x := by
  obtain ⟨pbk, pbnm, pbm, pbtk, pbta, pbtn, pbtc, pbsa, pbsn, pbsc, pck, pcnm, pcm, pctk, pcta, pctn, pctc, pcsa, pcsn, pcsc, hv, h1, h2⟩ := h
  exact ⟨pbk, pbnm, pbm, pbtk, pbta, pbtn, pbtc, pbsa, pbsn, pbsc, pck, pcnm, pcm, pctk, pcta, pctn, pctc, pcsa, pcsn, pcsc, hv, h1.at_ fun _ _ h => h.at_, h2.at_ fun _ _ h => h.at_⟩
theorem TstIn.below {w w' : World} {d : Nat} {v : Value} {x : Tst} {lo hi : Nat} (h : TstIn w d v x lo hi) (hb : Below w.heap.size w w') : TstIn w' d v x lo hi := by
  obtain ⟨pbk, pbnm, pbm, pbtk, pbta, pbtn, pbtc, pbsa, pbsn, pbsc, pck, pcnm, pcm, pctk, pcta, pctn, pctc, pcsa, pcsn, pcsc, hv, h1, h2⟩ := h
  exact ⟨pbk, pbnm, pbm, pbtk, pbta, pbtn, pbtc, pbsa, pbsn, pbsc, pck, pcnm, pcm, pctk, pcta, pctn, pctc, pcsa, pcsn, pcsc, hv, h1.map fun _ _ _ _ h => h.below hb, h2.map fun _ _ _ _ h => h.below hb⟩
theorem TstIn.rest {w w' : World} {d : Nat} {v : Value} {x : Tst} {lo hi lo2 hi2 : Nat} (h : TstIn w d v x lo hi) (kp : Rest lo2 hi2 w w') (hd : hi ≤ lo2 ∨ hi2 ≤ lo) : TstIn w' d v x lo hi := by
  obtain ⟨pbk, pbnm, pbm, pbtk, pbta, pbtn, pbtc, pbsa, pbsn, pbsc, pck, pcnm, pcm, pctk, pcta, pctn, pctc, pcsa, pcsn, pcsc, hv, h1, h2⟩ := h
  exact ⟨pbk, pbnm, pbm, pbtk, pbta, pbtn, pbtc, pbsa, pbsn, pbsc, pck, pcnm, pcm, pctk, pcta, pctn, pctc, pcsa, pcsn, pcsc, hv, h1.map fun _ _ _ _ h => h.rest kp (by omega), h2.map fun _ _ _ _ h => h.rest kp (by omega)⟩
end Go.Proofs.Ytmmnjdhmankieaa
