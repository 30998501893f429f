/-
  Proved: how a value of the kind Edit lies in memory; plain facts.
-/
import Derived.Test.YtcohfbdhdngplaaRecBase
namespace Go.Proofs.Ytcohfbdhdngplaa
open Go.RowKit

structure Edt where
  ex : Ex
  path : List Int
def Edt.bulk (x : Edt) : Nat := x.ex.bulk + x.path.length
def EdtAt (w : World) (d : Nat) (v : Value) (x : Edt) : Prop :=
  ∃ pbk pbnm pbm pbtk pbta pbtn pbtc pbsa pbsn pbsc pca pcn pcc, v = .agg #[.int .i64 pbk, .string pbnm, .int .i64 pbm, .int .i64 pbtk, .slice pbta pbtn pbtc, .slice pbsa pbsn pbsc, .slice pca pcn pcc] ∧ ExAt w d (.agg #[.int .i64 pbk, .string pbnm, .int .i64 pbm, .int .i64 pbtk, .slice pbta pbtn pbtc, .slice pbsa pbsn pbsc]) x.ex ∧ PathAt w d (.slice pca pcn pcc) x.path
def EdtIn (w : World) (d : Nat) (v : Value) (x : Edt) (lo hi : Nat) : Prop :=
  ∃ pbk pbnm pbm pbtk pbta pbtn pbtc pbsa pbsn pbsc pca pcn pcc, v = .agg #[.int .i64 pbk, .string pbnm, .int .i64 pbm, .int .i64 pbtk, .slice pbta pbtn pbtc, .slice pbsa pbsn pbsc, .slice pca pcn pcc] ∧ Wi lo hi (ExIn w d (.agg #[.int .i64 pbk, .string pbnm, .int .i64 pbm, .int .i64 pbtk, .slice pbta pbtn pbtc, .slice pbsa pbsn pbsc]) x.ex) ∧ Wi lo hi (PathIn w d (.slice pca pcn pcc) x.path)
theorem EdtAt.below {w w' : World} {d : Nat} {v : Value} {x : Edt} (h : EdtAt w d v x) (hb : Below w.heap.size w w') : EdtAt w' d v x := by
  obtain ⟨pbk, pbnm, pbm, pbtk, pbta, pbtn, pbtc, pbsa, pbsn, pbsc, pca, pcn, pcc, hv, h1, h2⟩ := h
  exact ⟨pbk, pbnm, pbm, pbtk, pbta, pbtn, pbtc, pbsa, pbsn, pbsc, pca, pcn, pcc, hv, h1.below hb, h2.below hb⟩
theorem EdtAt.mono {w : World} {d d' : Nat} {v : Value} {x : Edt} (h : EdtAt w d v x) (hd : d ≤ d') : EdtAt w d' v x := by
  obtain ⟨pbk, pbnm, pbm, pbtk, pbta, pbtn, pbtc, pbsa, pbsn, pbsc, pca, pcn, pcc, hv, h1, h2⟩ := h
  exact ⟨pbk, pbnm, pbm, pbtk, pbta, pbtn, pbtc, pbsa, pbsn, pbsc, pca, pcn, pcc, hv, h1.mono hd, h2.mono hd⟩
theorem edt_parts {w : World} {d : Nat} {v : Value} {x : Edt} (h : EdtAt w d v x) : ∃ pbk pbnm pbm pbtk pbta pbtn pbtc pbsa pbsn pbsc pca pcn pcc, v = .agg #[.int .i64 pbk, .string pbnm, .int .i64 pbm, .int .i64 pbtk, .slice pbta pbtn pbtc, .slice pbsa pbsn pbsc, .slice pca pcn pcc] := by
  obtain ⟨pbk, pbnm, pbm, pbtk, pbta, pbtn, pbtc, pbsa, pbsn, pbsc, pca, pcn, pcc, hv, h1, h2⟩ := h
  exact ⟨pbk, pbnm, pbm, pbtk, pbta, pbtn, pbtc, pbsa, pbsn, pbsc, pca, pcn, pcc, hv⟩
theorem EdtIn.at_ {w : World} {d : Nat} {v : Value} {x : Edt} {lo hi : Nat} (h : EdtIn w d v x lo hi) : EdtAt w d v x := by
  obtain ⟨pbk, pbnm, pbm, pbtk, pbta, pbtn, pbtc, pbsa, pbsn, pbsc, pca, pcn, pcc, hv, h1, h2⟩ := h
  exact ⟨pbk, pbnm, pbm, pbtk, pbta, pbtn, pbtc, pbsa, pbsn, pbsc, pca, pcn, pcc, hv, h1.at_ fun _ _ h => h.at_, h2.at_ fun _ _ h => h.at_⟩
theorem EdtIn.below {w w' : World} {d : Nat} {v : Value} {x : Edt} {lo hi : Nat} (h : EdtIn w d v x lo hi) (hb : Below w.heap.size w w') : EdtIn w' d v x lo hi := by
  obtain ⟨pbk, pbnm, pbm, pbtk, pbta, pbtn, pbtc, pbsa, pbsn, pbsc, pca, pcn, pcc, hv, h1, h2⟩ := h
  exact ⟨pbk, pbnm, pbm, pbtk, pbta, pbtn, pbtc, pbsa, pbsn, pbsc, pca, pcn, pcc, hv, h1.map fun _ _ _ _ h => h.below hb, h2.map fun _ _ _ _ h => h.below hb⟩
theorem EdtIn.rest {w w' : World} {d : Nat} {v : Value} {x : Edt} {lo hi lo2 hi2 : Nat} (h : EdtIn w d v x lo hi) (kp : Rest lo2 hi2 w w') (hd : hi ≤ lo2 ∨ hi2 ≤ lo) : EdtIn w' d v x lo hi := by
  obtain ⟨pbk, pbnm, pbm, pbtk, pbta, pbtn, pbtc, pbsa, pbsn, pbsc, pca, pcn, pcc, hv, h1, h2⟩ := h
  exact ⟨pbk, pbnm, pbm, pbtk, pbta, pbtn, pbtc, pbsa, pbsn, pbsc, pca, pcn, pcc, hv, h1.map fun _ _ _ _ h => h.rest kp (by omega), h2.map fun _ _ _ _ h => h.rest kp (by omega)⟩
end Go.Proofs.Ytcohfbdhdngplaa
