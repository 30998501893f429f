/-
  Proved: impl.EqualConflicts says whether two lists are equal; it leaves the memory that was there as it was.
-/
import Derived.Test.YtajikfageppobaaLibCfls
namespace Go.Proofs.Ytajikfageppobaa
open Go.RowKit

set_option maxRecDepth 100000 in
set_option maxHeartbeats 2000000 in
theorem implConflicts (d : Nat) (v1 v2 : Value) (t1 t2 : List Cfl) (w : World) (h1 : CflsAt w d v1 t1) (h2 : CflsAt w d v2 t2) (hn1 : Cfl.bulks t1 ≤ 1048576) (hn2 : Cfl.bulks t2 ≤ 1048576) :
    Calls Try.prog 37 #[v1, v2] w fun e w' => e = .returned (.bool (Cfl.beqs t1 t2)) ∧ Below w.heap.size w w' := by
  go_enter Try.func37, Try.ntmps37
  go_wp2_with fail
  refine (libCfls d _ _ t1 t2 _ h1 h2 hn1 hn2).mono ?_
  rintro e w1 ⟨rfl, hb⟩
  have HB := Lib.hid hb; clear hb
  clear h1 h2
  go_wp2_with fail
  go_ret
  exact ⟨rfl, HB.out⟩
end Go.Proofs.Ytajikfageppobaa
