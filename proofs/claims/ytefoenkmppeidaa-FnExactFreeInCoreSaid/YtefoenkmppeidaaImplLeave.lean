/-
  Proved: impl.(*freeSearch).leave, entered as a deferred call, counts one function with the name less; it touches that map alone.
-/
import Derived.Test.YtefoenkmppeidaaCntAt
import Derived.Defers
namespace Go.Proofs.Ytefoenkmppeidaa
open Go.RowKit Go.Maps Go.WideMaps

set_option maxRecDepth 100000 in
set_option maxHeartbeats 2000000 in
theorem implLeave (s bc n : Nat) (c : ByteArray → Int) (nm : ByteArray) (u : FrameMode) (w : World) (hcell : w.cell? ⟨s, 1, none⟩ = some (.map (some bc))) (hc : CntAt w bc n c) (hn : n < 4194304) (hs : nm.size ≤ 9223372036854775807) (h0 : 1 ≤ c nm) (h1 : c nm ≤ 1048578) :
    CallsD Try.prog 108 #[.pointer (some ⟨s, 0, none⟩), .string nm] u w fun e u' w' => u' = u ∧ (e = .returned (.tuple #[]) ∧ CntAt w' bc (n + 1) (fun x => if x = nm then c nm - 1 else c x) ∧ w.grownBy w' (some bc)) := by
  have HC := Lib.hid hc; clear hc
  have HNM := Lib.hid hs; clear hs
  have WF : Hid ((Lit.int .i64 (c nm - 1)).wf = true) := WalkArith.wf_i64 (by omega)
  go_enter_d Try.func108, Try.ntmps108
  go_wp2_with (first
    | (at_lookup; refine cnt_lookup _ rfl _ _ rfl rfl HC.out nm HNM.out rfl ?_)
    | (at_mapUpdate; refine cnt_store _ rfl _ _ _ rfl rfl HC.out (by unfold maxLen; omega) nm HNM.out rfl (c nm - 1) WF.out rfl ?_; intro w3 hcnt3 hg3))
  go_end0
  exact ⟨rfl, hcnt3, hg3⟩
end Go.Proofs.Ytefoenkmppeidaa
