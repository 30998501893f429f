/-
  Proved: laws.szAction says whether what an action holds fits into what is left; it leaves the memory that was there as it was.
-/
import Derived.Test.YtdgfkmnnjhlpbaaDoorActAt
import Derived.Test.YtdgfkmnnjhlpbaaDoorSzType
import Derived.Test.YtdgfkmnnjhlpbaaDoorHold
namespace Go.Proofs.YtdgfkmnnjhlpbaaDoor
open Go.RowKit

set_option maxRecDepth 100000 in
set_option maxHeartbeats 1000000 in
theorem szAct (d : Nat) (v : Value) (t : Act) (left : Int) (w : World) (hl0 : 0 ≤ left) (hl1 : left ≤ 1048576) (h : ActAt w d v t) :
    Calls Tryd.prog 11 #[v, .int .i64 left] w (SzTyEnd t.bulk left w) := by
  cases t with
  | mk kd nm n ty =>
    obtain ⟨tk, ta, tn, tc, rfl, hk0, hk1, hn0, hn1, hnm, hty⟩ := h
    dsimp only at hk0 hk1 hn0 hn1 hnm hty ⊢
    have hb0 := below_alloc w (.cells #[.int .i64 kd, .string nm, .int .i64 n, .int .i64 tk, .slice ta tn tc] 26)
    have HTY := Lib.hid (hty.below hb0)
    clear hty hb0
    have hbk : Hid ((Act.mk kd nm n ty).bulk = nm.size + (ty.size - 1)) := rfl
    by_cases hneg : left - (nm.size : Int) < 0
    · go_enter Tryd.func11, Tryd.ntmps11
      go_wp2_with fail
      go_ret
      exact ⟨-1, rfl, below_alloc _ _, Or.inl ⟨by omega, by omega⟩⟩
    · go_enter Tryd.func11, Tryd.ntmps11
      go_wp2_with fail
      refine (szTy_all d _ ty _ _ (by omega) (by omega) HTY.out).mono ?_
      rintro e w' ⟨r, rfl, hb1, hr⟩
      have HN := Lib.hid (below_thru (below_alloc w (.cells #[.int .i64 kd, .string nm, .int .i64 n, .int .i64 tk, .slice ta tn tc] 26)) (Nat.le_refl _) hb1)
      clear hb1
      rcases hr with ⟨hr, hr2⟩ | ⟨hr, hr2⟩
      · go_wp2_with fail
        go_ret
        exact ⟨-1, rfl, HN.out, Or.inl ⟨by omega, by omega⟩⟩
      · go_wp2_with fail
        go_ret
        exact ⟨r, rfl, HN.out, Or.inr ⟨hr, by rw [hbk.out]; omega⟩⟩
end Go.Proofs.YtdgfkmnnjhlpbaaDoor
