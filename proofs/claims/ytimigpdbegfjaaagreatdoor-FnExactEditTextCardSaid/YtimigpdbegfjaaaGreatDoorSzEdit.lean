/-
  Proved: laws.szIntS and laws.szEdit say whether what a path and an edit hold fits into what is left; they leave the memory that was there as it was.
-/
import Derived.Test.YtimigpdbegfjaaaGreatDoorEditAt
import Derived.Test.YtimigpdbegfjaaaGreatDoorSzExpr
import Derived.Test.YtimigpdbegfjaaaGreatDoorHold
namespace Go.Proofs.YtimigpdbegfjaaaGreatDoor
open Go.RowKit

set_option maxRecDepth 100000 in
set_option maxHeartbeats 1000000 in
theorem szInts (v : Value) (ss : List Int) (left : Int) (w : World) (hl0 : 0 ≤ left) (hl1 : left ≤ 1048576) (hn : ss.length ≤ 9223372036854775807) (h : Ints w v ss) :
    Calls Tryz.prog 10 #[v, .int .i64 left] w (SzTyEnd ss.length left w) := by
  obtain ⟨a, cap, rfl, hcap, hat⟩ := h
  clear hat
  by_cases hneg : left - (ss.length : Int) < 0
  · go_enter Tryz.func10, Tryz.ntmps10
    go_wp2_with fail
    go_ret
    exact ⟨-1, rfl, Below.refl _ _, Or.inl ⟨by omega, by omega⟩⟩
  · go_enter Tryz.func10, Tryz.ntmps10
    go_wp2_with fail
    go_ret
    exact ⟨left - ss.length, rfl, Below.refl _ _, Or.inr ⟨by omega, by omega⟩⟩

set_option maxRecDepth 100000 in
set_option maxHeartbeats 1000000 in
theorem szEdit (d : Nat) (v : Value) (t : Edi) (left : Int) (w : World) (hl0 : 0 ≤ left) (hl1 : left ≤ 1048576) (h : EditAt w d v t) :
    Calls Tryz.prog 4 #[v, .int .i64 left] w (SzTyEnd t.bulk left w) := by
  cases t with
  | mk e ps =>
    obtain ⟨k, nm, n, tk, ta, tn, tc, sa, sn, sc, pa, pn, pc, rfl, he, hp, hl⟩ := h
    dsimp only at he hp hl ⊢
    have hb0 := below_alloc w (.cells #[.int .i64 k, .string nm, .int .i64 n, .int .i64 tk, .slice ta tn tc, .slice sa sn sc, .slice pa pn pc] 30)
    have HEX := Lib.hid (he.below hb0)
    have HP := Lib.hid (hp.below hb0)
    clear he hp hb0
    have hbk : Hid ((Edi.mk e ps).bulk = e.bulk + ps.length) := rfl
    go_enter Tryz.func4, Tryz.ntmps4
    go_wp2_with fail
    refine (szEx_all d _ e _ _ (by omega) (by omega) HEX.out).mono ?_
    rintro e' w1 ⟨r, rfl, hb1, hr⟩
    have XA := Lib.hid ((BoxAt.new w #[.int .i64 k, .string nm, .int .i64 n, .int .i64 tk, .slice ta tn tc, .slice sa sn sc, .slice pa pn pc] 30).below hb1)
    have HN := Lib.hid (below_thru (below_alloc w (.cells #[.int .i64 k, .string nm, .int .i64 n, .int .i64 tk, .slice ta tn tc, .slice sa sn sc, .slice pa pn pc] 30)) (Nat.le_refl _) hb1)
    replace HP := Lib.hid (HP.out.below hb1)
    clear hb1 HEX
    rcases hr with ⟨hr, hr2⟩ | ⟨hr, hr2⟩
    · go_wp2_with fail
      go_ret
      exact ⟨-1, rfl, HN.out, Or.inl ⟨by omega, by omega⟩⟩
    · have c6 := XA.out.2 6
      go_wp2_with fail
      clear c6
      refine (szInts _ ps r _ (by omega) (by omega) hl HP.out).mono ?_
      rintro e' w2 ⟨r2, rfl, hb2, hr3⟩
      have HN2 := Lib.hid (below_thru HN.out (Nat.le_refl _) hb2)
      clear hb2
      rcases hr3 with ⟨hr3, hr4⟩ | ⟨hr3, hr4⟩
      · go_wp2_with fail
        go_ret
        exact ⟨-1, rfl, HN2.out, Or.inl ⟨by omega, by omega⟩⟩
      · go_wp2_with fail
        go_ret
        exact ⟨r2, rfl, HN2.out, Or.inr ⟨hr3, by rw [hbk.out]; omega⟩⟩
end Go.Proofs.YtimigpdbegfjaaaGreatDoor
