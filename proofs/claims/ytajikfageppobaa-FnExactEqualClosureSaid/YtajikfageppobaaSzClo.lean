/-
  Proved: laws.szClosure says whether what the value holds fits into what is left; it leaves the memory that was there as it was.
-/
import Derived.Test.YtajikfageppobaaAtClo
import Derived.Test.YtajikfageppobaaEnvBase
namespace Go.Proofs.Ytajikfageppobaa
open Go.RowKit

set_option maxRecDepth 100000 in
set_option maxHeartbeats 4000000 in
theorem szClo (d : Nat) (v : Value) (x : Clo) (left : Int) (w : World) (hl0 : 0 ≤ left) (hl1 : left ≤ 1048576) (h : CloAt w d v x) :
    Calls Try.prog 24 #[v, .int .i64 left] w (SzTyEnd x.bulk left w) := by
  cases x with
  | mk x1 x2 x3 =>
    obtain ⟨pbi, pcb, pda, pdn, pdc, rfl, h1, h2, h3⟩ := h
    dsimp only at h1 h2 h3 ⊢
    have hb0 := below_alloc w (.cells #[.int .i64 pbi, .bool pcb, .slice pda pdn pdc] 48)
    have H1 := Lib.hid (h1.below hb0)
    have H2 := Lib.hid (h2.below hb0)
    have H3 := Lib.hid (h3.below hb0)
    clear h1 h2 h3 hb0
    have hbk : Hid ((Clo.mk x1 x2 x3).bulk = x3.bulk) := rfl
    go_enter Try.func24, Try.ntmps24
    go_wp2_with fail
    refine (szEnv d _ x3 left _ (by omega) (by omega) H3.out).mono ?_
    rintro e' w3 ⟨r3, rfl, hb, hr⟩
    have XA := Lib.hid ((BoxAt.new w #[.int .i64 pbi, .bool pcb, .slice pda pdn pdc] 48).below hb)
    have HN := Lib.hid (below_thru (below_alloc w (.cells #[.int .i64 pbi, .bool pcb, .slice pda pdn pdc] 48)) (Nat.le_refl _) hb)
    clear hb H3
    rcases hr with ⟨hr3, hs3⟩ | ⟨hr3, hs3⟩
    · go_wp2_with fail
      go_ret
      exact ⟨-1, rfl, HN.out, Or.inl ⟨by omega, by have := hbk.out; omega⟩⟩
    go_wp2_with fail
    go_ret
    exact ⟨r3, rfl, HN.out, Or.inr ⟨by omega, by rw [hbk.out]; omega⟩⟩
end Go.Proofs.Ytajikfageppobaa
