/-
  Proved: laws.szPlace says whether what a place holds fits into what is left; it leaves the memory that was there as it was.
-/
import Derived.Test.YtlpdgmgafabadaaPlMem
import Derived.Test.YtlpdgmgafabadaaSzBinds
namespace Go.Proofs.Ytlpdgmgafabadaa
open Go.RowKit

set_option maxRecDepth 100000 in
set_option maxHeartbeats 2000000 in
theorem szPlace (d : Nat) (v : Value) (t : Pl) (left : Int) (w : World) (hl0 : 0 ≤ left) (hl1 : left ≤ 1048576) (h : PlAt w d v t) :
    Calls Try.prog 28 #[v, .int .i64 left] w (SzTyEnd t.bulk left w) := by
  cases t with
  | mk cs ana ty =>
    obtain ⟨ca, cn, cc, tk, ta, tn, tc, rfl, hc, ht⟩ := h
    dsimp only at hc ht ⊢
    have hb0 := below_alloc w (.cells #[.slice ca cn cc, .bool ana, .int .i64 tk, .slice ta tn tc] 47)
    have HC := Lib.hid (hc.below hb0)
    have HT := Lib.hid (ht.below hb0)
    clear hc ht hb0
    have hbk : Hid ((Pl.mk cs ana ty).bulk = Bi.bulks cs + (ty.size - 1)) := rfl
    go_enter Try.func28, Try.ntmps28
    go_wp2_with fail
    refine (szBis d _ cs _ _ (by omega) (by omega) HC.out).mono ?_
    rintro e' w1 ⟨r, rfl, hb1, hr⟩
    have XA := Lib.hid ((BoxAt.new w #[.slice ca cn cc, .bool ana, .int .i64 tk, .slice ta tn tc] 47).below hb1)
    have HN := Lib.hid (below_thru (below_alloc w (.cells #[.slice ca cn cc, .bool ana, .int .i64 tk, .slice ta tn tc] 47)) (Nat.le_refl _) hb1)
    replace HT := Lib.hid (HT.out.below hb1)
    clear hb1 HC
    rcases hr with ⟨hr, hr2⟩ | ⟨hr, hr2⟩
    · go_wp2_with fail
      go_ret
      exact ⟨-1, rfl, HN.out, Or.inl ⟨by omega, by omega⟩⟩
    · have c2 := XA.out.2 2
      have c3 := XA.out.2 3
      go_wp2_with fail
      clear c2 c3
      refine (szTy_all d _ ty r _ (by omega) (by omega) HT.out).mono ?_
      rintro e' w2 ⟨r2, rfl, hb2, hr3⟩
      have HN2 := Lib.hid (below_thru HN.out (Nat.le_refl _) hb2)
      clear hb2
      rcases hr3 with ⟨hr3, hr4⟩ | ⟨hr3, hr4⟩
      · go_wp2_with fail
        go_ret
        exact ⟨-1, rfl, HN2.out, Or.inl ⟨by omega, by omega⟩⟩
      · go_wp2_with fail
        go_ret
        exact ⟨r2, rfl, HN2.out, Or.inr ⟨hr3, by rw [hbk.out]; omega⟩⟩
end Go.Proofs.Ytlpdgmgafabadaa
