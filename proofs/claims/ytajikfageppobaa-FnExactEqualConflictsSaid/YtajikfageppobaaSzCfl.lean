/-
  Proved: laws.szConflict says whether what the value holds fits into what is left; it leaves the memory that was there as it was.
-/
import Derived.Test.YtajikfageppobaaAtCfl
import Derived.Test.YtajikfageppobaaRecBase
namespace Go.Proofs.Ytajikfageppobaa
open Go.RowKit

set_option maxRecDepth 100000 in
set_option maxHeartbeats 4000000 in
theorem szCfl (d : Nat) (v : Value) (x : Cfl) (left : Int) (w : World) (hl0 : 0 ≤ left) (hl1 : left ≤ 1048576) (h : CflAt w d v x) :
    Calls Try.prog 66 #[v, .int .i64 left] w (SzTyEnd x.bulk left w) := by
  cases x with
  | mk x1 x2 =>
    obtain ⟨pba, pbn, pbc, pca, pcn, pcc, rfl, h1, h2⟩ := h
    dsimp only at h1 h2 ⊢
    have hb0 := below_alloc w (.cells #[.slice pba pbn pbc, .slice pca pcn pcc] 100)
    have H1 := Lib.hid (h1.below hb0)
    have H2 := Lib.hid (h2.below hb0)
    clear h1 h2 hb0
    have hbk : Hid ((Cfl.mk x1 x2).bulk = x1.length + x2.length) := rfl
    go_enter Try.func66, Try.ntmps66
    go_wp2_with fail
    refine (szPath d _ x1 left _ (by omega) (by omega) H1.out).mono ?_
    rintro e' w1 ⟨r1, rfl, hb, hr⟩
    have XA := Lib.hid ((BoxAt.new w #[.slice pba pbn pbc, .slice pca pcn pcc] 100).below hb)
    have HN := Lib.hid (below_thru (below_alloc w (.cells #[.slice pba pbn pbc, .slice pca pcn pcc] 100)) (Nat.le_refl _) hb)
    replace H2 := Lib.hid (H2.out.below hb)
    clear hb H1
    rcases hr with ⟨hr1, hs1⟩ | ⟨hr1, hs1⟩
    · go_wp2_with fail
      go_ret
      exact ⟨-1, rfl, HN.out, Or.inl ⟨by omega, by have := hbk.out; omega⟩⟩
    have c1 := XA.out.2 1
    go_wp2_with fail
    clear c1
    refine (szPath d _ x2 r1 _ (by omega) (by omega) H2.out).mono ?_
    rintro e' w2 ⟨r2, rfl, hb, hr⟩
    replace XA := Lib.hid (XA.out.below hb)
    replace HN := Lib.hid (below_thru HN.out (Nat.le_refl _) hb)
    clear hb H2
    rcases hr with ⟨hr2, hs2⟩ | ⟨hr2, hs2⟩
    · go_wp2_with fail
      go_ret
      exact ⟨-1, rfl, HN.out, Or.inl ⟨by omega, by have := hbk.out; omega⟩⟩
    go_wp2_with fail
    go_ret
    exact ⟨r2, rfl, HN.out, Or.inr ⟨by omega, by rw [hbk.out]; omega⟩⟩
end Go.Proofs.Ytajikfageppobaa
