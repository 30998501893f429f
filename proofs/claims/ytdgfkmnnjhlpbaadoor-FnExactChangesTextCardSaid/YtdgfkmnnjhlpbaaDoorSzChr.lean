/-
  Proved: laws.szChange says whether what the value holds fits into what is left; it leaves the memory that was there as it was.
-/
import Derived.Test.YtdgfkmnnjhlpbaaDoorAtChr
import Derived.Test.YtdgfkmnnjhlpbaaDoorAtRPath
import Derived.Test.YtdgfkmnnjhlpbaaDoorRecBase
namespace Go.Proofs.YtdgfkmnnjhlpbaaDoor
open Go.RowKit

set_option maxRecDepth 100000 in
set_option maxHeartbeats 4000000 in
theorem szChr (d : Nat) (v : Value) (x : Chr) (left : Int) (w : World) (hl0 : 0 ≤ left) (hl1 : left ≤ 1048576) (h : ChrAt w d v x) :
    Calls Tryd.prog 71 #[v, .int .i64 left] w (SzTyEnd x.bulk left w) := by
  cases x with
  | mk x1 x2 =>
    obtain ⟨pba, pbn, pbc, pck, pcnm, pcm, pctk, pcta, pctn, pctc, pcsa, pcsn, pcsc, rfl, h1, h2⟩ := h
    dsimp only at h1 h2 ⊢
    have hb0 := below_alloc w (.cells #[.slice pba pbn pbc, .int .i64 pck, .string pcnm, .int .i64 pcm, .int .i64 pctk, .slice pcta pctn pctc, .slice pcsa pcsn pcsc] 94)
    have H1 := Lib.hid (h1.below hb0)
    have H2 := Lib.hid (h2.below hb0)
    clear h1 h2 hb0
    have hbk : Hid ((Chr.mk x1 x2).bulk = x1.length + x2.bulk) := rfl
    go_enter Tryd.func71, Tryd.ntmps71
    go_wp2_with fail
    refine (szRPath d _ x1 left _ (by omega) (by omega) H1.out).mono ?_
    rintro e' w1 ⟨r1, rfl, hb, hr⟩
    have XA := Lib.hid ((BoxAt.new w #[.slice pba pbn pbc, .int .i64 pck, .string pcnm, .int .i64 pcm, .int .i64 pctk, .slice pcta pctn pctc, .slice pcsa pcsn pcsc] 94).below hb)
    have HN := Lib.hid (below_thru (below_alloc w (.cells #[.slice pba pbn pbc, .int .i64 pck, .string pcnm, .int .i64 pcm, .int .i64 pctk, .slice pcta pctn pctc, .slice pcsa pcsn pcsc] 94)) (Nat.le_refl _) hb)
    replace H2 := Lib.hid (H2.out.below hb)
    clear hb H1
    rcases hr with ⟨hr1, hs1⟩ | ⟨hr1, hs1⟩
    · go_wp2_with fail
      go_ret
      exact ⟨-1, rfl, HN.out, Or.inl ⟨by omega, by have := hbk.out; omega⟩⟩
    have c1 := XA.out.2 1
    have c2 := XA.out.2 2
    have c3 := XA.out.2 3
    have c4 := XA.out.2 4
    have c5 := XA.out.2 5
    have c6 := XA.out.2 6
    go_wp2_with fail
    clear c1 c2 c3 c4 c5 c6
    refine (szExr d _ x2 r1 _ (by omega) (by omega) H2.out).mono ?_
    rintro e' w2 ⟨r2, rfl, hb, hr⟩
    replace XA := Lib.hid (XA.out.below hb)
    replace HN := Lib.hid (below_thru HN.out (Nat.le_refl _) hb)
    clear hb H2
    rcases hr with ⟨hr2, hs2⟩ | ⟨hr2, hs2⟩
    · go_wp2_with fail
      go_ret
      exact ⟨-1, rfl, HN.out, Or.inl ⟨by omega, by have := hbk.out; omega⟩⟩
    go_wp2_with fail
    go_ret
    exact ⟨r2, rfl, HN.out, Or.inr ⟨by omega, by rw [hbk.out]; omega⟩⟩
end Go.Proofs.YtdgfkmnnjhlpbaaDoor
