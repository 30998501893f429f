/-
  Proved: laws.szTest says whether what the value holds fits into what is left; it leaves the memory that was there as it was.
-/
import Derived.Test.YtmmnjdhmankieaaAtTst
import Derived.Test.YtmmnjdhmankieaaRecBase
namespace Go.Proofs.Ytmmnjdhmankieaa
open Go.RowKit

set_option maxRecDepth 100000 in
set_option maxHeartbeats 4000000 in
theorem szTst (d : Nat) (v : Value) (x : Tst) (left : Int) (w : World) (hl0 : 0 ≤ left) (hl1 : left ≤ 1048576) (h : TstAt w d v x) :
    Calls Try.prog 93 #[v, .int .i64 left] w (SzTyEnd x.bulk left w) := by
  cases x with
  | mk x1 x2 =>
    obtain ⟨pbk, pbnm, pbm, pbtk, pbta, pbtn, pbtc, pbsa, pbsn, pbsc, pck, pcnm, pcm, pctk, pcta, pctn, pctc, pcsa, pcsn, pcsc, rfl, h1, h2⟩ := h
    dsimp only at h1 h2 ⊢
    have hb0 := below_alloc w (.cells #[.int .i64 pbk, .string pbnm, .int .i64 pbm, .int .i64 pbtk, .slice pbta pbtn pbtc, .slice pbsa pbsn pbsc, .int .i64 pck, .string pcnm, .int .i64 pcm, .int .i64 pctk, .slice pcta pctn pctc, .slice pcsa pcsn pcsc] 132)
    have H1 := Lib.hid (h1.below hb0)
    have H2 := Lib.hid (h2.below hb0)
    clear h1 h2 hb0
    have hbk : Hid ((Tst.mk x1 x2).bulk = x1.bulk + x2.bulk) := rfl
    go_enter Try.func93, Try.ntmps93
    go_wp2_with fail
    refine (szExr d _ x1 left _ (by omega) (by omega) H1.out).mono ?_
    rintro e' w1 ⟨r1, rfl, hb, hr⟩
    have XA := Lib.hid ((BoxAt.new w #[.int .i64 pbk, .string pbnm, .int .i64 pbm, .int .i64 pbtk, .slice pbta pbtn pbtc, .slice pbsa pbsn pbsc, .int .i64 pck, .string pcnm, .int .i64 pcm, .int .i64 pctk, .slice pcta pctn pctc, .slice pcsa pcsn pcsc] 132).below hb)
    have HN := Lib.hid (below_thru (below_alloc w (.cells #[.int .i64 pbk, .string pbnm, .int .i64 pbm, .int .i64 pbtk, .slice pbta pbtn pbtc, .slice pbsa pbsn pbsc, .int .i64 pck, .string pcnm, .int .i64 pcm, .int .i64 pctk, .slice pcta pctn pctc, .slice pcsa pcsn pcsc] 132)) (Nat.le_refl _) hb)
    replace H2 := Lib.hid (H2.out.below hb)
    clear hb H1
    rcases hr with ⟨hr1, hs1⟩ | ⟨hr1, hs1⟩
    · go_wp2_with fail
      go_ret
      exact ⟨-1, rfl, HN.out, Or.inl ⟨by omega, by have := hbk.out; omega⟩⟩
    have c6 := XA.out.2 6
    have c7 := XA.out.2 7
    have c8 := XA.out.2 8
    have c9 := XA.out.2 9
    have c10 := XA.out.2 10
    have c11 := XA.out.2 11
    go_wp2_with fail
    clear c6 c7 c8 c9 c10 c11
    refine (szExr d _ x2 r1 _ (by omega) (by omega) H2.out).mono ?_
    rintro e' w2 ⟨r2, rfl, hb, hr⟩
    replace XA := Lib.hid (XA.out.below hb)
    replace HN := Lib.hid (below_thru HN.out (Nat.le_refl _) hb)
    clear hb H2
    rcases hr with ⟨hr2, hs2⟩ | ⟨hr2, hs2⟩
    · go_wp2_with fail
      go_ret
      exact ⟨-1, rfl, HN.out, Or.inl ⟨by omega, by have := hbk.out; omega⟩⟩
    go_wp2_with fail
    go_ret
    exact ⟨r2, rfl, HN.out, Or.inr ⟨by omega, by rw [hbk.out]; omega⟩⟩
end Go.Proofs.Ytmmnjdhmankieaa
