/-
  Proved: laws.szHistory says whether what the value holds fits into what is left; it leaves the memory that was there as it was.
-/
import Derived.Test.YtmmnjdhmankieaaAtHis
import Derived.Test.YtmmnjdhmankieaaSzEdts
import Derived.Test.YtmmnjdhmankieaaSzEdt
namespace Go.Proofs.Ytmmnjdhmankieaa
open Go.RowKit

set_option maxRecDepth 100000 in
set_option maxHeartbeats 4000000 in
theorem szHis (d : Nat) (v : Value) (x : His) (left : Int) (w : World) (hl0 : 0 ≤ left) (hl1 : left ≤ 1048576) (h : HisAt w d v x) :
    Calls Try.prog 49 #[v, .int .i64 left] w (SzTyEnd x.bulk left w) := by
  cases x with
  | mk x1 x2 x3 =>
    obtain ⟨pba, pbn, pbc, pcbk, pcbnm, pcbm, pcbtk, pcbta, pcbtn, pcbtc, pcbsa, pcbsn, pcbsc, pcca, pccn, pccc, pda, pdn, pdc, rfl, h1, h2, h3⟩ := h
    dsimp only at h1 h2 h3 ⊢
    have hb0 := below_alloc w (.cells #[.slice pba pbn pbc, .int .i64 pcbk, .string pcbnm, .int .i64 pcbm, .int .i64 pcbtk, .slice pcbta pcbtn pcbtc, .slice pcbsa pcbsn pcbsc, .slice pcca pccn pccc, .slice pda pdn pdc] 33)
    have H1 := Lib.hid (h1.below hb0)
    have H2 := Lib.hid (h2.below hb0)
    have H3 := Lib.hid (h3.below hb0)
    clear h1 h2 h3 hb0
    have hbk : Hid ((His.mk x1 x2 x3).bulk = Edt.bulks x1 + x2.bulk + Edt.bulks x3) := rfl
    go_enter Try.func49, Try.ntmps49
    go_wp2_with fail
    refine (szEdts d _ x1 left _ (by omega) (by omega) H1.out).mono ?_
    rintro e' w1 ⟨r1, rfl, hb, hr⟩
    have XA := Lib.hid ((BoxAt.new w #[.slice pba pbn pbc, .int .i64 pcbk, .string pcbnm, .int .i64 pcbm, .int .i64 pcbtk, .slice pcbta pcbtn pcbtc, .slice pcbsa pcbsn pcbsc, .slice pcca pccn pccc, .slice pda pdn pdc] 33).below hb)
    have HN := Lib.hid (below_thru (below_alloc w (.cells #[.slice pba pbn pbc, .int .i64 pcbk, .string pcbnm, .int .i64 pcbm, .int .i64 pcbtk, .slice pcbta pcbtn pcbtc, .slice pcbsa pcbsn pcbsc, .slice pcca pccn pccc, .slice pda pdn pdc] 33)) (Nat.le_refl _) hb)
    replace H2 := Lib.hid (H2.out.below hb)
    replace H3 := Lib.hid (H3.out.below hb)
    clear hb H1
    rcases hr with ⟨hr1, hs1⟩ | ⟨hr1, hs1⟩
    · go_wp2_with fail
      go_ret
      exact ⟨-1, rfl, HN.out, Or.inl ⟨by omega, by have := hbk.out; omega⟩⟩
    have c1 := XA.out.2 1
    have c2 := XA.out.2 2
    have c3 := XA.out.2 3
    have c4 := XA.out.2 4
    have c5 := XA.out.2 5
    have c6 := XA.out.2 6
    have c7 := XA.out.2 7
    go_wp2_with fail
    clear c1 c2 c3 c4 c5 c6 c7
    refine (szEdt d _ x2 r1 _ (by omega) (by omega) H2.out).mono ?_
    rintro e' w2 ⟨r2, rfl, hb, hr⟩
    replace XA := Lib.hid (XA.out.below hb)
    replace HN := Lib.hid (below_thru HN.out (Nat.le_refl _) hb)
    replace H3 := Lib.hid (H3.out.below hb)
    clear hb H2
    rcases hr with ⟨hr2, hs2⟩ | ⟨hr2, hs2⟩
    · go_wp2_with fail
      go_ret
      exact ⟨-1, rfl, HN.out, Or.inl ⟨by omega, by have := hbk.out; omega⟩⟩
    have c8 := XA.out.2 8
    go_wp2_with fail
    clear c8
    refine (szEdts d _ x3 r2 _ (by omega) (by omega) H3.out).mono ?_
    rintro e' w3 ⟨r3, rfl, hb, hr⟩
    replace XA := Lib.hid (XA.out.below hb)
    replace HN := Lib.hid (below_thru HN.out (Nat.le_refl _) hb)
    clear hb H3
    rcases hr with ⟨hr3, hs3⟩ | ⟨hr3, hs3⟩
    · go_wp2_with fail
      go_ret
      exact ⟨-1, rfl, HN.out, Or.inl ⟨by omega, by have := hbk.out; omega⟩⟩
    go_wp2_with fail
    go_ret
    exact ⟨r3, rfl, HN.out, Or.inr ⟨by omega, by rw [hbk.out]; omega⟩⟩
end Go.Proofs.Ytmmnjdhmankieaa
