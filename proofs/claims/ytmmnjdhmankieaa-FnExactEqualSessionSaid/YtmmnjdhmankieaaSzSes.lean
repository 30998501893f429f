/-
  Proved: laws.szSession says whether what the value holds fits into what is left; it leaves the memory that was there as it was.
-/
import Derived.Test.YtmmnjdhmankieaaAtSes
import Derived.Test.YtmmnjdhmankieaaSzHis
import Derived.Test.YtmmnjdhmankieaaSzTsts
import Derived.Test.YtmmnjdhmankieaaRecBase
namespace Go.Proofs.Ytmmnjdhmankieaa
open Go.RowKit

set_option maxRecDepth 100000 in
set_option maxHeartbeats 4000000 in
theorem szSes (d : Nat) (v : Value) (x : Ses) (left : Int) (w : World) (hl0 : 0 ≤ left) (hl1 : left ≤ 1048576) (h : SesAt w d v x) :
    Calls Try.prog 11 #[v, .int .i64 left] w (SzTyEnd x.bulk left w) := by
  cases x with
  | mk x1 x2 x3 x4 =>
    obtain ⟨pbba, pbbn, pbbc, pbcbk, pbcbnm, pbcbm, pbcbtk, pbcbta, pbcbtn, pbcbtc, pbcbsa, pbcbsn, pbcbsc, pbcca, pbccn, pbccc, pbda, pbdn, pbdc, pca, pcn, pcc, pdk, pdnm, pdm, pdtk, pdta, pdtn, pdtc, pdsa, pdsn, pdsc, pek, penm, pem, petk, peta, petn, petc, pesa, pesn, pesc, rfl, h1, h2, h3, h4⟩ := h
    dsimp only at h1 h2 h3 h4 ⊢
    have hb0 := below_alloc w (.cells #[.slice pbba pbbn pbbc, .int .i64 pbcbk, .string pbcbnm, .int .i64 pbcbm, .int .i64 pbcbtk, .slice pbcbta pbcbtn pbcbtc, .slice pbcbsa pbcbsn pbcbsc, .slice pbcca pbccn pbccc, .slice pbda pbdn pbdc, .slice pca pcn pcc, .int .i64 pdk, .string pdnm, .int .i64 pdm, .int .i64 pdtk, .slice pdta pdtn pdtc, .slice pdsa pdsn pdsc, .int .i64 pek, .string penm, .int .i64 pem, .int .i64 petk, .slice peta petn petc, .slice pesa pesn pesc] 36)
    have H1 := Lib.hid (h1.below hb0)
    have H2 := Lib.hid (h2.below hb0)
    have H3 := Lib.hid (h3.below hb0)
    have H4 := Lib.hid (h4.below hb0)
    clear h1 h2 h3 h4 hb0
    have hbk : Hid ((Ses.mk x1 x2 x3 x4).bulk = x1.bulk + Tst.bulks x2 + x3.bulk + x4.bulk) := rfl
    go_enter Try.func11, Try.ntmps11
    go_wp2_with fail
    refine (szHis d _ x1 left _ (by omega) (by omega) H1.out).mono ?_
    rintro e' w1 ⟨r1, rfl, hb, hr⟩
    have XA := Lib.hid ((BoxAt.new w #[.slice pbba pbbn pbbc, .int .i64 pbcbk, .string pbcbnm, .int .i64 pbcbm, .int .i64 pbcbtk, .slice pbcbta pbcbtn pbcbtc, .slice pbcbsa pbcbsn pbcbsc, .slice pbcca pbccn pbccc, .slice pbda pbdn pbdc, .slice pca pcn pcc, .int .i64 pdk, .string pdnm, .int .i64 pdm, .int .i64 pdtk, .slice pdta pdtn pdtc, .slice pdsa pdsn pdsc, .int .i64 pek, .string penm, .int .i64 pem, .int .i64 petk, .slice peta petn petc, .slice pesa pesn pesc] 36).below hb)
    have HN := Lib.hid (below_thru (below_alloc w (.cells #[.slice pbba pbbn pbbc, .int .i64 pbcbk, .string pbcbnm, .int .i64 pbcbm, .int .i64 pbcbtk, .slice pbcbta pbcbtn pbcbtc, .slice pbcbsa pbcbsn pbcbsc, .slice pbcca pbccn pbccc, .slice pbda pbdn pbdc, .slice pca pcn pcc, .int .i64 pdk, .string pdnm, .int .i64 pdm, .int .i64 pdtk, .slice pdta pdtn pdtc, .slice pdsa pdsn pdsc, .int .i64 pek, .string penm, .int .i64 pem, .int .i64 petk, .slice peta petn petc, .slice pesa pesn pesc] 36)) (Nat.le_refl _) hb)
    replace H2 := Lib.hid (H2.out.below hb)
    replace H3 := Lib.hid (H3.out.below hb)
    replace H4 := Lib.hid (H4.out.below hb)
    clear hb H1
    rcases hr with ⟨hr1, hs1⟩ | ⟨hr1, hs1⟩
    · go_wp2_with fail
      go_ret
      exact ⟨-1, rfl, HN.out, Or.inl ⟨by omega, by have := hbk.out; omega⟩⟩
    have c9 := XA.out.2 9
    go_wp2_with fail
    clear c9
    refine (szTsts d _ x2 r1 _ (by omega) (by omega) H2.out).mono ?_
    rintro e' w2 ⟨r2, rfl, hb, hr⟩
    replace XA := Lib.hid (XA.out.below hb)
    replace HN := Lib.hid (below_thru HN.out (Nat.le_refl _) hb)
    replace H3 := Lib.hid (H3.out.below hb)
    replace H4 := Lib.hid (H4.out.below hb)
    clear hb H2
    rcases hr with ⟨hr2, hs2⟩ | ⟨hr2, hs2⟩
    · go_wp2_with fail
      go_ret
      exact ⟨-1, rfl, HN.out, Or.inl ⟨by omega, by have := hbk.out; omega⟩⟩
    have c10 := XA.out.2 10
    have c11 := XA.out.2 11
    have c12 := XA.out.2 12
    have c13 := XA.out.2 13
    have c14 := XA.out.2 14
    have c15 := XA.out.2 15
    go_wp2_with fail
    clear c10 c11 c12 c13 c14 c15
    refine (szExr d _ x3 r2 _ (by omega) (by omega) H3.out).mono ?_
    rintro e' w3 ⟨r3, rfl, hb, hr⟩
    replace XA := Lib.hid (XA.out.below hb)
    replace HN := Lib.hid (below_thru HN.out (Nat.le_refl _) hb)
    replace H4 := Lib.hid (H4.out.below hb)
    clear hb H3
    rcases hr with ⟨hr3, hs3⟩ | ⟨hr3, hs3⟩
    · go_wp2_with fail
      go_ret
      exact ⟨-1, rfl, HN.out, Or.inl ⟨by omega, by have := hbk.out; omega⟩⟩
    have c16 := XA.out.2 16
    have c17 := XA.out.2 17
    have c18 := XA.out.2 18
    have c19 := XA.out.2 19
    have c20 := XA.out.2 20
    have c21 := XA.out.2 21
    go_wp2_with fail
    clear c16 c17 c18 c19 c20 c21
    refine (szExr d _ x4 r3 _ (by omega) (by omega) H4.out).mono ?_
    rintro e' w4 ⟨r4, rfl, hb, hr⟩
    replace XA := Lib.hid (XA.out.below hb)
    replace HN := Lib.hid (below_thru HN.out (Nat.le_refl _) hb)
    clear hb H4
    rcases hr with ⟨hr4, hs4⟩ | ⟨hr4, hs4⟩
    · go_wp2_with fail
      go_ret
      exact ⟨-1, rfl, HN.out, Or.inl ⟨by omega, by have := hbk.out; omega⟩⟩
    go_wp2_with fail
    go_ret
    exact ⟨r4, rfl, HN.out, Or.inr ⟨by omega, by rw [hbk.out]; omega⟩⟩
end Go.Proofs.Ytmmnjdhmankieaa
