/-
  Proved: the law FnExactEqualSession: for every two sessions, impl.EqualSession returns the same as the reference and changes no argument. Nothing is asked of the input.
-/
import Derived.Test.YtmmnjdhmankieaaAtHis
import Derived.Test.YtmmnjdhmankieaaEqEdts
import Derived.Test.YtmmnjdhmankieaaEqEdt
import Derived.Test.YtmmnjdhmankieaaAtTst
import Derived.Test.YtmmnjdhmankieaaRecBase
import Derived.Test.YtmmnjdhmankieaaAtTsts
import Derived.StillTailTactics
import Derived.Test.YtmmnjdhmankieaaAtSes
import Derived.Test.YtmmnjdhmankieaaExTree
import Derived.Test.YtmmnjdhmankieaaTyEq
import Derived.Test.YtmmnjdhmankieaaAtEdts
import Derived.Test.YtmmnjdhmankieaaInts
import Derived.BigQuiet
import Derived.Deep.QuietTactic
import Derived.Test.YtmmnjdhmankieaaHold
import Derived.Deep.RegionHeld3
import Derived.Test.YtmmnjdhmankieaaToSes
import Derived.Test.YtmmnjdhmankieaaSzSes
import Derived.Test.YtmmnjdhmankieaaLoadBox
import Derived.Test.YtmmnjdhmankieaaRows
import Derived.Test.YtmmnjdhmankieaaLaw
import Derived.Deep.DeepHandedRow
import Derived.Lib.LaidTab
import Derived.LaidMore
import Derived.Test.YtmmnjdhmankieaaArgSes
/-
  Proved: laws.eqHistory answers true for two readings of the same value, and changes no memory that was there.
-/
namespace Go.Proofs.Ytmmnjdhmankieaa
open Go.RowKit

set_option maxRecDepth 100000 in
set_option maxHeartbeats 4000000 in
theorem eqHis (d : Nat) (v1 v2 : Value) (x : His) (w : World) (h : HisAt w d v1 x) (h' : HisAt w d v2 x) :
    Calls Try.prog 59 #[v1, v2] w (EqTrueEnd w) := by
  cases x with
  | mk x1 x2 x3 =>
    obtain ⟨pba, pbn, pbc, pcbk, pcbnm, pcbm, pcbtk, pcbta, pcbtn, pcbtc, pcbsa, pcbsn, pcbsc, pcca, pccn, pccc, pda, pdn, pdc, rfl, h1, h2, h3⟩ := h
    obtain ⟨uba, ubn, ubc, ucbk, ucbnm, ucbm, ucbtk, ucbta, ucbtn, ucbtc, ucbsa, ucbsn, ucbsc, ucca, uccn, uccc, uda, udn, udc, rfl, k1, k2, k3⟩ := h'
    dsimp only at h1 h2 h3 k1 k2 k3 ⊢
    have e2 : Below w.heap.size w ((w.alloc (.cells #[.slice pba pbn pbc, .int .i64 pcbk, .string pcbnm, .int .i64 pcbm, .int .i64 pcbtk, .slice pcbta pcbtn pcbtc, .slice pcbsa pcbsn pcbsc, .slice pcca pccn pccc, .slice pda pdn pdc] 49)).alloc (.cells #[.slice uba ubn ubc, .int .i64 ucbk, .string ucbnm, .int .i64 ucbm, .int .i64 ucbtk, .slice ucbta ucbtn ucbtc, .slice ucbsa ucbsn ucbsc, .slice ucca uccn uccc, .slice uda udn udc] 49)) := ((Below.refl _ _).alloc (Nat.le_refl _) _).alloc (by simp) _
    have H1 := Lib.hid (h1.below e2)
    have J1 := Lib.hid (k1.below e2)
    have H2 := Lib.hid (h2.below e2)
    have J2 := Lib.hid (k2.below e2)
    have H3 := Lib.hid (h3.below e2)
    have J3 := Lib.hid (k3.below e2)
    clear e2 h1 k1 h2 k2 h3 k3
    go_enter Try.func59, Try.ntmps59
    go_wp2_with fail
    refine (eqEdts d _ _ x1 _ H1.out J1.out).mono ?_
    rintro e' w1 ⟨rfl, hb⟩
    have HB := Lib.hid (two_on (Below.refl _ _) hb)
    replace H2 := Lib.hid (H2.out.below hb)
    replace J2 := Lib.hid (J2.out.below hb)
    replace H3 := Lib.hid (H3.out.below hb)
    replace J3 := Lib.hid (J3.out.below hb)
    clear hb H1 J1
    have c1 := two_first HB.out 1
    have u1 := two_next HB.out 1
    have c2 := two_first HB.out 2
    have u2 := two_next HB.out 2
    have c3 := two_first HB.out 3
    have u3 := two_next HB.out 3
    have c4 := two_first HB.out 4
    have u4 := two_next HB.out 4
    have c5 := two_first HB.out 5
    have u5 := two_next HB.out 5
    have c6 := two_first HB.out 6
    have u6 := two_next HB.out 6
    have c7 := two_first HB.out 7
    have u7 := two_next HB.out 7
    go_wp2_with fail
    clear c1 u1 c2 u2 c3 u3 c4 u4 c5 u5 c6 u6 c7 u7
    refine (eqEdt d _ _ x2 _ H2.out J2.out).mono ?_
    rintro e' w2 ⟨rfl, hb⟩
    replace HB := Lib.hid (two_on HB.out hb)
    replace H3 := Lib.hid (H3.out.below hb)
    replace J3 := Lib.hid (J3.out.below hb)
    clear hb H2 J2
    have c8 := two_first HB.out 8
    have u8 := two_next HB.out 8
    go_wp2_with fail
    clear c8 u8
    refine (eqEdts d _ _ x3 _ H3.out J3.out).mono ?_
    rintro e' w3 ⟨rfl, hb⟩
    replace HB := Lib.hid (two_on HB.out hb)
    clear hb H3 J3
    go_wp2_with fail
    go_ret
    exact ⟨rfl, two_below HB.out⟩
end Go.Proofs.Ytmmnjdhmankieaa
/-
  Proved: laws.eqTest answers true for two readings of the same value, and changes no memory that was there.
-/
namespace Go.Proofs.Ytmmnjdhmankieaa
open Go.RowKit

set_option maxRecDepth 100000 in
set_option maxHeartbeats 4000000 in
theorem eqTst (d : Nat) (v1 v2 : Value) (x : Tst) (w : World) (h : TstAt w d v1 x) (h' : TstAt w d v2 x) :
    Calls Try.prog 105 #[v1, v2] w (EqTrueEnd w) := by
  cases x with
  | mk x1 x2 =>
    obtain ⟨pbk, pbnm, pbm, pbtk, pbta, pbtn, pbtc, pbsa, pbsn, pbsc, pck, pcnm, pcm, pctk, pcta, pctn, pctc, pcsa, pcsn, pcsc, rfl, h1, h2⟩ := h
    obtain ⟨ubk, ubnm, ubm, ubtk, ubta, ubtn, ubtc, ubsa, ubsn, ubsc, uck, ucnm, ucm, uctk, ucta, uctn, uctc, ucsa, ucsn, ucsc, rfl, k1, k2⟩ := h'
    dsimp only at h1 h2 k1 k2 ⊢
    have e2 : Below w.heap.size w ((w.alloc (.cells #[.int .i64 pbk, .string pbnm, .int .i64 pbm, .int .i64 pbtk, .slice pbta pbtn pbtc, .slice pbsa pbsn pbsc, .int .i64 pck, .string pcnm, .int .i64 pcm, .int .i64 pctk, .slice pcta pctn pctc, .slice pcsa pcsn pcsc] 85)).alloc (.cells #[.int .i64 ubk, .string ubnm, .int .i64 ubm, .int .i64 ubtk, .slice ubta ubtn ubtc, .slice ubsa ubsn ubsc, .int .i64 uck, .string ucnm, .int .i64 ucm, .int .i64 uctk, .slice ucta uctn uctc, .slice ucsa ucsn ucsc] 85)) := ((Below.refl _ _).alloc (Nat.le_refl _) _).alloc (by simp) _
    have H1 := Lib.hid (h1.below e2)
    have J1 := Lib.hid (k1.below e2)
    have H2 := Lib.hid (h2.below e2)
    have J2 := Lib.hid (k2.below e2)
    clear e2 h1 k1 h2 k2
    go_enter Try.func105, Try.ntmps105
    go_wp2_with fail
    refine (eqExr d _ _ x1 _ H1.out J1.out).mono ?_
    rintro e' w1 ⟨rfl, hb⟩
    have HB := Lib.hid (two_on (Below.refl _ _) hb)
    replace H2 := Lib.hid (H2.out.below hb)
    replace J2 := Lib.hid (J2.out.below hb)
    clear hb H1 J1
    have c6 := two_first HB.out 6
    have u6 := two_next HB.out 6
    have c7 := two_first HB.out 7
    have u7 := two_next HB.out 7
    have c8 := two_first HB.out 8
    have u8 := two_next HB.out 8
    have c9 := two_first HB.out 9
    have u9 := two_next HB.out 9
    have c10 := two_first HB.out 10
    have u10 := two_next HB.out 10
    have c11 := two_first HB.out 11
    have u11 := two_next HB.out 11
    go_wp2_with fail
    clear c6 u6 c7 u7 c8 u8 c9 u9 c10 u10 c11 u11
    refine (eqExr d _ _ x2 _ H2.out J2.out).mono ?_
    rintro e' w2 ⟨rfl, hb⟩
    replace HB := Lib.hid (two_on HB.out hb)
    clear hb H2 J2
    go_wp2_with fail
    go_ret
    exact ⟨rfl, two_below HB.out⟩
end Go.Proofs.Ytmmnjdhmankieaa
/-
  Proved: laws.eqTestS answers true for two readings of the same list, and changes no memory that was there.
-/
namespace Go.Proofs.Ytmmnjdhmankieaa
open Go.RowKit

set_option maxRecDepth 100000 in
set_option maxHeartbeats 4000000 in
theorem eqTsts (d : Nat) (v1 v2 : Value) (ts : List Tst) (w : World) (h1 : TstsAt w d v1 ts) (h2 : TstsAt w d v2 ts) :
    Calls Try.prog 60 #[v1, v2] w (EqTrueEnd w) := by
  obtain ⟨a1, cap1, rfl, hcap1, hm1, hat1⟩ := h1
  obtain ⟨a2, cap2, rfl, hcap2, hm2, hat2⟩ := h2
  have HA1 := Lib.hid hat1; clear hat1
  have HA2 := Lib.hid hat2; clear hat2
  go_enter Try.func60, Try.ntmps60
  go_wp2_with fail
  go_loopw [5] (fun i wr => ∃ k : Nat, k ≤ ts.length ∧ i = .int .i64 k ∧ Below w.heap.size w wr) (fun i _ => ts.length - (intOf i).toNat)
  case atStart => exact ⟨0, by omega, rfl, Below.refl _ _⟩
  case round =>
    obtain ⟨k, hk, rfl, hb⟩ := hrel
    have HB := Lib.hid hb; clear hb
    by_cases hlt : k < ts.length
    · obtain ⟨b1, off1, x0, x1, x2, x3, x4, x5, x6, x7, x8, x9, x10, x11, rfl, hbl1, h10, h11, h12, h13, h14, h15, h16, h17, h18, h19, h110, h111, ht1⟩ := HA1.out k hlt
      obtain ⟨b2, off2, y0, y1, y2, y3, y4, y5, y6, y7, y8, y9, y10, y11, rfl, hbl2, h20, h21, h22, h23, h24, h25, h26, h27, h28, h29, h210, h211, ht2⟩ := HA2.out k hlt
      have c10 : wr.cell? ⟨b1, off1 + k * 12, none⟩ = some x0 := by rw [HB.out.cell (p := ⟨b1, off1 + k * 12, none⟩) hbl1]; exact h10
      have c20 : wr.cell? ⟨b2, off2 + k * 12, none⟩ = some y0 := by rw [HB.out.cell (p := ⟨b2, off2 + k * 12, none⟩) hbl2]; exact h20
      have c11 : wr.cell? ⟨b1, off1 + k * 12 + 1, none⟩ = some x1 := by rw [HB.out.cell (p := ⟨b1, off1 + k * 12 + 1, none⟩) hbl1]; exact h11
      have c21 : wr.cell? ⟨b2, off2 + k * 12 + 1, none⟩ = some y1 := by rw [HB.out.cell (p := ⟨b2, off2 + k * 12 + 1, none⟩) hbl2]; exact h21
      have c12 : wr.cell? ⟨b1, off1 + k * 12 + 2, none⟩ = some x2 := by rw [HB.out.cell (p := ⟨b1, off1 + k * 12 + 2, none⟩) hbl1]; exact h12
      have c22 : wr.cell? ⟨b2, off2 + k * 12 + 2, none⟩ = some y2 := by rw [HB.out.cell (p := ⟨b2, off2 + k * 12 + 2, none⟩) hbl2]; exact h22
      have c13 : wr.cell? ⟨b1, off1 + k * 12 + 3, none⟩ = some x3 := by rw [HB.out.cell (p := ⟨b1, off1 + k * 12 + 3, none⟩) hbl1]; exact h13
      have c23 : wr.cell? ⟨b2, off2 + k * 12 + 3, none⟩ = some y3 := by rw [HB.out.cell (p := ⟨b2, off2 + k * 12 + 3, none⟩) hbl2]; exact h23
      have c14 : wr.cell? ⟨b1, off1 + k * 12 + 4, none⟩ = some x4 := by rw [HB.out.cell (p := ⟨b1, off1 + k * 12 + 4, none⟩) hbl1]; exact h14
      have c24 : wr.cell? ⟨b2, off2 + k * 12 + 4, none⟩ = some y4 := by rw [HB.out.cell (p := ⟨b2, off2 + k * 12 + 4, none⟩) hbl2]; exact h24
      have c15 : wr.cell? ⟨b1, off1 + k * 12 + 5, none⟩ = some x5 := by rw [HB.out.cell (p := ⟨b1, off1 + k * 12 + 5, none⟩) hbl1]; exact h15
      have c25 : wr.cell? ⟨b2, off2 + k * 12 + 5, none⟩ = some y5 := by rw [HB.out.cell (p := ⟨b2, off2 + k * 12 + 5, none⟩) hbl2]; exact h25
      have c16 : wr.cell? ⟨b1, off1 + k * 12 + 6, none⟩ = some x6 := by rw [HB.out.cell (p := ⟨b1, off1 + k * 12 + 6, none⟩) hbl1]; exact h16
      have c26 : wr.cell? ⟨b2, off2 + k * 12 + 6, none⟩ = some y6 := by rw [HB.out.cell (p := ⟨b2, off2 + k * 12 + 6, none⟩) hbl2]; exact h26
      have c17 : wr.cell? ⟨b1, off1 + k * 12 + 7, none⟩ = some x7 := by rw [HB.out.cell (p := ⟨b1, off1 + k * 12 + 7, none⟩) hbl1]; exact h17
      have c27 : wr.cell? ⟨b2, off2 + k * 12 + 7, none⟩ = some y7 := by rw [HB.out.cell (p := ⟨b2, off2 + k * 12 + 7, none⟩) hbl2]; exact h27
      have c18 : wr.cell? ⟨b1, off1 + k * 12 + 8, none⟩ = some x8 := by rw [HB.out.cell (p := ⟨b1, off1 + k * 12 + 8, none⟩) hbl1]; exact h18
      have c28 : wr.cell? ⟨b2, off2 + k * 12 + 8, none⟩ = some y8 := by rw [HB.out.cell (p := ⟨b2, off2 + k * 12 + 8, none⟩) hbl2]; exact h28
      have c19 : wr.cell? ⟨b1, off1 + k * 12 + 9, none⟩ = some x9 := by rw [HB.out.cell (p := ⟨b1, off1 + k * 12 + 9, none⟩) hbl1]; exact h19
      have c29 : wr.cell? ⟨b2, off2 + k * 12 + 9, none⟩ = some y9 := by rw [HB.out.cell (p := ⟨b2, off2 + k * 12 + 9, none⟩) hbl2]; exact h29
      have c110 : wr.cell? ⟨b1, off1 + k * 12 + 10, none⟩ = some x10 := by rw [HB.out.cell (p := ⟨b1, off1 + k * 12 + 10, none⟩) hbl1]; exact h110
      have c210 : wr.cell? ⟨b2, off2 + k * 12 + 10, none⟩ = some y10 := by rw [HB.out.cell (p := ⟨b2, off2 + k * 12 + 10, none⟩) hbl2]; exact h210
      have c111 : wr.cell? ⟨b1, off1 + k * 12 + 11, none⟩ = some x11 := by rw [HB.out.cell (p := ⟨b1, off1 + k * 12 + 11, none⟩) hbl1]; exact h111
      have c211 : wr.cell? ⟨b2, off2 + k * 12 + 11, none⟩ = some y11 := by rw [HB.out.cell (p := ⟨b2, off2 + k * 12 + 11, none⟩) hbl2]; exact h211
      have HT1 := Lib.hid (ht1.below HB.out.drew)
      have HT2 := Lib.hid (ht2.below HB.out.drew)
      clear ht1 ht2 h10 h11 h12 h13 h14 h15 h16 h17 h18 h19 h110 h111 h20 h21 h22 h23 h24 h25 h26 h27 h28 h29 h210 h211
      go_wp2_with fail
      go_still_tail 8, (by kernel_rfl)
      change wpList _ _ _ _ _ wr.drew
      go_wp2_with fail
      refine (eqTst d _ _ _ wr.drew HT1.out HT2.out).mono ?_
      rintro e w' ⟨rfl, hb1⟩
      have HB2 := Lib.hid (HB.out.drew.trans (hb1.mono HB.out.drew.size)); clear hb1
      go_wp2_with fail
      exact ⟨⟨k + 1, by omega, by go_num, HB2.out⟩, by simp [intOf]; omega⟩
    · go_wp2_with fail
      go_ret
      exact ⟨rfl, HB.out⟩
end Go.Proofs.Ytmmnjdhmankieaa
/-
  Proved: laws.eqSession answers true for two readings of the same value, and changes no memory that was there.
-/
namespace Go.Proofs.Ytmmnjdhmankieaa
open Go.RowKit

set_option maxRecDepth 100000 in
set_option maxHeartbeats 4000000 in
theorem eqSes (d : Nat) (v1 v2 : Value) (x : Ses) (w : World) (h : SesAt w d v1 x) (h' : SesAt w d v2 x) :
    Calls Try.prog 15 #[v1, v2] w (EqTrueEnd w) := by
  cases x with
  | mk x1 x2 x3 x4 =>
    obtain ⟨pbba, pbbn, pbbc, pbcbk, pbcbnm, pbcbm, pbcbtk, pbcbta, pbcbtn, pbcbtc, pbcbsa, pbcbsn, pbcbsc, pbcca, pbccn, pbccc, pbda, pbdn, pbdc, pca, pcn, pcc, pdk, pdnm, pdm, pdtk, pdta, pdtn, pdtc, pdsa, pdsn, pdsc, pek, penm, pem, petk, peta, petn, petc, pesa, pesn, pesc, rfl, h1, h2, h3, h4⟩ := h
    obtain ⟨ubba, ubbn, ubbc, ubcbk, ubcbnm, ubcbm, ubcbtk, ubcbta, ubcbtn, ubcbtc, ubcbsa, ubcbsn, ubcbsc, ubcca, ubccn, ubccc, ubda, ubdn, ubdc, uca, ucn, ucc, udk, udnm, udm, udtk, udta, udtn, udtc, udsa, udsn, udsc, uek, uenm, uem, uetk, ueta, uetn, uetc, uesa, uesn, uesc, rfl, k1, k2, k3, k4⟩ := h'
    dsimp only at h1 h2 h3 h4 k1 k2 k3 k4 ⊢
    have e2 : Below w.heap.size w ((w.alloc (.cells #[.slice pbba pbbn pbbc, .int .i64 pbcbk, .string pbcbnm, .int .i64 pbcbm, .int .i64 pbcbtk, .slice pbcbta pbcbtn pbcbtc, .slice pbcbsa pbcbsn pbcbsc, .slice pbcca pbccn pbccc, .slice pbda pbdn pbdc, .slice pca pcn pcc, .int .i64 pdk, .string pdnm, .int .i64 pdm, .int .i64 pdtk, .slice pdta pdtn pdtc, .slice pdsa pdsn pdsc, .int .i64 pek, .string penm, .int .i64 pem, .int .i64 petk, .slice peta petn petc, .slice pesa pesn pesc] 52)).alloc (.cells #[.slice ubba ubbn ubbc, .int .i64 ubcbk, .string ubcbnm, .int .i64 ubcbm, .int .i64 ubcbtk, .slice ubcbta ubcbtn ubcbtc, .slice ubcbsa ubcbsn ubcbsc, .slice ubcca ubccn ubccc, .slice ubda ubdn ubdc, .slice uca ucn ucc, .int .i64 udk, .string udnm, .int .i64 udm, .int .i64 udtk, .slice udta udtn udtc, .slice udsa udsn udsc, .int .i64 uek, .string uenm, .int .i64 uem, .int .i64 uetk, .slice ueta uetn uetc, .slice uesa uesn uesc] 52)) := ((Below.refl _ _).alloc (Nat.le_refl _) _).alloc (by simp) _
    have H1 := Lib.hid (h1.below e2)
    have J1 := Lib.hid (k1.below e2)
    have H2 := Lib.hid (h2.below e2)
    have J2 := Lib.hid (k2.below e2)
    have H3 := Lib.hid (h3.below e2)
    have J3 := Lib.hid (k3.below e2)
    have H4 := Lib.hid (h4.below e2)
    have J4 := Lib.hid (k4.below e2)
    clear e2 h1 k1 h2 k2 h3 k3 h4 k4
    go_enter Try.func15, Try.ntmps15
    go_wp2_with fail
    refine (eqHis d _ _ x1 _ H1.out J1.out).mono ?_
    rintro e' w1 ⟨rfl, hb⟩
    have HB := Lib.hid (two_on (Below.refl _ _) hb)
    replace H2 := Lib.hid (H2.out.below hb)
    replace J2 := Lib.hid (J2.out.below hb)
    replace H3 := Lib.hid (H3.out.below hb)
    replace J3 := Lib.hid (J3.out.below hb)
    replace H4 := Lib.hid (H4.out.below hb)
    replace J4 := Lib.hid (J4.out.below hb)
    clear hb H1 J1
    have c9 := two_first HB.out 9
    have u9 := two_next HB.out 9
    go_wp2_with fail
    clear c9 u9
    refine (eqTsts d _ _ x2 _ H2.out J2.out).mono ?_
    rintro e' w2 ⟨rfl, hb⟩
    replace HB := Lib.hid (two_on HB.out hb)
    replace H3 := Lib.hid (H3.out.below hb)
    replace J3 := Lib.hid (J3.out.below hb)
    replace H4 := Lib.hid (H4.out.below hb)
    replace J4 := Lib.hid (J4.out.below hb)
    clear hb H2 J2
    have c10 := two_first HB.out 10
    have u10 := two_next HB.out 10
    have c11 := two_first HB.out 11
    have u11 := two_next HB.out 11
    have c12 := two_first HB.out 12
    have u12 := two_next HB.out 12
    have c13 := two_first HB.out 13
    have u13 := two_next HB.out 13
    have c14 := two_first HB.out 14
    have u14 := two_next HB.out 14
    have c15 := two_first HB.out 15
    have u15 := two_next HB.out 15
    go_wp2_with fail
    clear c10 u10 c11 u11 c12 u12 c13 u13 c14 u14 c15 u15
    refine (eqExr d _ _ x3 _ H3.out J3.out).mono ?_
    rintro e' w3 ⟨rfl, hb⟩
    replace HB := Lib.hid (two_on HB.out hb)
    replace H4 := Lib.hid (H4.out.below hb)
    replace J4 := Lib.hid (J4.out.below hb)
    clear hb H3 J3
    have c16 := two_first HB.out 16
    have u16 := two_next HB.out 16
    have c17 := two_first HB.out 17
    have u17 := two_next HB.out 17
    have c18 := two_first HB.out 18
    have u18 := two_next HB.out 18
    have c19 := two_first HB.out 19
    have u19 := two_next HB.out 19
    have c20 := two_first HB.out 20
    have u20 := two_next HB.out 20
    have c21 := two_first HB.out 21
    have u21 := two_next HB.out 21
    go_wp2_with fail
    clear c16 u16 c17 u17 c18 u18 c19 u19 c20 u20 c21 u21
    refine (eqExr d _ _ x4 _ H4.out J4.out).mono ?_
    rintro e' w4 ⟨rfl, hb⟩
    replace HB := Lib.hid (two_on HB.out hb)
    clear hb H4 J4
    go_wp2_with fail
    go_ret
    exact ⟨rfl, two_below HB.out⟩
end Go.Proofs.Ytmmnjdhmankieaa
/-
  Proved: plain facts on equal expressions; the memory that was there stays as it was.
-/
namespace Go.Proofs.Ytmmnjdhmankieaa
open Go.RowKit

theorem text_ne {a b : ByteArray} (h : a ≠ b) : (a.toList == b.toList) = false := by
  rw [ByteArray.toList_eq, ByteArray.toList_eq]
  refine beq_false_of_ne fun e => h ?_
  cases a; cases b
  exact congrArg ByteArray.mk (Array.toList_inj.1 e)
/-- Two expressions have equal roots: all fields but the parts, and the number of these. -/
def Ex.roots : Ex → Ex → Bool
  | .node k nm n ty es, .node l nl m tz fs => decide (k = l) && (decide (nm = nl) && (decide (n = m) && (ty.beq tz && decide (es.length = fs.length))))
mutual
def Ex.beq : Ex → Ex → Bool
  | .node k nm n ty es, .node l nl m tz fs => (decide (k = l) && (decide (nm = nl) && (decide (n = m) && (ty.beq tz && decide (es.length = fs.length))))) && Ex.beqs es fs
def Ex.beqs : List Ex → List Ex → Bool
  | [], [] => true
  | a :: r, b :: s => a.beq b && Ex.beqs r s
  | _, _ => false
end
theorem Ex.beqs_take : ∀ (cs bs : List Ex) (k : Nat) (h : k < cs.length) (h' : k < bs.length), Ex.beqs (cs.take (k + 1)) (bs.take (k + 1)) = (Ex.beqs (cs.take k) (bs.take k) && cs[k].beq bs[k])
  | [], _, _, h, _ => by simp at h
  | _ :: _, [], _, _, h => by simp at h
  | a :: r, b :: s, 0, _, _ => by simp [Ex.beqs]
  | a :: r, b :: s, k + 1, h, h' => by
    simp only [List.take_succ_cons, Ex.beqs, List.getElem_cons_succ]
    rw [Ex.beqs_take r s k (by simpa using h) (by simpa using h'), Bool.and_assoc]
theorem Ex.beqs_false : ∀ (cs bs : List Ex) (k : Nat), Ex.beqs (cs.take k) (bs.take k) = false → cs.length = bs.length → Ex.beqs cs bs = false
  | [], [], k, h, _ => by simp [Ex.beqs] at h
  | [], _ :: _, _, _, e => by simp at e
  | _ :: _, [], _, _, e => by simp at e
  | a :: r, b :: s, 0, h, _ => by simp [Ex.beqs] at h
  | a :: r, b :: s, k + 1, h, e => by
    simp only [List.take_succ_cons, Ex.beqs, Bool.and_eq_false_iff] at h ⊢
    rcases h with h | h
    · exact Or.inl h
    · exact Or.inr (Ex.beqs_false r s k h (by simpa using e))
end Go.Proofs.Ytmmnjdhmankieaa
/-
  Proved: plain facts on equal values of the kind Edit; no program.
-/
namespace Go.Proofs.Ytmmnjdhmankieaa
open Go.RowKit

def Edt.beq (a b : Edt) : Bool := (Ex.beq a.ex b.ex) && (decide (a.path = b.path))
def Edt.beqs : List Edt → List Edt → Bool
  | [], [] => true
  | a :: r, b :: s => a.beq b && Edt.beqs r s
  | _, _ => false
theorem Edt.beqs_len : ∀ (cs bs : List Edt), cs.length ≠ bs.length → Edt.beqs cs bs = false
  | [], [], h => (h rfl).elim
  | [], _ :: _, _ => rfl
  | _ :: _, [], _ => rfl
  | a :: r, b :: s, h => by
    simp only [Edt.beqs, Edt.beqs_len r s (by simpa using h), Bool.and_false]
theorem Edt.beqs_take : ∀ (cs bs : List Edt) (k : Nat) (h : k < cs.length) (h' : k < bs.length), Edt.beqs (cs.take (k + 1)) (bs.take (k + 1)) = (Edt.beqs (cs.take k) (bs.take k) && cs[k].beq bs[k])
  | [], _, _, h, _ => by simp at h
  | _ :: _, [], _, _, h => by simp at h
  | a :: r, b :: s, 0, _, _ => by simp [Edt.beqs]
  | a :: r, b :: s, k + 1, h, h' => by
    simp only [List.take_succ_cons, Edt.beqs, List.getElem_cons_succ]
    rw [Edt.beqs_take r s k (by simpa using h) (by simpa using h'), Bool.and_assoc]
theorem Edt.beqs_false : ∀ (cs bs : List Edt) (k : Nat), Edt.beqs (cs.take k) (bs.take k) = false → cs.length = bs.length → Edt.beqs cs bs = false
  | [], [], k, h, _ => by simp [Edt.beqs] at h
  | [], _ :: _, _, _, e => by simp at e
  | _ :: _, [], _, _, e => by simp at e
  | a :: r, b :: s, 0, h, _ => by simp [Edt.beqs] at h
  | a :: r, b :: s, k + 1, h, e => by
    simp only [List.take_succ_cons, Edt.beqs, Bool.and_eq_false_iff] at h ⊢
    rcases h with h | h
    · exact Or.inl h
    · exact Or.inr (Edt.beqs_false r s k h (by simpa using e))
theorem Edt.beqs_bad {cs bs : List Edt} {k : Nat} (h : k < cs.length) (h' : k < bs.length) (e : cs.length = bs.length) (hb : cs[k].beq bs[k] = false) : Edt.beqs cs bs = false :=
  Edt.beqs_false cs bs (k + 1) (by rw [Edt.beqs_take cs bs k h h', hb, Bool.and_false]) e
end Go.Proofs.Ytmmnjdhmankieaa
/-
  Proved: plain facts on equal values of the kind History; no program.
-/
namespace Go.Proofs.Ytmmnjdhmankieaa
open Go.RowKit

def His.beq (a b : His) : Bool := (Edt.beqs a.past b.past) && (Edt.beq a.now b.now) && (Edt.beqs a.next b.next)
end Go.Proofs.Ytmmnjdhmankieaa
/-
  Proved: plain facts on equal values of the kind Test; no program.
-/
namespace Go.Proofs.Ytmmnjdhmankieaa
open Go.RowKit

def Tst.beq (a b : Tst) : Bool := (Ex.beq a.arg b.arg) && (Ex.beq a.want b.want)
def Tst.beqs : List Tst → List Tst → Bool
  | [], [] => true
  | a :: r, b :: s => a.beq b && Tst.beqs r s
  | _, _ => false
theorem Tst.beqs_len : ∀ (cs bs : List Tst), cs.length ≠ bs.length → Tst.beqs cs bs = false
  | [], [], h => (h rfl).elim
  | [], _ :: _, _ => rfl
  | _ :: _, [], _ => rfl
  | a :: r, b :: s, h => by
    simp only [Tst.beqs, Tst.beqs_len r s (by simpa using h), Bool.and_false]
theorem Tst.beqs_take : ∀ (cs bs : List Tst) (k : Nat) (h : k < cs.length) (h' : k < bs.length), Tst.beqs (cs.take (k + 1)) (bs.take (k + 1)) = (Tst.beqs (cs.take k) (bs.take k) && cs[k].beq bs[k])
  | [], _, _, h, _ => by simp at h
  | _ :: _, [], _, _, h => by simp at h
  | a :: r, b :: s, 0, _, _ => by simp [Tst.beqs]
  | a :: r, b :: s, k + 1, h, h' => by
    simp only [List.take_succ_cons, Tst.beqs, List.getElem_cons_succ]
    rw [Tst.beqs_take r s k (by simpa using h) (by simpa using h'), Bool.and_assoc]
theorem Tst.beqs_false : ∀ (cs bs : List Tst) (k : Nat), Tst.beqs (cs.take k) (bs.take k) = false → cs.length = bs.length → Tst.beqs cs bs = false
  | [], [], k, h, _ => by simp [Tst.beqs] at h
  | [], _ :: _, _, _, e => by simp at e
  | _ :: _, [], _, _, e => by simp at e
  | a :: r, b :: s, 0, h, _ => by simp [Tst.beqs] at h
  | a :: r, b :: s, k + 1, h, e => by
    simp only [List.take_succ_cons, Tst.beqs, Bool.and_eq_false_iff] at h ⊢
    rcases h with h | h
    · exact Or.inl h
    · exact Or.inr (Tst.beqs_false r s k h (by simpa using e))
theorem Tst.beqs_bad {cs bs : List Tst} {k : Nat} (h : k < cs.length) (h' : k < bs.length) (e : cs.length = bs.length) (hb : cs[k].beq bs[k] = false) : Tst.beqs cs bs = false :=
  Tst.beqs_false cs bs (k + 1) (by rw [Tst.beqs_take cs bs k h h', hb, Bool.and_false]) e
end Go.Proofs.Ytmmnjdhmankieaa
/-
  Proved: plain facts on equal values of the kind Session; no program.
-/
namespace Go.Proofs.Ytmmnjdhmankieaa
open Go.RowKit

def Ses.beq (a b : Ses) : Bool := (His.beq a.his b.his) && (Tst.beqs a.tests b.tests) && (Ex.beq a.base b.base) && (Ex.beq a.ours b.ours)
end Go.Proofs.Ytmmnjdhmankieaa
/-
  Proved: spec.EqualType says whether two trees are equal, and leaves the memory that was there as it was.
-/
namespace Go.Proofs.Ytmmnjdhmankieaa
open Go.RowKit

set_option maxRecDepth 100000 in
set_option maxHeartbeats 2000000 in
theorem specEqual : ∀ (d : Nat) (v1 v2 : Value) (t1 t2 : Ty) (w : World), TyAt w d v1 t1 → TyAt w d v2 t2 →
    Calls Try.prog 94 #[v1, v2] w fun e w' => e = .returned (.bool (t1.beq t2)) ∧ Below w.heap.size w w'
  | 0, _, _, _, _, _, h, _ => h.elim
  | d + 1, v1, v2, .node k1 cs, .node k2 bs, w, h1, h2 => by
    have IH : Hid (∀ (v1 v2 : Value) (t1 t2 : Ty) (w : World), TyAt w d v1 t1 → TyAt w d v2 t2 → Calls Try.prog 94 #[v1, v2] w fun e w' => e = .returned (.bool (t1.beq t2)) ∧ Below w.heap.size w w') := specEqual d
    obtain ⟨s1, rfl, hk0, hk1, a1, cap1, rfl, hcap1, hm1, hat1⟩ := h1
    obtain ⟨s2, rfl, hk2, hk3, a2, cap2, rfl, hcap2, hm2, hat2⟩ := h2
    have HA1 := Lib.hid hat1; clear hat1
    have HA2 := Lib.hid hat2; clear hat2
    by_cases q1 : k1 = k2
    · subst q1
      by_cases q2 : bs.length = cs.length
      · have HFIN : Hid ((Ty.node k1 cs).beq (Ty.node k1 bs) = Ty.beqs cs bs) := by show _ = _; simp [Ty.beq]
        rw [q2]
        go_enter Try.func94, Try.ntmps94
        go_wp2_with fail
        go_loopw [5] (fun i wr => ∃ k : Nat, k ≤ cs.length ∧ i = .int .i64 k ∧ Ty.beqs (cs.take k) (bs.take k) = true ∧ Below (w.heap.size + 2) ((w.alloc (.cells #[.int .i64 k1, .slice a1 cs.length cap1] 42)).alloc (.cells #[.int .i64 k1, .slice a2 cs.length cap2] 42)) wr) (fun i _ => cs.length - (intOf i).toNat)
        case atStart => exact ⟨0, by omega, rfl, by simp [Ty.beqs], Below.refl _ _⟩
        case round =>
          obtain ⟨k, hk, rfl, hf, hb⟩ := hrel
          have HF := Lib.hid hf; clear hf
          have y1 := two_first hb 1
          have y2 := two_next hb 1
          have HB := Lib.hid (two_below hb)
          have HBX := Lib.hid hb; clear hb
          by_cases hlt : k < cs.length
          · have hlt2 : k < bs.length := by omega
            obtain ⟨b1, off1, x0, x1, rfl, hbl1, hc10, hc11, ht1⟩ := HA1.out k hlt
            obtain ⟨b2, off2, z0, z1, rfl, hbl2, hc20, hc21, ht2⟩ := HA2.out k hlt2
            have c10 : wr.cell? ⟨b1, off1 + k * 2, none⟩ = some x0 := by rw [HB.out.cell (p := ⟨b1, off1 + k * 2, none⟩) hbl1]; exact hc10
            have c11 : wr.cell? ⟨b1, off1 + k * 2 + 1, none⟩ = some x1 := by rw [HB.out.cell (p := ⟨b1, off1 + k * 2 + 1, none⟩) hbl1]; exact hc11
            have c20 : wr.cell? ⟨b2, off2 + k * 2, none⟩ = some z0 := by rw [HB.out.cell (p := ⟨b2, off2 + k * 2, none⟩) hbl2]; exact hc20
            have c21 : wr.cell? ⟨b2, off2 + k * 2 + 1, none⟩ = some z1 := by rw [HB.out.cell (p := ⟨b2, off2 + k * 2 + 1, none⟩) hbl2]; exact hc21
            have HT1 := Lib.hid (ht1.below HB.out.drew)
            have HT2 := Lib.hid (ht2.below HB.out.drew)
            clear ht1 ht2 hc10 hc11 hc20 hc21
            go_wp2_with fail
            go_still_tail 10, (by kernel_rfl)
            change wpList _ _ _ _ _ wr.drew
            go_wp2_with fail
            refine (IH.out _ _ _ _ wr.drew HT1.out HT2.out).mono ?_
            rintro e w' ⟨rfl, hb1⟩
            have HN := Lib.hid (two_on HBX.out.drew hb1); clear hb1
            have HTK := Lib.hid (Ty.beqs_take cs bs k hlt hlt2)
            cases hfk : cs[k].beq bs[k] with
            | true =>
              have HFK := Lib.hid hfk; clear hfk
              go_wp2_with fail
              exact ⟨⟨k + 1, by omega, by go_num, by rw [HTK.out, HF.out, HFK.out]; rfl, HN.out⟩, by simp [intOf]; omega⟩
            | false =>
              have HFK := Lib.hid hfk; clear hfk
              go_wp2_with fail
              go_ret
              have e : Ty.beqs cs bs = false := Ty.beqs_false cs bs (k + 1) (by rw [HTK.out, HF.out, HFK.out]; rfl) q2.symm
              exact ⟨by rw [HFIN.out, e]; rfl, two_below HN.out⟩
          · obtain rfl : k = cs.length := by omega
            have e : Hid (Ty.beqs cs bs = true) := by
              have := HF.out
              rw [List.take_length, ← q2, List.take_length] at this; exact this
            go_wp2_with fail
            go_ret
            exact ⟨by rw [HFIN.out, e.out]; rfl, HB.out⟩
      · have HFIN : Hid ((Ty.node k1 cs).beq (Ty.node k1 bs) = false) := by show _ = _; simp [Ty.beq, Ty.beqs_len cs bs (fun e => q2 e.symm)]
        have q3 : ¬ ((cs.length : Int) = (bs.length : Int)) := by omega
        go_enter Try.func94, Try.ntmps94
        go_wp2_with fail
        go_ret
        exact ⟨by rw [HFIN.out]; rfl, ((Below.refl _ _).alloc (Nat.le_refl _) _).alloc (by simp) _⟩
    · have HFIN : Hid ((Ty.node k1 cs).beq (Ty.node k2 bs) = false) := by show _ = _; simp [Ty.beq, q1]
      go_enter Try.func94, Try.ntmps94
      go_wp2_with fail
      go_ret
      exact ⟨by rw [HFIN.out]; rfl, ((Below.refl _ _).alloc (Nat.le_refl _) _).alloc (by simp) _⟩
end Go.Proofs.Ytmmnjdhmankieaa
/-
  Proved: spec.EqualExpr compares two expressions; the memory that was there stays as it was.
-/
namespace Go.Proofs.Ytmmnjdhmankieaa
open Go.RowKit

set_option maxRecDepth 100000 in
set_option maxHeartbeats 4000000 in
theorem specExEqual : ∀ (d : Nat) (v1 v2 : Value) (t1 t2 : Ex) (w : World), ExAt w d v1 t1 → ExAt w d v2 t2 →
    Calls Try.prog 51 #[v1, v2] w fun e w' => e = .returned (.bool (t1.beq t2)) ∧ Below w.heap.size w w'
  | 0, _, _, _, _, _, h, _ => h.elim
  | d + 1, v1, v2, .node k1 nm1 n1 ty1 cs, .node k2 nm2 n2 ty2 bs, w, h1, h2 => by
    have IH : Hid (∀ (v1 v2 : Value) (t1 t2 : Ex) (w : World), ExAt w d v1 t1 → ExAt w d v2 t2 → Calls Try.prog 51 #[v1, v2] w fun e w' => e = .returned (.bool (t1.beq t2)) ∧ Below w.heap.size w w') := specExEqual d
    have HV1 := ex_parts h1
    obtain ⟨c13, c14, sl1, rfl, hk10, hk11, hn10, hn11, hm1, hty1, sa1, sc1, rfl, hcap1, hcp1, hat1⟩ := h1
    obtain ⟨k', nm', n', tk1, ta1, tn1, tc1, sa', sn', sc', hv⟩ := HV1
    injection hv with hv
    injection hv with hv
    simp at hv
    obtain ⟨rfl, rfl, rfl, rfl, rfl, rfl, rfl, rfl⟩ := hv
    have HV2 := ex_parts h2
    obtain ⟨c23, c24, sl2, rfl, hk20, hk21, hn20, hn21, hm2, hty2, sa2, sc2, rfl, hcap2, hcp2, hat2⟩ := h2
    obtain ⟨k', nm', n', tk2, ta2, tn2, tc2, sa', sn', sc', hv⟩ := HV2
    injection hv with hv
    injection hv with hv
    simp at hv
    obtain ⟨rfl, rfl, rfl, rfl, rfl, rfl, rfl, rfl⟩ := hv
    have e2 : Below w.heap.size w ((w.alloc (.cells #[.int .i64 k1, .string nm1, .int .i64 n1, .int .i64 tk1, .slice ta1 tn1 tc1, .slice sa1 cs.length sc1] 45)).alloc (.cells #[.int .i64 k2, .string nm2, .int .i64 n2, .int .i64 tk2, .slice ta2 tn2 tc2, .slice sa2 bs.length sc2] 45)) := ((Below.refl _ _).alloc (Nat.le_refl _) _).alloc (by simp) _
    have HY1 := Lib.hid (hty1.below e2)
    have HY2 := Lib.hid (hty2.below e2)
    have HE := Lib.hid e2
    have HA1 := Lib.hid hat1
    have HA2 := Lib.hid hat2
    clear e2 hty1 hty2 hat1 hat2
    by_cases q1 : k1 = k2
    case neg =>
      have HR : Hid ((Ex.node k1 nm1 n1 ty1 cs).beq (Ex.node k2 nm2 n2 ty2 bs) = false) := by show _ = _; simp [Ex.beq, q1]
      go_enter Try.func51, Try.ntmps51
      go_wp2_with fail
      go_ret
      exact ⟨by rw [HR.out]; rfl, HE.out⟩
    subst q1
    by_cases q2 : nm1 = nm2
    case neg =>
      have q2b : (nm1.toList == nm2.toList) = false := text_ne q2
      have HR : Hid ((Ex.node k1 nm1 n1 ty1 cs).beq (Ex.node k1 nm2 n2 ty2 bs) = false) := by show _ = _; simp [Ex.beq, q2]
      go_enter Try.func51, Try.ntmps51
      go_wp2_with fail
      go_ret
      exact ⟨by rw [HR.out]; rfl, HE.out⟩
    subst q2
    by_cases q3 : n1 = n2
    case neg =>
      have HR : Hid ((Ex.node k1 nm1 n1 ty1 cs).beq (Ex.node k1 nm1 n2 ty2 bs) = false) := by show _ = _; simp [Ex.beq, q3]
      go_enter Try.func51, Try.ntmps51
      go_wp2_with fail
      go_ret
      exact ⟨by rw [HR.out]; rfl, HE.out⟩
    subst q3
    go_enter Try.func51, Try.ntmps51
    go_wp2_with fail
    refine (specEqual d _ _ ty1 ty2 _ HY1.out HY2.out).mono ?_
    rintro e w1 ⟨rfl, hb⟩
    have HB9 := Lib.hid (two_on (Below.refl _ _) hb); clear hb
    have p5 := two_first HB9.out 5
    have r5 := two_next HB9.out 5
    cases hq : ty1.beq ty2 with
    | false =>
      have HR : Hid ((Ex.node k1 nm1 n1 ty1 cs).beq (Ex.node k1 nm1 n1 ty2 bs) = false) := by show _ = _; simp [Ex.beq, hq]
      go_wp2_with fail
      go_ret
      exact ⟨by rw [HR.out]; rfl, two_below HB9.out⟩
    | true =>
      by_cases q5 : cs.length = bs.length
      · have HFIN : Hid ((Ex.node k1 nm1 n1 ty1 cs).beq (Ex.node k1 nm1 n1 ty2 bs) = Ex.beqs cs bs) := by show _ = _; simp [Ex.beq, hq, q5]
        replace q5 := Lib.hid q5
        rw [← q5.out] at r5 HB9 ⊢
        go_wp2_with fail
        go_loopw [5] (fun i wr => ∃ k : Nat, k ≤ cs.length ∧ i = .int .i64 k ∧ Ex.beqs (cs.take k) (bs.take k) = true ∧ Below (w.heap.size + 2) ((w.alloc (.cells #[.int .i64 k1, .string nm1, .int .i64 n1, .int .i64 tk1, .slice ta1 tn1 tc1, .slice sa1 cs.length sc1] 45)).alloc (.cells #[.int .i64 k1, .string nm1, .int .i64 n1, .int .i64 tk2, .slice ta2 tn2 tc2, .slice sa2 cs.length sc2] 45)) wr) (fun i _ => cs.length - (intOf i).toNat)
        case atStart => exact ⟨0, by omega, rfl, by simp [Ex.beqs], HB9.out⟩
        case round =>
          obtain ⟨k, hk, rfl, hf, hb⟩ := hrel
          have HF := Lib.hid hf; clear hf
          have z51 := two_first hb 5
          have z52 := two_next hb 5
          have HB := Lib.hid (two_below hb)
          have HBX := Lib.hid hb; clear hb
          by_cases hlt : k < cs.length
          · have hlt2 : k < bs.length := by have := q5.out; omega
            obtain ⟨b1, off1, x0, x1, x2, x3, x4, x5, rfl, hbl1, hc10, hc11, hc12, hc13, hc14, hc15, ht1⟩ := HA1.out k hlt
            obtain ⟨b2, off2, y0, y1, y2, y3, y4, y5, rfl, hbl2, hc20, hc21, hc22, hc23, hc24, hc25, ht2⟩ := HA2.out k hlt2
            have c10 : wr.cell? ⟨b1, off1 + k * 6, none⟩ = some x0 := by rw [HB.out.cell (p := ⟨b1, off1 + k * 6, none⟩) hbl1]; exact hc10
            have c20 : wr.cell? ⟨b2, off2 + k * 6, none⟩ = some y0 := by rw [HB.out.cell (p := ⟨b2, off2 + k * 6, none⟩) hbl2]; exact hc20
            have c11 : wr.cell? ⟨b1, off1 + k * 6 + 1, none⟩ = some x1 := by rw [HB.out.cell (p := ⟨b1, off1 + k * 6 + 1, none⟩) hbl1]; exact hc11
            have c21 : wr.cell? ⟨b2, off2 + k * 6 + 1, none⟩ = some y1 := by rw [HB.out.cell (p := ⟨b2, off2 + k * 6 + 1, none⟩) hbl2]; exact hc21
            have c12 : wr.cell? ⟨b1, off1 + k * 6 + 2, none⟩ = some x2 := by rw [HB.out.cell (p := ⟨b1, off1 + k * 6 + 2, none⟩) hbl1]; exact hc12
            have c22 : wr.cell? ⟨b2, off2 + k * 6 + 2, none⟩ = some y2 := by rw [HB.out.cell (p := ⟨b2, off2 + k * 6 + 2, none⟩) hbl2]; exact hc22
            have c13 : wr.cell? ⟨b1, off1 + k * 6 + 3, none⟩ = some x3 := by rw [HB.out.cell (p := ⟨b1, off1 + k * 6 + 3, none⟩) hbl1]; exact hc13
            have c23 : wr.cell? ⟨b2, off2 + k * 6 + 3, none⟩ = some y3 := by rw [HB.out.cell (p := ⟨b2, off2 + k * 6 + 3, none⟩) hbl2]; exact hc23
            have c14 : wr.cell? ⟨b1, off1 + k * 6 + 4, none⟩ = some x4 := by rw [HB.out.cell (p := ⟨b1, off1 + k * 6 + 4, none⟩) hbl1]; exact hc14
            have c24 : wr.cell? ⟨b2, off2 + k * 6 + 4, none⟩ = some y4 := by rw [HB.out.cell (p := ⟨b2, off2 + k * 6 + 4, none⟩) hbl2]; exact hc24
            have c15 : wr.cell? ⟨b1, off1 + k * 6 + 5, none⟩ = some x5 := by rw [HB.out.cell (p := ⟨b1, off1 + k * 6 + 5, none⟩) hbl1]; exact hc15
            have c25 : wr.cell? ⟨b2, off2 + k * 6 + 5, none⟩ = some y5 := by rw [HB.out.cell (p := ⟨b2, off2 + k * 6 + 5, none⟩) hbl2]; exact hc25
            have HT1 := Lib.hid (ht1.below HB.out.drew)
            have HT2 := Lib.hid (ht2.below HB.out.drew)
            clear ht1 ht2 hc10 hc11 hc12 hc13 hc14 hc15 hc20 hc21 hc22 hc23 hc24 hc25
            go_wp2_with fail
            go_still_tail 10, (by kernel_rfl)
            change wpList _ _ _ _ _ wr.drew
            go_wp2_with fail
            refine (IH.out _ _ _ _ wr.drew HT1.out HT2.out).mono ?_
            rintro e w' ⟨rfl, hb1⟩
            have HN := Lib.hid (two_on HBX.out.drew hb1); clear hb1
            have HTK := Lib.hid (Ex.beqs_take cs bs k hlt hlt2)
            cases hfk : cs[k].beq bs[k] with
            | true =>
              have HFK := Lib.hid hfk; clear hfk
              go_wp2_with fail
              exact ⟨⟨k + 1, by omega, by go_num, by rw [HTK.out, HF.out, HFK.out]; rfl, HN.out⟩, by simp [intOf]; omega⟩
            | false =>
              have HFK := Lib.hid hfk; clear hfk
              go_wp2_with fail
              go_ret
              have e : Ex.beqs cs bs = false := Ex.beqs_false cs bs (k + 1) (by rw [HTK.out, HF.out, HFK.out]; rfl) q5.out
              exact ⟨by rw [HFIN.out, e]; rfl, two_below HN.out⟩
          · obtain rfl : k = cs.length := by omega
            have e : Hid (Ex.beqs cs bs = true) := by
              have := HF.out
              rw [List.take_length, q5.out, List.take_length] at this; exact this
            go_wp2_with fail
            go_ret
            exact ⟨by rw [HFIN.out, e.out]; rfl, HB.out⟩
      · have q5b : ((cs.length : Int) == (bs.length : Int)) = false := by simpa using (fun e => q5 (by omega))
        have HR : Hid ((Ex.node k1 nm1 n1 ty1 cs).beq (Ex.node k1 nm1 n1 ty2 bs) = false) := by show _ = _; simp [Ex.beq, q5]
        have q5c : ¬ ((cs.length : Int) = (bs.length : Int)) := by omega
        clear q5
        go_wp2_with fail
        go_ret
        exact ⟨by rw [HR.out]; rfl, two_below HB9.out⟩
end Go.Proofs.Ytmmnjdhmankieaa
/-
  Proved: plain facts on one list of numbers that leads another one.
-/
namespace Go.Proofs.Ytmmnjdhmankieaa
open Go.RowKit

/-- Whether the list path starts with outer. -/
def leads (path outer : List Int) : Bool := decide (outer = path.take outer.length)
theorem leads_all {path outer : List Int} (hl : outer.length ≤ path.length) (h : ∀ j (h1 : j < outer.length), outer[j] = path[j]) : leads path outer = true := by
  unfold leads
  rw [decide_eq_true_eq]
  apply List.ext_getElem
  · rw [List.length_take]; omega
  · intro i h1 h2
    rw [List.getElem_take]
    exact h i h1
theorem leads_long {path outer : List Int} (h : path.length < outer.length) : leads path outer = false := by
  unfold leads
  rw [decide_eq_false_iff_not]
  intro e
  have := congrArg List.length e
  rw [List.length_take] at this
  omega
theorem leads_other {path outer : List Int} (hl : outer.length ≤ path.length) (k : Nat) (hk : k < outer.length) (h : outer[k] ≠ path[k]) : leads path outer = false := by
  unfold leads
  rw [decide_eq_false_iff_not]
  intro e
  apply h
  have : outer[k]? = (path.take outer.length)[k]? := by rw [← e]
  rw [List.getElem?_take_of_lt hk, List.getElem?_eq_getElem hk, List.getElem?_eq_getElem (by omega)] at this
  exact Option.some.inj this
end Go.Proofs.Ytmmnjdhmankieaa
/-
  Proved: spec.IsWithin says whether one list of numbers leads another one; it leaves the memory that was there as it was.
-/
namespace Go.Proofs.Ytmmnjdhmankieaa
open Go.RowKit

set_option maxRecDepth 100000 in
set_option maxHeartbeats 1000000 in
theorem specWithin (v1 v2 : Value) (ps os : List Int) (hm : os.length ≤ 1048576) (w : World) (h1 : Ints w v1 ps) (h2 : Ints w v2 os) :
    Calls Try.prog 125 #[v1, v2] w fun e w' => e = .returned (.bool (leads ps os)) ∧ Below w.heap.size w w' := by
  obtain ⟨a1, cap1, rfl, hcap1, hat1⟩ := h1
  obtain ⟨a2, cap2, rfl, hcap2, hat2⟩ := h2
  have HC1 := Lib.hid hat1; clear hat1
  have HC2 := Lib.hid hat2; clear hat2
  by_cases hl : ps.length < os.length
  · have HF := Lib.hid (leads_long hl)
    go_enter Try.func125, Try.ntmps125
    go_wp2_with fail
    go_ret
    exact ⟨by rw [HF.out]; rfl, Below.refl _ _⟩
  go_enter Try.func125, Try.ntmps125
  go_wp2_with fail
  go_loopw [5] (fun i wr => ∃ k : Nat, k ≤ os.length ∧ i = .int .i64 k ∧ (∀ j (h1 : j < os.length) (h2 : j < ps.length), j < k → os[j] = ps[j]) ∧ Below w.heap.size w wr) (fun i _ => os.length - (intOf i).toNat)
  case atStart => exact ⟨0, by omega, rfl, fun j h1 h2 h => by omega, Below.refl _ _⟩
  case round =>
    obtain ⟨k, hk, rfl, hs, hb⟩ := hrel
    have HSM := Lib.hid hs; clear hs
    by_cases hlt : k < os.length
    · obtain ⟨b1, off1, rfl, hbl1, hcell1⟩ := HC1.out k (by omega)
      obtain ⟨b2, off2, rfl, hbl2, hcell2⟩ := HC2.out k hlt
      have c1 : wr.cell? ⟨b1, off1 + k, none⟩ = some (.int .i64 (ps[k]'(by omega))) := by rw [hb.cell (p := ⟨b1, off1 + k, none⟩) hbl1]; exact hcell1
      have c2 : wr.cell? ⟨b2, off2 + k, none⟩ = some (.int .i64 os[k]) := by rw [hb.cell (p := ⟨b2, off2 + k, none⟩) hbl2]; exact hcell2
      have HB2 := Lib.hid hb; clear hb hcell1 hcell2
      by_cases q : os[k] = ps[k]'(by omega)
      · have HN : Hid (∀ j (h1 : j < os.length) (h2 : j < ps.length), j < k + 1 → os[j] = ps[j]) := fun j h1 h2 h => by
          by_cases e : j = k
          · subst e; exact q
          · exact HSM.out j h1 h2 (by omega)
        have qb : (os[k] != ps[k]'(by omega)) = false := by simp [q]
        clear q
        go_wp2_with fail
        go_quiet (fail)
        go_wp2_with fail
        exact ⟨⟨k + 1, by omega, by go_num, HN.out, below_drewN HB2.out nq⟩, by simp [intOf]; omega⟩
      · have qb : (os[k] != ps[k]'(by omega)) = true := by simp [q]
        have HF := Lib.hid (leads_other (by omega) k hlt q)
        clear q
        go_wp2_with fail
        go_quiet (fail)
        go_wp2_with fail
        go_ret
        exact ⟨by rw [HF.out]; rfl, below_drewN HB2.out nq⟩
    · have HF := Lib.hid (leads_all (path := ps) (outer := os) (by omega) fun j h1 => HSM.out j h1 (by omega) (by omega))
      go_wp2_with fail
      go_ret
      exact ⟨by rw [HF.out]; rfl, hb⟩
end Go.Proofs.Ytmmnjdhmankieaa
/-
  Proved: spec.l11Ints says whether two lists of numbers are equal; it leaves the memory that was there as it was.
-/
namespace Go.Proofs.Ytmmnjdhmankieaa
open Go.RowKit

set_option maxRecDepth 100000 in
set_option maxHeartbeats 1000000 in
theorem specInts (v1 v2 : Value) (ps os : List Int) (_hn : ps.length ≤ 1048576) (hm : os.length ≤ 1048576) (w : World) (h1 : Ints w v1 ps) (h2 : Ints w v2 os) :
    Calls Try.prog 120 #[v1, v2] w fun e w' => e = .returned (.bool (decide (ps = os))) ∧ Below w.heap.size w w' := by
  have H1 := Lib.hid h1
  have H2 := Lib.hid h2
  obtain ⟨a1, cap1, rfl, hcap1, hat1⟩ := h1
  obtain ⟨a2, cap2, rfl, hcap2, hat2⟩ := h2
  clear hat1 hat2
  by_cases hl : ps.length = os.length
  case neg =>
    have HF : Hid (decide (ps = os) = false) := by show _ = _; rw [decide_eq_false_iff_not]; intro e; exact hl (congrArg List.length e)
    go_enter Try.func120, Try.ntmps120
    have qb : ((ps.length : Int) == (os.length : Int)) = false := by simp; omega
    go_wp2_with fail
    go_ret
    exact ⟨by rw [HF.out]; rfl, Below.refl _ _⟩
  case pos =>
    have HE : Hid (leads ps os = decide (ps = os)) := by
      show _ = _
      unfold leads
      rw [show ps.take os.length = ps from by rw [← hl]; exact List.take_length]
      by_cases e : ps = os
      · rw [decide_eq_true e, decide_eq_true e.symm]
      · rw [decide_eq_false e, decide_eq_false (fun h => e h.symm)]
    have qb0 : ((ps.length : Int) == (os.length : Int)) = true := by simp; omega
    clear hl
    go_enter Try.func120, Try.ntmps120
    go_wp2_with fail
    refine (specWithin _ _ ps os hm _ H1.out H2.out).mono ?_
    rintro e w' ⟨rfl, hb⟩
    have HB := Lib.hid hb; clear hb
    go_wp2_with fail
    go_ret
    exact ⟨by rw [HE.out]; rfl, HB.out⟩
end Go.Proofs.Ytmmnjdhmankieaa
/-
  Proved: spec.EqualEdit says whether two values are equal; it leaves the memory that was there as it was.
-/
namespace Go.Proofs.Ytmmnjdhmankieaa
open Go.RowKit

set_option maxRecDepth 100000 in
set_option maxHeartbeats 4000000 in
theorem specEdt (d : Nat) (v1 v2 : Value) (t1 t2 : Edt) (w : World) (h1 : EdtAt w d v1 t1) (h2 : EdtAt w d v2 t2) (hn1 : t1.bulk ≤ 1048576) (hn2 : t2.bulk ≤ 1048576) :
    Calls Try.prog 96 #[v1, v2] w fun e w' => e = .returned (.bool (t1.beq t2)) ∧ Below w.heap.size w w' := by
  cases t1 with
  | mk x1 x2 =>
  cases t2 with
  | mk y1 y2 =>
    obtain ⟨pbk, pbnm, pbm, pbtk, pbta, pbtn, pbtc, pbsa, pbsn, pbsc, pca, pcn, pcc, rfl, ph1, ph2⟩ := h1
    obtain ⟨ubk, ubnm, ubm, ubtk, ubta, ubtn, ubtc, ubsa, ubsn, ubsc, uca, ucn, ucc, rfl, pk1, pk2⟩ := h2
    dsimp only at ph1 ph2 pk1 pk2 ⊢
    have hb1 : (Edt.mk x1 x2).bulk = x1.bulk + x2.length := rfl
    have b11 : x1.bulk ≤ 1048576 := by omega
    have b12 : x2.length ≤ 1048576 := by omega
    have hb2 : (Edt.mk y1 y2).bulk = y1.bulk + y2.length := rfl
    have b21 : y1.bulk ≤ 1048576 := by omega
    have b22 : y2.length ≤ 1048576 := by omega
    have hq : Hid ((Edt.mk x1 x2).beq (Edt.mk y1 y2) = ((Ex.beq x1 y1) && (decide (x2 = y2)))) := rfl
    clear hn1 hn2 hb1 hb2
    have e3 : Below w.heap.size w ((w.alloc (.cells #[.int .i64 pbk, .string pbnm, .int .i64 pbm, .int .i64 pbtk, .slice pbta pbtn pbtc, .slice pbsa pbsn pbsc, .slice pca pcn pcc] 47)).alloc (.cells #[.int .i64 ubk, .string ubnm, .int .i64 ubm, .int .i64 ubtk, .slice ubta ubtn ubtc, .slice ubsa ubsn ubsc, .slice uca ucn ucc] 47)) := ((Below.refl _ _).alloc (Nat.le_refl _) _).alloc (by simp) _
    have H1 := Lib.hid (ph1.below e3)
    have J1 := Lib.hid (pk1.below e3)
    have H2 := Lib.hid (ph2.below e3)
    have J2 := Lib.hid (pk2.below e3)
    clear e3 ph1 pk1 ph2 pk2
    go_enter Try.func96, Try.ntmps96
    go_wp2_with fail
    refine (specExEqual d _ _ x1 y1 _ H1.out J1.out).mono ?_
    rintro e' w1 ⟨rfl, hb⟩
    have HB := Lib.hid (two_on (Below.refl _ _) hb)
    replace H2 := Lib.hid (H2.out.below hb)
    replace J2 := Lib.hid (J2.out.below hb)
    clear hb H1 J1
    cases hv : Ex.beq x1 y1 with
    | false =>
      have HK : Hid ((Edt.mk x1 x2).beq (Edt.mk y1 y2) = false) := by show _ = _; rw [hq.out, hv]; simp
      clear hv
      go_wp2_with fail
      go_ret
      exact ⟨by rw [HK.out]; rfl, two_below HB.out⟩
    | true =>
      rw [hv] at hq
      clear hv
      have c6 := two_first HB.out 6
      have u6 := two_next HB.out 6
      go_wp2_with fail
      clear c6 u6
      refine (specInts _ _ x2 y2 b12 b22 _ H2.out.1 J2.out.1).mono ?_
      rintro e' w2 ⟨rfl, hb⟩
      replace HB := Lib.hid (two_on HB.out hb)
      clear hb H2 J2
      have HK : Hid ((Edt.mk x1 x2).beq (Edt.mk y1 y2) = decide (x2 = y2)) := by show _ = _; rw [hq.out]; simp
      go_wp2_with fail
      go_ret
      exact ⟨by rw [HK.out]; rfl, two_below HB.out⟩
end Go.Proofs.Ytmmnjdhmankieaa
/-
  Proved: spec.l17Same says whether two lists are equal; the memory that was there stays as it was.
-/
namespace Go.Proofs.Ytmmnjdhmankieaa
open Go.RowKit

set_option maxRecDepth 100000 in
set_option maxHeartbeats 4000000 in
theorem specEdts (d : Nat) (v1 v2 : Value) (cs bs : List Edt) (w : World) (h1 : EdtsAt w d v1 cs) (h2 : EdtsAt w d v2 bs) (hn1 : Edt.bulks cs ≤ 1048576) (hn2 : Edt.bulks bs ≤ 1048576) :
    Calls Try.prog 95 #[v1, v2] w fun e w' => e = .returned (.bool (Edt.beqs cs bs)) ∧ Below w.heap.size w w' := by
  obtain ⟨a1, cap1, rfl, hcap1, hm1, hat1⟩ := h1
  obtain ⟨a2, cap2, rfl, hcap2, hm2, hat2⟩ := h2
  have HA1 := Lib.hid hat1; clear hat1
  have HA2 := Lib.hid hat2; clear hat2
  by_cases hl : cs.length = bs.length
  case neg =>
    have HF := Lib.hid (Edt.beqs_len cs bs hl)
    have qb : ((cs.length : Int) != (bs.length : Int)) = true := by simp; omega
    go_enter Try.func95, Try.ntmps95
    go_wp2_with fail
    go_ret
    exact ⟨by rw [HF.out]; rfl, Below.refl _ _⟩
  case pos =>
    have qb0 : ((cs.length : Int) != (bs.length : Int)) = false := by simp; omega
    have HL := Lib.hid hl; clear hl
    go_enter Try.func95, Try.ntmps95
    go_wp2_with fail
    clear qb0
    go_loopw [5] (fun i wr => ∃ k : Nat, k ≤ cs.length ∧ i = .int .i64 k ∧ Edt.beqs (cs.take k) (bs.take k) = true ∧ Below w.heap.size w wr) (fun i _ => cs.length - (intOf i).toNat)
    case atStart => exact ⟨0, by omega, rfl, by simp [Edt.beqs], Below.refl _ _⟩
    case round =>
      obtain ⟨k, hk, rfl, hf, hb⟩ := hrel
      have HF := Lib.hid hf; clear hf
      have HB := Lib.hid hb; clear hb
      by_cases hlt : k < cs.length
      · have hlt2 : k < bs.length := by have := HL.out; omega
        obtain ⟨b1, off1, x0, x1, x2, x3, x4, x5, x6, rfl, hbl1, hc10, hc11, hc12, hc13, hc14, hc15, hc16, ht1⟩ := HA1.out k hlt
        obtain ⟨b2, off2, y0, y1, y2, y3, y4, y5, y6, rfl, hbl2, hc20, hc21, hc22, hc23, hc24, hc25, hc26, ht2⟩ := HA2.out k hlt2
        have hg1 : cs[k].bulk ≤ 1048576 := by have := Edt.bulk_get cs k hlt; omega
        have hg2 : bs[k].bulk ≤ 1048576 := by have := Edt.bulk_get bs k hlt2; omega
        have HTK := Lib.hid (Edt.beqs_take cs bs k hlt hlt2)
        have HBAD : Hid (cs[k].beq bs[k] = false → Edt.beqs cs bs = false) := fun h => Edt.beqs_bad hlt hlt2 HL.out h
        have c10 : wr.cell? ⟨b1, off1 + k * 7, none⟩ = some x0 := by rw [HB.out.cell (p := ⟨b1, off1 + k * 7, none⟩) hbl1]; exact hc10
        have c20 : wr.cell? ⟨b2, off2 + k * 7, none⟩ = some y0 := by rw [HB.out.cell (p := ⟨b2, off2 + k * 7, none⟩) hbl2]; exact hc20
        have c11 : wr.cell? ⟨b1, off1 + k * 7 + 1, none⟩ = some x1 := by rw [HB.out.cell (p := ⟨b1, off1 + k * 7 + 1, none⟩) hbl1]; exact hc11
        have c21 : wr.cell? ⟨b2, off2 + k * 7 + 1, none⟩ = some y1 := by rw [HB.out.cell (p := ⟨b2, off2 + k * 7 + 1, none⟩) hbl2]; exact hc21
        have c12 : wr.cell? ⟨b1, off1 + k * 7 + 2, none⟩ = some x2 := by rw [HB.out.cell (p := ⟨b1, off1 + k * 7 + 2, none⟩) hbl1]; exact hc12
        have c22 : wr.cell? ⟨b2, off2 + k * 7 + 2, none⟩ = some y2 := by rw [HB.out.cell (p := ⟨b2, off2 + k * 7 + 2, none⟩) hbl2]; exact hc22
        have c13 : wr.cell? ⟨b1, off1 + k * 7 + 3, none⟩ = some x3 := by rw [HB.out.cell (p := ⟨b1, off1 + k * 7 + 3, none⟩) hbl1]; exact hc13
        have c23 : wr.cell? ⟨b2, off2 + k * 7 + 3, none⟩ = some y3 := by rw [HB.out.cell (p := ⟨b2, off2 + k * 7 + 3, none⟩) hbl2]; exact hc23
        have c14 : wr.cell? ⟨b1, off1 + k * 7 + 4, none⟩ = some x4 := by rw [HB.out.cell (p := ⟨b1, off1 + k * 7 + 4, none⟩) hbl1]; exact hc14
        have c24 : wr.cell? ⟨b2, off2 + k * 7 + 4, none⟩ = some y4 := by rw [HB.out.cell (p := ⟨b2, off2 + k * 7 + 4, none⟩) hbl2]; exact hc24
        have c15 : wr.cell? ⟨b1, off1 + k * 7 + 5, none⟩ = some x5 := by rw [HB.out.cell (p := ⟨b1, off1 + k * 7 + 5, none⟩) hbl1]; exact hc15
        have c25 : wr.cell? ⟨b2, off2 + k * 7 + 5, none⟩ = some y5 := by rw [HB.out.cell (p := ⟨b2, off2 + k * 7 + 5, none⟩) hbl2]; exact hc25
        have c16 : wr.cell? ⟨b1, off1 + k * 7 + 6, none⟩ = some x6 := by rw [HB.out.cell (p := ⟨b1, off1 + k * 7 + 6, none⟩) hbl1]; exact hc16
        have c26 : wr.cell? ⟨b2, off2 + k * 7 + 6, none⟩ = some y6 := by rw [HB.out.cell (p := ⟨b2, off2 + k * 7 + 6, none⟩) hbl2]; exact hc26
        have HT1 := Lib.hid (ht1.below HB.out.drew)
        have HT2 := Lib.hid (ht2.below HB.out.drew)
        clear ht1 ht2 hc10 hc20 hc11 hc21 hc12 hc22 hc13 hc23 hc14 hc24 hc15 hc25 hc16 hc26
        go_wp2_with fail
        go_still_tail 8, (by kernel_rfl)
        change wpList _ _ _ _ _ wr.drew
        go_wp2_with fail
        refine (specEdt d _ _ _ _ wr.drew HT1.out HT2.out hg1 hg2).mono ?_
        rintro e w' ⟨rfl, hb1⟩
        have HN := Lib.hid (HB.out.drew.trans (hb1.mono HB.out.drew.size))
        clear hb1
        cases hfk : cs[k].beq bs[k] with
        | true =>
          have HK : Hid (Edt.beqs (cs.take (k + 1)) (bs.take (k + 1)) = true) := by show _ = _; rw [HTK.out, HF.out, hfk]; rfl
          clear hfk
          go_wp2_with fail
          exact ⟨⟨k + 1, by omega, by go_num, HK.out, HN.out⟩, by simp [intOf]; omega⟩
        | false =>
          have HK := Lib.hid (HBAD.out hfk)
          clear hfk
          go_wp2_with fail
          go_ret
          exact ⟨by rw [HK.out]; rfl, HN.out⟩
      · obtain rfl : k = cs.length := by omega
        have HK : Hid (Edt.beqs cs bs = true) := by
          have := HF.out
          rw [List.take_length, HL.out, List.take_length] at this; exact this
        go_wp2_with fail
        go_ret
        exact ⟨by rw [HK.out]; rfl, HB.out⟩
end Go.Proofs.Ytmmnjdhmankieaa
/-
  Proved: spec.EqualHistory says whether two values are equal; it leaves the memory that was there as it was.
-/
namespace Go.Proofs.Ytmmnjdhmankieaa
open Go.RowKit

set_option maxRecDepth 100000 in
set_option maxHeartbeats 4000000 in
theorem specHis (d : Nat) (v1 v2 : Value) (t1 t2 : His) (w : World) (h1 : HisAt w d v1 t1) (h2 : HisAt w d v2 t2) (hn1 : t1.bulk ≤ 1048576) (hn2 : t2.bulk ≤ 1048576) :
    Calls Try.prog 52 #[v1, v2] w fun e w' => e = .returned (.bool (t1.beq t2)) ∧ Below w.heap.size w w' := by
  cases t1 with
  | mk x1 x2 x3 =>
  cases t2 with
  | mk y1 y2 y3 =>
    obtain ⟨pba, pbn, pbc, pcbk, pcbnm, pcbm, pcbtk, pcbta, pcbtn, pcbtc, pcbsa, pcbsn, pcbsc, pcca, pccn, pccc, pda, pdn, pdc, rfl, ph1, ph2, ph3⟩ := h1
    obtain ⟨uba, ubn, ubc, ucbk, ucbnm, ucbm, ucbtk, ucbta, ucbtn, ucbtc, ucbsa, ucbsn, ucbsc, ucca, uccn, uccc, uda, udn, udc, rfl, pk1, pk2, pk3⟩ := h2
    dsimp only at ph1 ph2 ph3 pk1 pk2 pk3 ⊢
    have hb1 : (His.mk x1 x2 x3).bulk = Edt.bulks x1 + x2.bulk + Edt.bulks x3 := rfl
    have b11 : Edt.bulks x1 ≤ 1048576 := by omega
    have b12 : x2.bulk ≤ 1048576 := by omega
    have b13 : Edt.bulks x3 ≤ 1048576 := by omega
    have hb2 : (His.mk y1 y2 y3).bulk = Edt.bulks y1 + y2.bulk + Edt.bulks y3 := rfl
    have b21 : Edt.bulks y1 ≤ 1048576 := by omega
    have b22 : y2.bulk ≤ 1048576 := by omega
    have b23 : Edt.bulks y3 ≤ 1048576 := by omega
    have hq : Hid ((His.mk x1 x2 x3).beq (His.mk y1 y2 y3) = ((Edt.beqs x1 y1) && (Edt.beq x2 y2) && (Edt.beqs x3 y3))) := rfl
    clear hn1 hn2 hb1 hb2
    have e3 : Below w.heap.size w ((w.alloc (.cells #[.slice pba pbn pbc, .int .i64 pcbk, .string pcbnm, .int .i64 pcbm, .int .i64 pcbtk, .slice pcbta pcbtn pcbtc, .slice pcbsa pcbsn pcbsc, .slice pcca pccn pccc, .slice pda pdn pdc] 49)).alloc (.cells #[.slice uba ubn ubc, .int .i64 ucbk, .string ucbnm, .int .i64 ucbm, .int .i64 ucbtk, .slice ucbta ucbtn ucbtc, .slice ucbsa ucbsn ucbsc, .slice ucca uccn uccc, .slice uda udn udc] 49)) := ((Below.refl _ _).alloc (Nat.le_refl _) _).alloc (by simp) _
    have H1 := Lib.hid (ph1.below e3)
    have J1 := Lib.hid (pk1.below e3)
    have H2 := Lib.hid (ph2.below e3)
    have J2 := Lib.hid (pk2.below e3)
    have H3 := Lib.hid (ph3.below e3)
    have J3 := Lib.hid (pk3.below e3)
    clear e3 ph1 pk1 ph2 pk2 ph3 pk3
    go_enter Try.func52, Try.ntmps52
    go_wp2_with fail
    refine (specEdts d _ _ x1 y1 _ H1.out J1.out b11 b21).mono ?_
    rintro e' w1 ⟨rfl, hb⟩
    have HB := Lib.hid (two_on (Below.refl _ _) hb)
    replace H2 := Lib.hid (H2.out.below hb)
    replace J2 := Lib.hid (J2.out.below hb)
    replace H3 := Lib.hid (H3.out.below hb)
    replace J3 := Lib.hid (J3.out.below hb)
    clear hb H1 J1
    cases hv : Edt.beqs x1 y1 with
    | false =>
      have HK : Hid ((His.mk x1 x2 x3).beq (His.mk y1 y2 y3) = false) := by show _ = _; rw [hq.out, hv]; simp
      clear hv
      go_wp2_with fail
      go_ret
      exact ⟨by rw [HK.out]; rfl, two_below HB.out⟩
    | true =>
      rw [hv] at hq
      clear hv
      have c1 := two_first HB.out 1
      have u1 := two_next HB.out 1
      have c2 := two_first HB.out 2
      have u2 := two_next HB.out 2
      have c3 := two_first HB.out 3
      have u3 := two_next HB.out 3
      have c4 := two_first HB.out 4
      have u4 := two_next HB.out 4
      have c5 := two_first HB.out 5
      have u5 := two_next HB.out 5
      have c6 := two_first HB.out 6
      have u6 := two_next HB.out 6
      have c7 := two_first HB.out 7
      have u7 := two_next HB.out 7
      go_wp2_with fail
      clear c1 u1 c2 u2 c3 u3 c4 u4 c5 u5 c6 u6 c7 u7
      refine (specEdt d _ _ x2 y2 _ H2.out J2.out b12 b22).mono ?_
      rintro e' w2 ⟨rfl, hb⟩
      replace HB := Lib.hid (two_on HB.out hb)
      replace H3 := Lib.hid (H3.out.below hb)
      replace J3 := Lib.hid (J3.out.below hb)
      clear hb H2 J2
      cases hv : Edt.beq x2 y2 with
      | false =>
        have HK : Hid ((His.mk x1 x2 x3).beq (His.mk y1 y2 y3) = false) := by show _ = _; rw [hq.out, hv]; simp
        clear hv
        go_wp2_with fail
        go_ret
        exact ⟨by rw [HK.out]; rfl, two_below HB.out⟩
      | true =>
        rw [hv] at hq
        clear hv
        have c8 := two_first HB.out 8
        have u8 := two_next HB.out 8
        go_wp2_with fail
        clear c8 u8
        refine (specEdts d _ _ x3 y3 _ H3.out J3.out b13 b23).mono ?_
        rintro e' w3 ⟨rfl, hb⟩
        replace HB := Lib.hid (two_on HB.out hb)
        clear hb H3 J3
        have HK : Hid ((His.mk x1 x2 x3).beq (His.mk y1 y2 y3) = Edt.beqs x3 y3) := by show _ = _; rw [hq.out]; simp
        go_wp2_with fail
        go_ret
        exact ⟨by rw [HK.out]; rfl, two_below HB.out⟩
end Go.Proofs.Ytmmnjdhmankieaa
/-
  Proved: spec.EqualSession says whether two sessions are equal; the memory that was there stays as it was.
-/
namespace Go.Proofs.Ytmmnjdhmankieaa
open Go.RowKit

theorem two_all {w wr : World} {o q : Obj} (h : Below (w.heap.size + 2) ((w.alloc o).alloc q) wr) : Below ((w.alloc o).alloc q).heap.size ((w.alloc o).alloc q) wr := by
  rw [show ((w.alloc o).alloc q).heap.size = w.heap.size + 2 from by simp]; exact h
set_option maxRecDepth 100000 in
set_option maxHeartbeats 16000000 in
theorem specSes (d : Nat) (v1 v2 : Value) (t1 t2 : Ses) (w : World) (h1 : SesAt w d v1 t1) (h2 : SesAt w d v2 t2) (hn1 : t1.bulk ≤ 1048576) (hn2 : t2.bulk ≤ 1048576) :
    Calls Try.prog 12 #[v1, v2] w fun e w' => e = .returned (.bool (t1.beq t2)) ∧ Below w.heap.size w w' := by
  cases t1 with
  | mk x1 x2 x3 x4 =>
  cases t2 with
  | mk y1 y2 y3 y4 =>
    obtain ⟨pbba, pbbn, pbbc, pbcbk, pbcbnm, pbcbm, pbcbtk, pbcbta, pbcbtn, pbcbtc, pbcbsa, pbcbsn, pbcbsc, pbcca, pbccn, pbccc, pbda, pbdn, pbdc, pca, pcn, pcc, pdk, pdnm, pdm, pdtk, pdta, pdtn, pdtc, pdsa, pdsn, pdsc, pek, penm, pem, petk, peta, petn, petc, pesa, pesn, pesc, rfl, ph1, ph2, ph3, ph4⟩ := h1
    obtain ⟨ubba, ubbn, ubbc, ubcbk, ubcbnm, ubcbm, ubcbtk, ubcbta, ubcbtn, ubcbtc, ubcbsa, ubcbsn, ubcbsc, ubcca, ubccn, ubccc, ubda, ubdn, ubdc, uca, ucn, ucc, udk, udnm, udm, udtk, udta, udtn, udtc, udsa, udsn, udsc, uek, uenm, uem, uetk, ueta, uetn, uetc, uesa, uesn, uesc, rfl, pk1, pk2, pk3, pk4⟩ := h2
    dsimp only at ph1 ph2 ph3 ph4 pk1 pk2 pk3 pk4 ⊢
    have hb1 : (Ses.mk x1 x2 x3 x4).bulk = x1.bulk + Tst.bulks x2 + x3.bulk + x4.bulk := rfl
    have b11 : x1.bulk ≤ 1048576 := by omega
    have b12 : Tst.bulks x2 ≤ 1048576 := by omega
    have hb2 : (Ses.mk y1 y2 y3 y4).bulk = y1.bulk + Tst.bulks y2 + y3.bulk + y4.bulk := rfl
    have b21 : y1.bulk ≤ 1048576 := by omega
    have b22 : Tst.bulks y2 ≤ 1048576 := by omega
    have HQ : Hid ((Ses.mk x1 x2 x3 x4).beq (Ses.mk y1 y2 y3 y4) = (((His.beq x1 y1 && Tst.beqs x2 y2) && Ex.beq x3 y3) && Ex.beq x4 y4)) := rfl
    clear hn1 hn2 hb1 hb2
    have e3 : Below w.heap.size w ((w.alloc (.cells #[.slice pbba pbbn pbbc, .int .i64 pbcbk, .string pbcbnm, .int .i64 pbcbm, .int .i64 pbcbtk, .slice pbcbta pbcbtn pbcbtc, .slice pbcbsa pbcbsn pbcbsc, .slice pbcca pbccn pbccc, .slice pbda pbdn pbdc, .slice pca pcn pcc, .int .i64 pdk, .string pdnm, .int .i64 pdm, .int .i64 pdtk, .slice pdta pdtn pdtc, .slice pdsa pdsn pdsc, .int .i64 pek, .string penm, .int .i64 pem, .int .i64 petk, .slice peta petn petc, .slice pesa pesn pesc] 52)).alloc (.cells #[.slice ubba ubbn ubbc, .int .i64 ubcbk, .string ubcbnm, .int .i64 ubcbm, .int .i64 ubcbtk, .slice ubcbta ubcbtn ubcbtc, .slice ubcbsa ubcbsn ubcbsc, .slice ubcca ubccn ubccc, .slice ubda ubdn ubdc, .slice uca ucn ucc, .int .i64 udk, .string udnm, .int .i64 udm, .int .i64 udtk, .slice udta udtn udtc, .slice udsa udsn udsc, .int .i64 uek, .string uenm, .int .i64 uem, .int .i64 uetk, .slice ueta uetn uetc, .slice uesa uesn uesc] 52)) := ((Below.refl _ _).alloc (Nat.le_refl _) _).alloc (by simp) _
    have H1 := Lib.hid (ph1.below e3)
    have J1 := Lib.hid (pk1.below e3)
    have H3 := Lib.hid (ph3.below e3)
    have J3 := Lib.hid (pk3.below e3)
    have H4 := Lib.hid (ph4.below e3)
    have J4 := Lib.hid (pk4.below e3)
    obtain ⟨a1, cap1, hv1, hcap1, hm1, hat1⟩ := ph2
    obtain ⟨a2, cap2, hv2, hcap2, hm2, hat2⟩ := pk2
    injection hv1 with e1 e2 e4
    injection hv2 with e5 e6 e7
    subst e1 e2 e4 e5 e6 e7
    clear e3 ph1 ph3 ph4 pk1 pk3 pk4
    have HA1 := Lib.hid hat1
    have HA2 := Lib.hid hat2
    clear hat1 hat2
    by_cases hl : x2.length = y2.length
    case neg =>
      have HK : Hid ((Ses.mk x1 x2 x3 x4).beq (Ses.mk y1 y2 y3 y4) = false) := by show _ = _; rw [HQ.out, Tst.beqs_len x2 y2 hl]; simp
      have qb : ((x2.length : Int) != (y2.length : Int)) = true := by simp; omega
      clear HQ
      go_enter Try.func12, Try.ntmps12
      go_wp2_with fail
      go_ret
      exact ⟨by rw [HK.out]; rfl, ((Below.refl _ _).alloc (Nat.le_refl _) _).alloc (by simp) _⟩
    have qb0 : ((x2.length : Int) != (y2.length : Int)) = false := by simp; omega
    have HL := Lib.hid hl; clear hl
    go_enter Try.func12, Try.ntmps12
    go_wp2_with fail
    clear qb0
    go_loopw [5] (fun i wr => ∃ k : Nat, k ≤ x2.length ∧ i = .int .i64 k ∧ Tst.beqs (x2.take k) (y2.take k) = true ∧ Below (w.heap.size + 2) ((w.alloc (.cells #[.slice pbba pbbn pbbc, .int .i64 pbcbk, .string pbcbnm, .int .i64 pbcbm, .int .i64 pbcbtk, .slice pbcbta pbcbtn pbcbtc, .slice pbcbsa pbcbsn pbcbsc, .slice pbcca pbccn pbccc, .slice pbda pbdn pbdc, .slice pca x2.length pcc, .int .i64 pdk, .string pdnm, .int .i64 pdm, .int .i64 pdtk, .slice pdta pdtn pdtc, .slice pdsa pdsn pdsc, .int .i64 pek, .string penm, .int .i64 pem, .int .i64 petk, .slice peta petn petc, .slice pesa pesn pesc] 52)).alloc (.cells #[.slice ubba ubbn ubbc, .int .i64 ubcbk, .string ubcbnm, .int .i64 ubcbm, .int .i64 ubcbtk, .slice ubcbta ubcbtn ubcbtc, .slice ubcbsa ubcbsn ubcbsc, .slice ubcca ubccn ubccc, .slice ubda ubdn ubdc, .slice uca y2.length ucc, .int .i64 udk, .string udnm, .int .i64 udm, .int .i64 udtk, .slice udta udtn udtc, .slice udsa udsn udsc, .int .i64 uek, .string uenm, .int .i64 uem, .int .i64 uetk, .slice ueta uetn uetc, .slice uesa uesn uesc] 52)) wr) (fun i _ => x2.length - (intOf i).toNat)
    case atStart => exact ⟨0, by omega, rfl, by simp [Tst.beqs], Below.refl _ _⟩
    case round =>
      obtain ⟨k, hk, rfl, hf, hb⟩ := hrel
      have HF := Lib.hid hf; clear hf
      have z1 := two_first hb 9
      have z2 := two_next hb 9
      have HB := Lib.hid (two_below hb)
      have HBX := Lib.hid hb; clear hb
      by_cases hlt : k < x2.length
      · have hlt2 : k < y2.length := by have := HL.out; omega
        obtain ⟨b1, off1, m0, m1, m2, m3, m4, m5, m6, m7, m8, m9, m10, m11, rfl, hbl1, hc10, hc11, hc12, hc13, hc14, hc15, hc16, hc17, hc18, hc19, hc110, hc111, ht1⟩ := HA1.out k hlt
        obtain ⟨b2, off2, l0, l1, l2, l3, l4, l5, l6, l7, l8, l9, l10, l11, rfl, hbl2, hc20, hc21, hc22, hc23, hc24, hc25, hc26, hc27, hc28, hc29, hc210, hc211, ht2⟩ := HA2.out k hlt2
        have HTK := Lib.hid (Tst.beqs_take x2 y2 k hlt hlt2)
        have HBAD : Hid (x2[k].beq y2[k] = false → Tst.beqs x2 y2 = false) := fun h => Tst.beqs_bad hlt hlt2 HL.out h
        have K10 := Lib.hid hc10
        have K20 := Lib.hid hc20
        have K11 := Lib.hid hc11
        have K21 := Lib.hid hc21
        have K12 := Lib.hid hc12
        have K22 := Lib.hid hc22
        have K13 := Lib.hid hc13
        have K23 := Lib.hid hc23
        have K14 := Lib.hid hc14
        have K24 := Lib.hid hc24
        have K15 := Lib.hid hc15
        have K25 := Lib.hid hc25
        have K16 := Lib.hid hc16
        have K26 := Lib.hid hc26
        have K17 := Lib.hid hc17
        have K27 := Lib.hid hc27
        have K18 := Lib.hid hc18
        have K28 := Lib.hid hc28
        have K19 := Lib.hid hc19
        have K29 := Lib.hid hc29
        have K110 := Lib.hid hc110
        have K210 := Lib.hid hc210
        have K111 := Lib.hid hc111
        have K211 := Lib.hid hc211
        clear hc10 hc20 hc11 hc21 hc12 hc22 hc13 hc23 hc14 hc24 hc15 hc25 hc16 hc26 hc17 hc27 hc18 hc28 hc19 hc29 hc110 hc210 hc111 hc211
        have HR1 := Lib.hid ht1
        have HR2 := Lib.hid ht2
        clear ht1 ht2
        generalize x2[k] = c at HTK HBAD HR1
        generalize y2[k] = b at HTK HBAD HR2
        obtain ⟨s1, s2⟩ := c
        obtain ⟨t1, t2⟩ := b
        have HE : Hid ((Tst.mk s1 s2).beq (Tst.mk t1 t2) = ((Ex.beq s1 t1) && (Ex.beq s2 t2))) := rfl
        obtain ⟨abk, abnm, abm, abtk, abta, abtn, abtc, absa, absn, absc, ack, acnm, acm, actk, acta, actn, actc, acsa, acsn, acsc, hv1, ph1, ph2⟩ := HR1.out
        obtain ⟨bbk, bbnm, bbm, bbtk, bbta, bbtn, bbtc, bbsa, bbsn, bbsc, bck, bcnm, bcm, bctk, bcta, bctn, bctc, bcsa, bcsn, bcsc, hv2, pk1, pk2⟩ := HR2.out
        injection hv1 with hv1
        injection hv1 with hv1
        simp only [List.cons.injEq, and_true] at hv1
        obtain ⟨rfl, rfl, rfl, rfl, rfl, rfl, rfl, rfl, rfl, rfl, rfl, rfl⟩ := hv1
        injection hv2 with hv2
        injection hv2 with hv2
        simp only [List.cons.injEq, and_true] at hv2
        obtain ⟨rfl, rfl, rfl, rfl, rfl, rfl, rfl, rfl, rfl, rfl, rfl, rfl⟩ := hv2
        dsimp only at ph1 ph2 pk1 pk2
        have hdr := HBX.out.drew
        have HN := Lib.hid (two_below hdr)
        have P1 := Lib.hid (ph1.below HN.out)
        have P2 := Lib.hid (ph2.below HN.out)
        have Q1_ := Lib.hid (pk1.below HN.out)
        have Q2_ := Lib.hid (pk2.below HN.out)
        clear ph1 ph2 pk1 pk2 HR1 HR2 HN
        go_wp2_with fail
        clear z1 z2
        replace HBX := Lib.hid hdr
        clear hdr
        cases q1 : Ex.beq s1 t1 with
        | false =>
          have HK : Hid ((Ses.mk x1 x2 x3 x4).beq (Ses.mk y1 y2 y3 y4) = false) := by show _ = _; rw [HQ.out, HBAD.out (by rw [HE.out, q1]; rfl)]; simp
          have Q1 := Lib.hid q1
          clear q1
          refine wp_region_held_drew (S := (fun w' => w'.cell? ⟨w.heap.size, 9, none⟩ = some (.slice (some ⟨b1, off1, none⟩) x2.length pcc) ∧ w'.cell? ⟨w.heap.size + 1, 9, none⟩ = some (.slice (some ⟨b2, off2, none⟩) y2.length ucc) ∧ w'.cell? ⟨b1, off1 + k * 12, none⟩ = some (.int .i64 abk) ∧ w'.cell? ⟨b1, off1 + k * 12 + 1, none⟩ = some (.string abnm) ∧ w'.cell? ⟨b1, off1 + k * 12 + 2, none⟩ = some (.int .i64 abm) ∧ w'.cell? ⟨b1, off1 + k * 12 + 3, none⟩ = some (.int .i64 abtk) ∧ w'.cell? ⟨b1, off1 + k * 12 + 4, none⟩ = some (.slice abta abtn abtc) ∧ w'.cell? ⟨b1, off1 + k * 12 + 5, none⟩ = some (.slice absa absn absc) ∧ w'.cell? ⟨b1, off1 + k * 12 + 6, none⟩ = some (.int .i64 ack) ∧ w'.cell? ⟨b1, off1 + k * 12 + 7, none⟩ = some (.string acnm) ∧ w'.cell? ⟨b1, off1 + k * 12 + 8, none⟩ = some (.int .i64 acm) ∧ w'.cell? ⟨b1, off1 + k * 12 + 9, none⟩ = some (.int .i64 actk) ∧ w'.cell? ⟨b1, off1 + k * 12 + 10, none⟩ = some (.slice acta actn actc) ∧ w'.cell? ⟨b1, off1 + k * 12 + 11, none⟩ = some (.slice acsa acsn acsc) ∧ w'.cell? ⟨b2, off2 + k * 12, none⟩ = some (.int .i64 bbk) ∧ w'.cell? ⟨b2, off2 + k * 12 + 1, none⟩ = some (.string bbnm) ∧ w'.cell? ⟨b2, off2 + k * 12 + 2, none⟩ = some (.int .i64 bbm) ∧ w'.cell? ⟨b2, off2 + k * 12 + 3, none⟩ = some (.int .i64 bbtk) ∧ w'.cell? ⟨b2, off2 + k * 12 + 4, none⟩ = some (.slice bbta bbtn bbtc) ∧ w'.cell? ⟨b2, off2 + k * 12 + 5, none⟩ = some (.slice bbsa bbsn bbsc) ∧ w'.cell? ⟨b2, off2 + k * 12 + 6, none⟩ = some (.int .i64 bck) ∧ w'.cell? ⟨b2, off2 + k * 12 + 7, none⟩ = some (.string bcnm) ∧ w'.cell? ⟨b2, off2 + k * 12 + 8, none⟩ = some (.int .i64 bcm) ∧ w'.cell? ⟨b2, off2 + k * 12 + 9, none⟩ = some (.int .i64 bctk) ∧ w'.cell? ⟨b2, off2 + k * 12 + 10, none⟩ = some (.slice bcta bctn bctc) ∧ w'.cell? ⟨b2, off2 + k * 12 + 11, none⟩ = some (.slice bcsa bcsn bcsc))) (by kernel_rfl) (by exact ⟨two_first HBX.out 9, two_next HBX.out 9, ((two_below HBX.out).cell (p := ⟨b1, off1 + k * 12, none⟩) hbl1).trans K10.out, ((two_below HBX.out).cell (p := ⟨b1, off1 + k * 12 + 1, none⟩) hbl1).trans K11.out, ((two_below HBX.out).cell (p := ⟨b1, off1 + k * 12 + 2, none⟩) hbl1).trans K12.out, ((two_below HBX.out).cell (p := ⟨b1, off1 + k * 12 + 3, none⟩) hbl1).trans K13.out, ((two_below HBX.out).cell (p := ⟨b1, off1 + k * 12 + 4, none⟩) hbl1).trans K14.out, ((two_below HBX.out).cell (p := ⟨b1, off1 + k * 12 + 5, none⟩) hbl1).trans K15.out, ((two_below HBX.out).cell (p := ⟨b1, off1 + k * 12 + 6, none⟩) hbl1).trans K16.out, ((two_below HBX.out).cell (p := ⟨b1, off1 + k * 12 + 7, none⟩) hbl1).trans K17.out, ((two_below HBX.out).cell (p := ⟨b1, off1 + k * 12 + 8, none⟩) hbl1).trans K18.out, ((two_below HBX.out).cell (p := ⟨b1, off1 + k * 12 + 9, none⟩) hbl1).trans K19.out, ((two_below HBX.out).cell (p := ⟨b1, off1 + k * 12 + 10, none⟩) hbl1).trans K110.out, ((two_below HBX.out).cell (p := ⟨b1, off1 + k * 12 + 11, none⟩) hbl1).trans K111.out, ((two_below HBX.out).cell (p := ⟨b2, off2 + k * 12, none⟩) hbl2).trans K20.out, ((two_below HBX.out).cell (p := ⟨b2, off2 + k * 12 + 1, none⟩) hbl2).trans K21.out, ((two_below HBX.out).cell (p := ⟨b2, off2 + k * 12 + 2, none⟩) hbl2).trans K22.out, ((two_below HBX.out).cell (p := ⟨b2, off2 + k * 12 + 3, none⟩) hbl2).trans K23.out, ((two_below HBX.out).cell (p := ⟨b2, off2 + k * 12 + 4, none⟩) hbl2).trans K24.out, ((two_below HBX.out).cell (p := ⟨b2, off2 + k * 12 + 5, none⟩) hbl2).trans K25.out, ((two_below HBX.out).cell (p := ⟨b2, off2 + k * 12 + 6, none⟩) hbl2).trans K26.out, ((two_below HBX.out).cell (p := ⟨b2, off2 + k * 12 + 7, none⟩) hbl2).trans K27.out, ((two_below HBX.out).cell (p := ⟨b2, off2 + k * 12 + 8, none⟩) hbl2).trans K28.out, ((two_below HBX.out).cell (p := ⟨b2, off2 + k * 12 + 9, none⟩) hbl2).trans K29.out, ((two_below HBX.out).cell (p := ⟨b2, off2 + k * 12 + 10, none⟩) hbl2).trans K210.out, ((two_below HBX.out).cell (p := ⟨b2, off2 + k * 12 + 11, none⟩) hbl2).trans K211.out⟩) (fun hHeld => ?_)
          refine wpAnyH_take (i := 0) (v := ?v123_0) rfl (by kernel_rfl) (by kernel_rfl) (by kernel_rfl) (fun _ _ _ h => h) (Or.inl ⟨by rfl, ?hy123_0⟩) hHeld ?rest123_0
          case hy123_0 =>
            intro w hSw
            (try dsimp only at hSw)
            go_simp
            all_goals (first | done | with_reducible rfl)
          try simp only [Act.put]
          try simp only [List.setIfInBounds_toArray]
          try simp only [List.set_cons_succ]
          try simp only [List.set_cons_zero]
          refine wpAnyH_take (i := 1) (v := ?v124_1) rfl (by kernel_rfl) (by kernel_rfl) (by kernel_rfl) (fun _ _ _ h => h) (Or.inl ⟨by rfl, ?hy124_1⟩) hHeld ?rest124_1
          case hy124_1 =>
            intro w hSw
            (try dsimp only at hSw)
            go_simp
            all_goals (first | done | with_reducible rfl)
          try simp only [Act.put]
          try simp only [List.setIfInBounds_toArray]
          try simp only [List.set_cons_succ]
          try simp only [List.set_cons_zero]
          refine wpAnyH_take (i := 2) (v := ?v125_2) rfl (by kernel_rfl) (by kernel_rfl) (by kernel_rfl) (fun _ _ _ h => h) (Or.inl ⟨by rfl, ?hy125_2⟩) hHeld ?rest125_2
          case hy125_2 =>
            intro w hSw
            (try dsimp only at hSw)
            go_simp
            all_goals (first | done | with_reducible rfl)
          try simp only [Act.put]
          try simp only [List.setIfInBounds_toArray]
          try simp only [List.set_cons_succ]
          try simp only [List.set_cons_zero]
          refine wpAnyH_take (i := 3) (v := ?v126_3) rfl (by kernel_rfl) (by kernel_rfl) (by kernel_rfl) (fun _ _ _ h => h) (Or.inl ⟨by rfl, ?hy126_3⟩) hHeld ?rest126_3
          case hy126_3 =>
            intro w hSw
            (try dsimp only at hSw)
            go_simp
            all_goals (first | done | with_reducible rfl)
          try simp only [Act.put]
          try simp only [List.setIfInBounds_toArray]
          try simp only [List.set_cons_succ]
          try simp only [List.set_cons_zero]
          refine wpAnyH_take (i := 4) (v := ?v127_4) rfl (by kernel_rfl) (by kernel_rfl) (by kernel_rfl) (fun _ _ _ h => h) (Or.inl ⟨by rfl, ?hy127_4⟩) hHeld ?rest127_4
          case hy127_4 =>
            intro w hSw
            (try dsimp only at hSw)
            go_simp
            all_goals (first | done | with_reducible rfl)
          try simp only [Act.put]
          try simp only [List.setIfInBounds_toArray]
          try simp only [List.set_cons_succ]
          try simp only [List.set_cons_zero]
          refine wpAnyH_take (i := 5) (v := ?v128_5) rfl (by kernel_rfl) (by kernel_rfl) (by kernel_rfl) (fun _ _ _ h => h) (Or.inl ⟨by rfl, ?hy128_5⟩) hHeld ?rest128_5
          case hy128_5 =>
            intro w hSw
            (try dsimp only at hSw)
            go_simp
            all_goals (first | done | with_reducible rfl)
          try simp only [Act.put]
          try simp only [List.setIfInBounds_toArray]
          try simp only [List.set_cons_succ]
          try simp only [List.set_cons_zero]
          refine wpAnyH_take (i := 6) (v := ?v129_6) rfl (by kernel_rfl) (by kernel_rfl) (by kernel_rfl) (fun _ _ _ h => h) (Or.inl ⟨by rfl, ?hy129_6⟩) hHeld ?rest129_6
          case hy129_6 =>
            intro w hSw
            (try dsimp only at hSw)
            go_simp
            all_goals (first | done | with_reducible rfl)
          try simp only [Act.put]
          try simp only [List.setIfInBounds_toArray]
          try simp only [List.set_cons_succ]
          try simp only [List.set_cons_zero]
          refine wpAnyH_take (i := 7) (v := ?v130_7) rfl (by kernel_rfl) (by kernel_rfl) (by kernel_rfl) (fun _ _ _ h => h) (Or.inl ⟨by rfl, ?hy130_7⟩) hHeld ?rest130_7
          case hy130_7 =>
            intro w hSw
            (try dsimp only at hSw)
            go_simp
            all_goals (first | done | with_reducible rfl)
          try simp only [Act.put]
          try simp only [List.setIfInBounds_toArray]
          try simp only [List.set_cons_succ]
          try simp only [List.set_cons_zero]
          refine wpAnyH_take (i := 8) (v := ?v131_8) rfl (by kernel_rfl) (by kernel_rfl) (by kernel_rfl) (fun _ _ _ h => h) (Or.inl ⟨by rfl, ?hy131_8⟩) hHeld ?rest131_8
          case hy131_8 =>
            intro w hSw
            (try dsimp only at hSw)
            go_simp
            all_goals (first | done | with_reducible rfl)
          try simp only [Act.put]
          try simp only [List.setIfInBounds_toArray]
          try simp only [List.set_cons_succ]
          try simp only [List.set_cons_zero]
          refine wpAnyH_take (i := 9) (v := ?v132_9) rfl (by kernel_rfl) (by kernel_rfl) (by kernel_rfl) (fun _ _ _ h => h) (Or.inl ⟨by rfl, ?hy132_9⟩) hHeld ?rest132_9
          case hy132_9 =>
            intro w hSw
            (try dsimp only at hSw)
            go_simp
            all_goals (first | done | with_reducible rfl)
          try simp only [Act.put]
          try simp only [List.setIfInBounds_toArray]
          try simp only [List.set_cons_succ]
          try simp only [List.set_cons_zero]
          refine wpAnyH_take (i := 10) (v := ?v133_10) rfl (by kernel_rfl) (by kernel_rfl) (by kernel_rfl) (fun _ _ _ h => h) (Or.inl ⟨by rfl, ?hy133_10⟩) hHeld ?rest133_10
          case hy133_10 =>
            intro w hSw
            (try dsimp only at hSw)
            go_simp
            all_goals (first | done | with_reducible rfl)
          try simp only [Act.put]
          try simp only [List.setIfInBounds_toArray]
          try simp only [List.set_cons_succ]
          try simp only [List.set_cons_zero]
          refine wpAnyH_take (i := 11) (v := ?v134_11) rfl (by kernel_rfl) (by kernel_rfl) (by kernel_rfl) (fun _ _ _ h => h) (Or.inl ⟨by rfl, ?hy134_11⟩) hHeld ?rest134_11
          case hy134_11 =>
            intro w hSw
            (try dsimp only at hSw)
            go_simp
            all_goals (first | done | with_reducible rfl)
          try simp only [Act.put]
          try simp only [List.setIfInBounds_toArray]
          try simp only [List.set_cons_succ]
          try simp only [List.set_cons_zero]
          refine wpAnyH_ready (rs := [12]) (by kernel_rfl) (by simp) ?_
          refine AllReadyH.cons rfl (fun K hK => ?_) AllReadyH.nil
          go_simp
          go_at_call 51
          refine (specExEqual d _ _ s1 t1 _ P1.out Q1_.out).mono ?_
          rintro e wA ⟨he, hb⟩
          rw [Q1.out] at he
          subst he
          replace HBX := Lib.hid (two_on HBX.out hb)
          replace P2 := Lib.hid (P2.out.below hb)
          replace Q2_ := Lib.hid (Q2_.out.below hb)
          clear hb P1 Q1_
          clear hHeld
          try go_wp2_with fail
          refine hK.out _ _ (by exact ⟨two_first HBX.out 9, two_next HBX.out 9, ((two_below HBX.out).cell (p := ⟨b1, off1 + k * 12, none⟩) hbl1).trans K10.out, ((two_below HBX.out).cell (p := ⟨b1, off1 + k * 12 + 1, none⟩) hbl1).trans K11.out, ((two_below HBX.out).cell (p := ⟨b1, off1 + k * 12 + 2, none⟩) hbl1).trans K12.out, ((two_below HBX.out).cell (p := ⟨b1, off1 + k * 12 + 3, none⟩) hbl1).trans K13.out, ((two_below HBX.out).cell (p := ⟨b1, off1 + k * 12 + 4, none⟩) hbl1).trans K14.out, ((two_below HBX.out).cell (p := ⟨b1, off1 + k * 12 + 5, none⟩) hbl1).trans K15.out, ((two_below HBX.out).cell (p := ⟨b1, off1 + k * 12 + 6, none⟩) hbl1).trans K16.out, ((two_below HBX.out).cell (p := ⟨b1, off1 + k * 12 + 7, none⟩) hbl1).trans K17.out, ((two_below HBX.out).cell (p := ⟨b1, off1 + k * 12 + 8, none⟩) hbl1).trans K18.out, ((two_below HBX.out).cell (p := ⟨b1, off1 + k * 12 + 9, none⟩) hbl1).trans K19.out, ((two_below HBX.out).cell (p := ⟨b1, off1 + k * 12 + 10, none⟩) hbl1).trans K110.out, ((two_below HBX.out).cell (p := ⟨b1, off1 + k * 12 + 11, none⟩) hbl1).trans K111.out, ((two_below HBX.out).cell (p := ⟨b2, off2 + k * 12, none⟩) hbl2).trans K20.out, ((two_below HBX.out).cell (p := ⟨b2, off2 + k * 12 + 1, none⟩) hbl2).trans K21.out, ((two_below HBX.out).cell (p := ⟨b2, off2 + k * 12 + 2, none⟩) hbl2).trans K22.out, ((two_below HBX.out).cell (p := ⟨b2, off2 + k * 12 + 3, none⟩) hbl2).trans K23.out, ((two_below HBX.out).cell (p := ⟨b2, off2 + k * 12 + 4, none⟩) hbl2).trans K24.out, ((two_below HBX.out).cell (p := ⟨b2, off2 + k * 12 + 5, none⟩) hbl2).trans K25.out, ((two_below HBX.out).cell (p := ⟨b2, off2 + k * 12 + 6, none⟩) hbl2).trans K26.out, ((two_below HBX.out).cell (p := ⟨b2, off2 + k * 12 + 7, none⟩) hbl2).trans K27.out, ((two_below HBX.out).cell (p := ⟨b2, off2 + k * 12 + 8, none⟩) hbl2).trans K28.out, ((two_below HBX.out).cell (p := ⟨b2, off2 + k * 12 + 9, none⟩) hbl2).trans K29.out, ((two_below HBX.out).cell (p := ⟨b2, off2 + k * 12 + 10, none⟩) hbl2).trans K210.out, ((two_below HBX.out).cell (p := ⟨b2, off2 + k * 12 + 11, none⟩) hbl2).trans K211.out⟩) (fun hHeld => ?_)
          clear hK K
          try simp only [Act.put]
          try simp only [List.setIfInBounds_toArray]
          try simp only [List.set_cons_succ]
          try simp only [List.set_cons_zero]
          refine wpAnyH_take (i := 13) (v := ?v135_13) rfl (by kernel_rfl) (by kernel_rfl) (by kernel_rfl) (fun _ _ _ h => h) (Or.inl ⟨by rfl, ?hy135_13⟩) hHeld ?rest135_13
          case hy135_13 =>
            intro w hSw
            (try dsimp only at hSw)
            go_simp
            all_goals (first | done | with_reducible rfl)
          try simp only [Act.put]
          try simp only [List.setIfInBounds_toArray]
          try simp only [List.set_cons_succ]
          try simp only [List.set_cons_zero]
          refine wpAnyH_take (i := 14) (v := ?v136_14) rfl (by kernel_rfl) (by kernel_rfl) (by kernel_rfl) (fun _ _ _ h => h) (Or.inl ⟨by rfl, ?hy136_14⟩) hHeld ?rest136_14
          case hy136_14 =>
            intro w hSw
            (try dsimp only at hSw)
            go_simp
            all_goals (first | done | with_reducible rfl)
          try simp only [Act.put]
          try simp only [List.setIfInBounds_toArray]
          try simp only [List.set_cons_succ]
          try simp only [List.set_cons_zero]
          refine wpAnyH_take (i := 15) (v := undef) rfl (by kernel_rfl) (by kernel_rfl) (by kernel_rfl) (fun _ _ _ h => h) (Or.inr ⟨by kernel_rfl, rfl⟩) hHeld ?_
          try simp only [Act.put]
          try simp only [List.setIfInBounds_toArray]
          try simp only [List.set_cons_succ]
          try simp only [List.set_cons_zero]
          refine wpAnyH_take (i := 16) (v := undef) rfl (by kernel_rfl) (by kernel_rfl) (by kernel_rfl) (fun _ _ _ h => h) (Or.inr ⟨by kernel_rfl, rfl⟩) hHeld ?_
          try simp only [Act.put]
          try simp only [List.setIfInBounds_toArray]
          try simp only [List.set_cons_succ]
          try simp only [List.set_cons_zero]
          refine wpAnyH_take (i := 17) (v := undef) rfl (by kernel_rfl) (by kernel_rfl) (by kernel_rfl) (fun _ _ _ h => h) (Or.inr ⟨by kernel_rfl, rfl⟩) hHeld ?_
          try simp only [Act.put]
          try simp only [List.setIfInBounds_toArray]
          try simp only [List.set_cons_succ]
          try simp only [List.set_cons_zero]
          refine wpAnyH_take (i := 18) (v := undef) rfl (by kernel_rfl) (by kernel_rfl) (by kernel_rfl) (fun _ _ _ h => h) (Or.inr ⟨by kernel_rfl, rfl⟩) hHeld ?_
          try simp only [Act.put]
          try simp only [List.setIfInBounds_toArray]
          try simp only [List.set_cons_succ]
          try simp only [List.set_cons_zero]
          refine wpAnyH_take (i := 19) (v := undef) rfl (by kernel_rfl) (by kernel_rfl) (by kernel_rfl) (fun _ _ _ h => h) (Or.inr ⟨by kernel_rfl, rfl⟩) hHeld ?_
          try simp only [Act.put]
          try simp only [List.setIfInBounds_toArray]
          try simp only [List.set_cons_succ]
          try simp only [List.set_cons_zero]
          refine wpAnyH_take (i := 20) (v := undef) rfl (by kernel_rfl) (by kernel_rfl) (by kernel_rfl) (fun _ _ _ h => h) (Or.inr ⟨by kernel_rfl, rfl⟩) hHeld ?_
          try simp only [Act.put]
          try simp only [List.setIfInBounds_toArray]
          try simp only [List.set_cons_succ]
          try simp only [List.set_cons_zero]
          refine wpAnyH_take (i := 21) (v := undef) rfl (by kernel_rfl) (by kernel_rfl) (by kernel_rfl) (fun _ _ _ h => h) (Or.inr ⟨by kernel_rfl, rfl⟩) hHeld ?_
          try simp only [Act.put]
          try simp only [List.setIfInBounds_toArray]
          try simp only [List.set_cons_succ]
          try simp only [List.set_cons_zero]
          refine wpAnyH_take (i := 22) (v := undef) rfl (by kernel_rfl) (by kernel_rfl) (by kernel_rfl) (fun _ _ _ h => h) (Or.inr ⟨by kernel_rfl, rfl⟩) hHeld ?_
          try simp only [Act.put]
          try simp only [List.setIfInBounds_toArray]
          try simp only [List.set_cons_succ]
          try simp only [List.set_cons_zero]
          refine wpAnyH_take (i := 23) (v := undef) rfl (by kernel_rfl) (by kernel_rfl) (by kernel_rfl) (fun _ _ _ h => h) (Or.inr ⟨by kernel_rfl, rfl⟩) hHeld ?_
          try simp only [Act.put]
          try simp only [List.setIfInBounds_toArray]
          try simp only [List.set_cons_succ]
          try simp only [List.set_cons_zero]
          refine wpAnyH_take (i := 24) (v := undef) rfl (by kernel_rfl) (by kernel_rfl) (by kernel_rfl) (fun _ _ _ h => h) (Or.inr ⟨by kernel_rfl, rfl⟩) hHeld ?_
          try simp only [Act.put]
          try simp only [List.setIfInBounds_toArray]
          try simp only [List.set_cons_succ]
          try simp only [List.set_cons_zero]
          refine wpAnyH_take (i := 25) (v := undef) rfl (by kernel_rfl) (by kernel_rfl) (by kernel_rfl) (fun _ _ _ h => h) (Or.inr ⟨by kernel_rfl, rfl⟩) hHeld ?_
          try simp only [Act.put]
          try simp only [List.setIfInBounds_toArray]
          try simp only [List.set_cons_succ]
          try simp only [List.set_cons_zero]
          refine wpAnyH_take (i := 26) (v := undef) rfl (by kernel_rfl) (by kernel_rfl) (by kernel_rfl) (fun _ _ _ h => h) (Or.inr ⟨by kernel_rfl, rfl⟩) hHeld ?_
          try simp only [Act.put]
          try simp only [List.setIfInBounds_toArray]
          try simp only [List.set_cons_succ]
          try simp only [List.set_cons_zero]
          refine wpAnyH_take (i := 27) (v := undef) rfl (by kernel_rfl) (by kernel_rfl) (by kernel_rfl) (fun _ _ _ h => h) (Or.inr ⟨by kernel_rfl, rfl⟩) hHeld ?_
          try simp only [Act.put]
          try simp only [List.setIfInBounds_toArray]
          try simp only [List.set_cons_succ]
          try simp only [List.set_cons_zero]
          refine wpAnyH_take (i := 28) (v := undef) rfl (by kernel_rfl) (by kernel_rfl) (by kernel_rfl) (fun _ _ _ h => h) (Or.inr ⟨by kernel_rfl, rfl⟩) hHeld ?_
          try simp only [Act.put]
          try simp only [List.setIfInBounds_toArray]
          try simp only [List.set_cons_succ]
          try simp only [List.set_cons_zero]
          refine wpAnyH_take (i := 29) (v := ?v137_29) rfl (by kernel_rfl) (by kernel_rfl) (by kernel_rfl) (fun _ _ _ h => h) (Or.inl ⟨by rfl, ?hy137_29⟩) hHeld ?rest137_29
          case hy137_29 =>
            intro w hSw
            (try dsimp only at hSw)
            go_simp
            all_goals (first | done | with_reducible rfl)
          try simp only [Act.put]
          try simp only [List.setIfInBounds_toArray]
          try simp only [List.set_cons_succ]
          try simp only [List.set_cons_zero]
          refine wpAnyH_done (by kernel_rfl) ?_ _
          try simp only [List.getElem_toArray]
          try simp only [List.getElem_cons_succ]
          try simp only [List.getElem_cons_zero]
          try simp only [Act.put]
          try simp only [List.setIfInBounds_toArray]
          try simp only [List.set_cons_succ]
          try simp only [List.set_cons_zero]
          go_wp2_with fail
          go_ret
          exact ⟨by rw [HK.out]; rfl, two_below HBX.out⟩
        | true =>
          cases q2 : Ex.beq s2 t2 with
          | false =>
            have HK : Hid ((Ses.mk x1 x2 x3 x4).beq (Ses.mk y1 y2 y3 y4) = false) := by show _ = _; rw [HQ.out, HBAD.out (by rw [HE.out, q1, q2]; rfl)]; simp
            have Q1 := Lib.hid q1
            have Q2 := Lib.hid q2
            clear q1 q2
            refine wp_region_held_drew (S := (fun w' => w'.cell? ⟨w.heap.size, 9, none⟩ = some (.slice (some ⟨b1, off1, none⟩) x2.length pcc) ∧ w'.cell? ⟨w.heap.size + 1, 9, none⟩ = some (.slice (some ⟨b2, off2, none⟩) y2.length ucc) ∧ w'.cell? ⟨b1, off1 + k * 12, none⟩ = some (.int .i64 abk) ∧ w'.cell? ⟨b1, off1 + k * 12 + 1, none⟩ = some (.string abnm) ∧ w'.cell? ⟨b1, off1 + k * 12 + 2, none⟩ = some (.int .i64 abm) ∧ w'.cell? ⟨b1, off1 + k * 12 + 3, none⟩ = some (.int .i64 abtk) ∧ w'.cell? ⟨b1, off1 + k * 12 + 4, none⟩ = some (.slice abta abtn abtc) ∧ w'.cell? ⟨b1, off1 + k * 12 + 5, none⟩ = some (.slice absa absn absc) ∧ w'.cell? ⟨b1, off1 + k * 12 + 6, none⟩ = some (.int .i64 ack) ∧ w'.cell? ⟨b1, off1 + k * 12 + 7, none⟩ = some (.string acnm) ∧ w'.cell? ⟨b1, off1 + k * 12 + 8, none⟩ = some (.int .i64 acm) ∧ w'.cell? ⟨b1, off1 + k * 12 + 9, none⟩ = some (.int .i64 actk) ∧ w'.cell? ⟨b1, off1 + k * 12 + 10, none⟩ = some (.slice acta actn actc) ∧ w'.cell? ⟨b1, off1 + k * 12 + 11, none⟩ = some (.slice acsa acsn acsc) ∧ w'.cell? ⟨b2, off2 + k * 12, none⟩ = some (.int .i64 bbk) ∧ w'.cell? ⟨b2, off2 + k * 12 + 1, none⟩ = some (.string bbnm) ∧ w'.cell? ⟨b2, off2 + k * 12 + 2, none⟩ = some (.int .i64 bbm) ∧ w'.cell? ⟨b2, off2 + k * 12 + 3, none⟩ = some (.int .i64 bbtk) ∧ w'.cell? ⟨b2, off2 + k * 12 + 4, none⟩ = some (.slice bbta bbtn bbtc) ∧ w'.cell? ⟨b2, off2 + k * 12 + 5, none⟩ = some (.slice bbsa bbsn bbsc) ∧ w'.cell? ⟨b2, off2 + k * 12 + 6, none⟩ = some (.int .i64 bck) ∧ w'.cell? ⟨b2, off2 + k * 12 + 7, none⟩ = some (.string bcnm) ∧ w'.cell? ⟨b2, off2 + k * 12 + 8, none⟩ = some (.int .i64 bcm) ∧ w'.cell? ⟨b2, off2 + k * 12 + 9, none⟩ = some (.int .i64 bctk) ∧ w'.cell? ⟨b2, off2 + k * 12 + 10, none⟩ = some (.slice bcta bctn bctc) ∧ w'.cell? ⟨b2, off2 + k * 12 + 11, none⟩ = some (.slice bcsa bcsn bcsc))) (by kernel_rfl) (by exact ⟨two_first HBX.out 9, two_next HBX.out 9, ((two_below HBX.out).cell (p := ⟨b1, off1 + k * 12, none⟩) hbl1).trans K10.out, ((two_below HBX.out).cell (p := ⟨b1, off1 + k * 12 + 1, none⟩) hbl1).trans K11.out, ((two_below HBX.out).cell (p := ⟨b1, off1 + k * 12 + 2, none⟩) hbl1).trans K12.out, ((two_below HBX.out).cell (p := ⟨b1, off1 + k * 12 + 3, none⟩) hbl1).trans K13.out, ((two_below HBX.out).cell (p := ⟨b1, off1 + k * 12 + 4, none⟩) hbl1).trans K14.out, ((two_below HBX.out).cell (p := ⟨b1, off1 + k * 12 + 5, none⟩) hbl1).trans K15.out, ((two_below HBX.out).cell (p := ⟨b1, off1 + k * 12 + 6, none⟩) hbl1).trans K16.out, ((two_below HBX.out).cell (p := ⟨b1, off1 + k * 12 + 7, none⟩) hbl1).trans K17.out, ((two_below HBX.out).cell (p := ⟨b1, off1 + k * 12 + 8, none⟩) hbl1).trans K18.out, ((two_below HBX.out).cell (p := ⟨b1, off1 + k * 12 + 9, none⟩) hbl1).trans K19.out, ((two_below HBX.out).cell (p := ⟨b1, off1 + k * 12 + 10, none⟩) hbl1).trans K110.out, ((two_below HBX.out).cell (p := ⟨b1, off1 + k * 12 + 11, none⟩) hbl1).trans K111.out, ((two_below HBX.out).cell (p := ⟨b2, off2 + k * 12, none⟩) hbl2).trans K20.out, ((two_below HBX.out).cell (p := ⟨b2, off2 + k * 12 + 1, none⟩) hbl2).trans K21.out, ((two_below HBX.out).cell (p := ⟨b2, off2 + k * 12 + 2, none⟩) hbl2).trans K22.out, ((two_below HBX.out).cell (p := ⟨b2, off2 + k * 12 + 3, none⟩) hbl2).trans K23.out, ((two_below HBX.out).cell (p := ⟨b2, off2 + k * 12 + 4, none⟩) hbl2).trans K24.out, ((two_below HBX.out).cell (p := ⟨b2, off2 + k * 12 + 5, none⟩) hbl2).trans K25.out, ((two_below HBX.out).cell (p := ⟨b2, off2 + k * 12 + 6, none⟩) hbl2).trans K26.out, ((two_below HBX.out).cell (p := ⟨b2, off2 + k * 12 + 7, none⟩) hbl2).trans K27.out, ((two_below HBX.out).cell (p := ⟨b2, off2 + k * 12 + 8, none⟩) hbl2).trans K28.out, ((two_below HBX.out).cell (p := ⟨b2, off2 + k * 12 + 9, none⟩) hbl2).trans K29.out, ((two_below HBX.out).cell (p := ⟨b2, off2 + k * 12 + 10, none⟩) hbl2).trans K210.out, ((two_below HBX.out).cell (p := ⟨b2, off2 + k * 12 + 11, none⟩) hbl2).trans K211.out⟩) (fun hHeld => ?_)
            refine wpAnyH_take (i := 0) (v := ?v138_0) rfl (by kernel_rfl) (by kernel_rfl) (by kernel_rfl) (fun _ _ _ h => h) (Or.inl ⟨by rfl, ?hy138_0⟩) hHeld ?rest138_0
            case hy138_0 =>
              intro w hSw
              (try dsimp only at hSw)
              go_simp
              all_goals (first | done | with_reducible rfl)
            try simp only [Act.put]
            try simp only [List.setIfInBounds_toArray]
            try simp only [List.set_cons_succ]
            try simp only [List.set_cons_zero]
            refine wpAnyH_take (i := 1) (v := ?v139_1) rfl (by kernel_rfl) (by kernel_rfl) (by kernel_rfl) (fun _ _ _ h => h) (Or.inl ⟨by rfl, ?hy139_1⟩) hHeld ?rest139_1
            case hy139_1 =>
              intro w hSw
              (try dsimp only at hSw)
              go_simp
              all_goals (first | done | with_reducible rfl)
            try simp only [Act.put]
            try simp only [List.setIfInBounds_toArray]
            try simp only [List.set_cons_succ]
            try simp only [List.set_cons_zero]
            refine wpAnyH_take (i := 2) (v := ?v140_2) rfl (by kernel_rfl) (by kernel_rfl) (by kernel_rfl) (fun _ _ _ h => h) (Or.inl ⟨by rfl, ?hy140_2⟩) hHeld ?rest140_2
            case hy140_2 =>
              intro w hSw
              (try dsimp only at hSw)
              go_simp
              all_goals (first | done | with_reducible rfl)
            try simp only [Act.put]
            try simp only [List.setIfInBounds_toArray]
            try simp only [List.set_cons_succ]
            try simp only [List.set_cons_zero]
            refine wpAnyH_take (i := 3) (v := ?v141_3) rfl (by kernel_rfl) (by kernel_rfl) (by kernel_rfl) (fun _ _ _ h => h) (Or.inl ⟨by rfl, ?hy141_3⟩) hHeld ?rest141_3
            case hy141_3 =>
              intro w hSw
              (try dsimp only at hSw)
              go_simp
              all_goals (first | done | with_reducible rfl)
            try simp only [Act.put]
            try simp only [List.setIfInBounds_toArray]
            try simp only [List.set_cons_succ]
            try simp only [List.set_cons_zero]
            refine wpAnyH_take (i := 4) (v := ?v142_4) rfl (by kernel_rfl) (by kernel_rfl) (by kernel_rfl) (fun _ _ _ h => h) (Or.inl ⟨by rfl, ?hy142_4⟩) hHeld ?rest142_4
            case hy142_4 =>
              intro w hSw
              (try dsimp only at hSw)
              go_simp
              all_goals (first | done | with_reducible rfl)
            try simp only [Act.put]
            try simp only [List.setIfInBounds_toArray]
            try simp only [List.set_cons_succ]
            try simp only [List.set_cons_zero]
            refine wpAnyH_take (i := 5) (v := ?v143_5) rfl (by kernel_rfl) (by kernel_rfl) (by kernel_rfl) (fun _ _ _ h => h) (Or.inl ⟨by rfl, ?hy143_5⟩) hHeld ?rest143_5
            case hy143_5 =>
              intro w hSw
              (try dsimp only at hSw)
              go_simp
              all_goals (first | done | with_reducible rfl)
            try simp only [Act.put]
            try simp only [List.setIfInBounds_toArray]
            try simp only [List.set_cons_succ]
            try simp only [List.set_cons_zero]
            refine wpAnyH_take (i := 6) (v := ?v144_6) rfl (by kernel_rfl) (by kernel_rfl) (by kernel_rfl) (fun _ _ _ h => h) (Or.inl ⟨by rfl, ?hy144_6⟩) hHeld ?rest144_6
            case hy144_6 =>
              intro w hSw
              (try dsimp only at hSw)
              go_simp
              all_goals (first | done | with_reducible rfl)
            try simp only [Act.put]
            try simp only [List.setIfInBounds_toArray]
            try simp only [List.set_cons_succ]
            try simp only [List.set_cons_zero]
            refine wpAnyH_take (i := 7) (v := ?v145_7) rfl (by kernel_rfl) (by kernel_rfl) (by kernel_rfl) (fun _ _ _ h => h) (Or.inl ⟨by rfl, ?hy145_7⟩) hHeld ?rest145_7
            case hy145_7 =>
              intro w hSw
              (try dsimp only at hSw)
              go_simp
              all_goals (first | done | with_reducible rfl)
            try simp only [Act.put]
            try simp only [List.setIfInBounds_toArray]
            try simp only [List.set_cons_succ]
            try simp only [List.set_cons_zero]
            refine wpAnyH_take (i := 8) (v := ?v146_8) rfl (by kernel_rfl) (by kernel_rfl) (by kernel_rfl) (fun _ _ _ h => h) (Or.inl ⟨by rfl, ?hy146_8⟩) hHeld ?rest146_8
            case hy146_8 =>
              intro w hSw
              (try dsimp only at hSw)
              go_simp
              all_goals (first | done | with_reducible rfl)
            try simp only [Act.put]
            try simp only [List.setIfInBounds_toArray]
            try simp only [List.set_cons_succ]
            try simp only [List.set_cons_zero]
            refine wpAnyH_take (i := 9) (v := ?v147_9) rfl (by kernel_rfl) (by kernel_rfl) (by kernel_rfl) (fun _ _ _ h => h) (Or.inl ⟨by rfl, ?hy147_9⟩) hHeld ?rest147_9
            case hy147_9 =>
              intro w hSw
              (try dsimp only at hSw)
              go_simp
              all_goals (first | done | with_reducible rfl)
            try simp only [Act.put]
            try simp only [List.setIfInBounds_toArray]
            try simp only [List.set_cons_succ]
            try simp only [List.set_cons_zero]
            refine wpAnyH_take (i := 10) (v := ?v148_10) rfl (by kernel_rfl) (by kernel_rfl) (by kernel_rfl) (fun _ _ _ h => h) (Or.inl ⟨by rfl, ?hy148_10⟩) hHeld ?rest148_10
            case hy148_10 =>
              intro w hSw
              (try dsimp only at hSw)
              go_simp
              all_goals (first | done | with_reducible rfl)
            try simp only [Act.put]
            try simp only [List.setIfInBounds_toArray]
            try simp only [List.set_cons_succ]
            try simp only [List.set_cons_zero]
            refine wpAnyH_take (i := 11) (v := ?v149_11) rfl (by kernel_rfl) (by kernel_rfl) (by kernel_rfl) (fun _ _ _ h => h) (Or.inl ⟨by rfl, ?hy149_11⟩) hHeld ?rest149_11
            case hy149_11 =>
              intro w hSw
              (try dsimp only at hSw)
              go_simp
              all_goals (first | done | with_reducible rfl)
            try simp only [Act.put]
            try simp only [List.setIfInBounds_toArray]
            try simp only [List.set_cons_succ]
            try simp only [List.set_cons_zero]
            refine wpAnyH_ready (rs := [12]) (by kernel_rfl) (by simp) ?_
            refine AllReadyH.cons rfl (fun K hK => ?_) AllReadyH.nil
            go_simp
            go_at_call 51
            refine (specExEqual d _ _ s1 t1 _ P1.out Q1_.out).mono ?_
            rintro e wA ⟨he, hb⟩
            rw [Q1.out] at he
            subst he
            replace HBX := Lib.hid (two_on HBX.out hb)
            replace P2 := Lib.hid (P2.out.below hb)
            replace Q2_ := Lib.hid (Q2_.out.below hb)
            clear hb P1 Q1_
            clear hHeld
            try go_wp2_with fail
            refine hK.out _ _ (by exact ⟨two_first HBX.out 9, two_next HBX.out 9, ((two_below HBX.out).cell (p := ⟨b1, off1 + k * 12, none⟩) hbl1).trans K10.out, ((two_below HBX.out).cell (p := ⟨b1, off1 + k * 12 + 1, none⟩) hbl1).trans K11.out, ((two_below HBX.out).cell (p := ⟨b1, off1 + k * 12 + 2, none⟩) hbl1).trans K12.out, ((two_below HBX.out).cell (p := ⟨b1, off1 + k * 12 + 3, none⟩) hbl1).trans K13.out, ((two_below HBX.out).cell (p := ⟨b1, off1 + k * 12 + 4, none⟩) hbl1).trans K14.out, ((two_below HBX.out).cell (p := ⟨b1, off1 + k * 12 + 5, none⟩) hbl1).trans K15.out, ((two_below HBX.out).cell (p := ⟨b1, off1 + k * 12 + 6, none⟩) hbl1).trans K16.out, ((two_below HBX.out).cell (p := ⟨b1, off1 + k * 12 + 7, none⟩) hbl1).trans K17.out, ((two_below HBX.out).cell (p := ⟨b1, off1 + k * 12 + 8, none⟩) hbl1).trans K18.out, ((two_below HBX.out).cell (p := ⟨b1, off1 + k * 12 + 9, none⟩) hbl1).trans K19.out, ((two_below HBX.out).cell (p := ⟨b1, off1 + k * 12 + 10, none⟩) hbl1).trans K110.out, ((two_below HBX.out).cell (p := ⟨b1, off1 + k * 12 + 11, none⟩) hbl1).trans K111.out, ((two_below HBX.out).cell (p := ⟨b2, off2 + k * 12, none⟩) hbl2).trans K20.out, ((two_below HBX.out).cell (p := ⟨b2, off2 + k * 12 + 1, none⟩) hbl2).trans K21.out, ((two_below HBX.out).cell (p := ⟨b2, off2 + k * 12 + 2, none⟩) hbl2).trans K22.out, ((two_below HBX.out).cell (p := ⟨b2, off2 + k * 12 + 3, none⟩) hbl2).trans K23.out, ((two_below HBX.out).cell (p := ⟨b2, off2 + k * 12 + 4, none⟩) hbl2).trans K24.out, ((two_below HBX.out).cell (p := ⟨b2, off2 + k * 12 + 5, none⟩) hbl2).trans K25.out, ((two_below HBX.out).cell (p := ⟨b2, off2 + k * 12 + 6, none⟩) hbl2).trans K26.out, ((two_below HBX.out).cell (p := ⟨b2, off2 + k * 12 + 7, none⟩) hbl2).trans K27.out, ((two_below HBX.out).cell (p := ⟨b2, off2 + k * 12 + 8, none⟩) hbl2).trans K28.out, ((two_below HBX.out).cell (p := ⟨b2, off2 + k * 12 + 9, none⟩) hbl2).trans K29.out, ((two_below HBX.out).cell (p := ⟨b2, off2 + k * 12 + 10, none⟩) hbl2).trans K210.out, ((two_below HBX.out).cell (p := ⟨b2, off2 + k * 12 + 11, none⟩) hbl2).trans K211.out⟩) (fun hHeld => ?_)
            clear hK K
            try simp only [Act.put]
            try simp only [List.setIfInBounds_toArray]
            try simp only [List.set_cons_succ]
            try simp only [List.set_cons_zero]
            refine wpAnyH_take (i := 13) (v := ?v150_13) rfl (by kernel_rfl) (by kernel_rfl) (by kernel_rfl) (fun _ _ _ h => h) (Or.inl ⟨by rfl, ?hy150_13⟩) hHeld ?rest150_13
            case hy150_13 =>
              intro w hSw
              (try dsimp only at hSw)
              go_simp
              all_goals (first | done | with_reducible rfl)
            try simp only [Act.put]
            try simp only [List.setIfInBounds_toArray]
            try simp only [List.set_cons_succ]
            try simp only [List.set_cons_zero]
            refine wpAnyH_take (i := 14) (v := ?v151_14) rfl (by kernel_rfl) (by kernel_rfl) (by kernel_rfl) (fun _ _ _ h => h) (Or.inl ⟨by rfl, ?hy151_14⟩) hHeld ?rest151_14
            case hy151_14 =>
              intro w hSw
              (try dsimp only at hSw)
              go_simp
              all_goals (first | done | with_reducible rfl)
            try simp only [Act.put]
            try simp only [List.setIfInBounds_toArray]
            try simp only [List.set_cons_succ]
            try simp only [List.set_cons_zero]
            refine wpAnyH_take (i := 15) (v := ?v152_15) rfl (by kernel_rfl) (by kernel_rfl) (by kernel_rfl) (fun _ _ _ h => h) (Or.inl ⟨by kernel_rfl, ?hy152_15⟩) hHeld ?rest152_15
            case hy152_15 =>
              intro w hSw
              (try dsimp only at hSw)
              go_simp
              all_goals (first | done | with_reducible rfl)
            try simp only [Act.put]
            try simp only [List.setIfInBounds_toArray]
            try simp only [List.set_cons_succ]
            try simp only [List.set_cons_zero]
            refine wpAnyH_take (i := 16) (v := ?v153_16) rfl (by kernel_rfl) (by kernel_rfl) (by kernel_rfl) (fun _ _ _ h => h) (Or.inl ⟨by kernel_rfl, ?hy153_16⟩) hHeld ?rest153_16
            case hy153_16 =>
              intro w hSw
              (try dsimp only at hSw)
              go_simp
              all_goals (first | done | with_reducible rfl)
            try simp only [Act.put]
            try simp only [List.setIfInBounds_toArray]
            try simp only [List.set_cons_succ]
            try simp only [List.set_cons_zero]
            refine wpAnyH_take (i := 17) (v := ?v154_17) rfl (by kernel_rfl) (by kernel_rfl) (by kernel_rfl) (fun _ _ _ h => h) (Or.inl ⟨by kernel_rfl, ?hy154_17⟩) hHeld ?rest154_17
            case hy154_17 =>
              intro w hSw
              (try dsimp only at hSw)
              go_simp
              all_goals (first | done | with_reducible rfl)
            try simp only [Act.put]
            try simp only [List.setIfInBounds_toArray]
            try simp only [List.set_cons_succ]
            try simp only [List.set_cons_zero]
            refine wpAnyH_take (i := 18) (v := ?v155_18) rfl (by kernel_rfl) (by kernel_rfl) (by kernel_rfl) (fun _ _ _ h => h) (Or.inl ⟨by kernel_rfl, ?hy155_18⟩) hHeld ?rest155_18
            case hy155_18 =>
              intro w hSw
              (try dsimp only at hSw)
              go_simp
              all_goals (first | done | with_reducible rfl)
            try simp only [Act.put]
            try simp only [List.setIfInBounds_toArray]
            try simp only [List.set_cons_succ]
            try simp only [List.set_cons_zero]
            refine wpAnyH_take (i := 19) (v := ?v156_19) rfl (by kernel_rfl) (by kernel_rfl) (by kernel_rfl) (fun _ _ _ h => h) (Or.inl ⟨by kernel_rfl, ?hy156_19⟩) hHeld ?rest156_19
            case hy156_19 =>
              intro w hSw
              (try dsimp only at hSw)
              go_simp
              all_goals (first | done | with_reducible rfl)
            try simp only [Act.put]
            try simp only [List.setIfInBounds_toArray]
            try simp only [List.set_cons_succ]
            try simp only [List.set_cons_zero]
            refine wpAnyH_take (i := 20) (v := ?v157_20) rfl (by kernel_rfl) (by kernel_rfl) (by kernel_rfl) (fun _ _ _ h => h) (Or.inl ⟨by kernel_rfl, ?hy157_20⟩) hHeld ?rest157_20
            case hy157_20 =>
              intro w hSw
              (try dsimp only at hSw)
              go_simp
              all_goals (first | done | with_reducible rfl)
            try simp only [Act.put]
            try simp only [List.setIfInBounds_toArray]
            try simp only [List.set_cons_succ]
            try simp only [List.set_cons_zero]
            refine wpAnyH_take (i := 21) (v := ?v158_21) rfl (by kernel_rfl) (by kernel_rfl) (by kernel_rfl) (fun _ _ _ h => h) (Or.inl ⟨by kernel_rfl, ?hy158_21⟩) hHeld ?rest158_21
            case hy158_21 =>
              intro w hSw
              (try dsimp only at hSw)
              go_simp
              all_goals (first | done | with_reducible rfl)
            try simp only [Act.put]
            try simp only [List.setIfInBounds_toArray]
            try simp only [List.set_cons_succ]
            try simp only [List.set_cons_zero]
            refine wpAnyH_take (i := 22) (v := ?v159_22) rfl (by kernel_rfl) (by kernel_rfl) (by kernel_rfl) (fun _ _ _ h => h) (Or.inl ⟨by kernel_rfl, ?hy159_22⟩) hHeld ?rest159_22
            case hy159_22 =>
              intro w hSw
              (try dsimp only at hSw)
              go_simp
              all_goals (first | done | with_reducible rfl)
            try simp only [Act.put]
            try simp only [List.setIfInBounds_toArray]
            try simp only [List.set_cons_succ]
            try simp only [List.set_cons_zero]
            refine wpAnyH_take (i := 23) (v := ?v160_23) rfl (by kernel_rfl) (by kernel_rfl) (by kernel_rfl) (fun _ _ _ h => h) (Or.inl ⟨by kernel_rfl, ?hy160_23⟩) hHeld ?rest160_23
            case hy160_23 =>
              intro w hSw
              (try dsimp only at hSw)
              go_simp
              all_goals (first | done | with_reducible rfl)
            try simp only [Act.put]
            try simp only [List.setIfInBounds_toArray]
            try simp only [List.set_cons_succ]
            try simp only [List.set_cons_zero]
            refine wpAnyH_take (i := 24) (v := ?v161_24) rfl (by kernel_rfl) (by kernel_rfl) (by kernel_rfl) (fun _ _ _ h => h) (Or.inl ⟨by kernel_rfl, ?hy161_24⟩) hHeld ?rest161_24
            case hy161_24 =>
              intro w hSw
              (try dsimp only at hSw)
              go_simp
              all_goals (first | done | with_reducible rfl)
            try simp only [Act.put]
            try simp only [List.setIfInBounds_toArray]
            try simp only [List.set_cons_succ]
            try simp only [List.set_cons_zero]
            refine wpAnyH_take (i := 25) (v := ?v162_25) rfl (by kernel_rfl) (by kernel_rfl) (by kernel_rfl) (fun _ _ _ h => h) (Or.inl ⟨by kernel_rfl, ?hy162_25⟩) hHeld ?rest162_25
            case hy162_25 =>
              intro w hSw
              (try dsimp only at hSw)
              go_simp
              all_goals (first | done | with_reducible rfl)
            try simp only [Act.put]
            try simp only [List.setIfInBounds_toArray]
            try simp only [List.set_cons_succ]
            try simp only [List.set_cons_zero]
            refine wpAnyH_take (i := 26) (v := ?v163_26) rfl (by kernel_rfl) (by kernel_rfl) (by kernel_rfl) (fun _ _ _ h => h) (Or.inl ⟨by kernel_rfl, ?hy163_26⟩) hHeld ?rest163_26
            case hy163_26 =>
              intro w hSw
              (try dsimp only at hSw)
              go_simp
              all_goals (first | done | with_reducible rfl)
            try simp only [Act.put]
            try simp only [List.setIfInBounds_toArray]
            try simp only [List.set_cons_succ]
            try simp only [List.set_cons_zero]
            refine wpAnyH_ready (rs := [27]) (by kernel_rfl) (by simp) ?_
            refine AllReadyH.cons rfl (fun K hK => ?_) AllReadyH.nil
            go_simp
            go_at_call 51
            refine (specExEqual d _ _ s2 t2 _ P2.out Q2_.out).mono ?_
            rintro e wB ⟨he, hb⟩
            rw [Q2.out] at he
            subst he
            replace HBX := Lib.hid (two_on HBX.out hb)
            clear hb P2 Q2_
            clear hHeld
            try go_wp2_with fail
            refine hK.out _ _ (by exact ⟨two_first HBX.out 9, two_next HBX.out 9, ((two_below HBX.out).cell (p := ⟨b1, off1 + k * 12, none⟩) hbl1).trans K10.out, ((two_below HBX.out).cell (p := ⟨b1, off1 + k * 12 + 1, none⟩) hbl1).trans K11.out, ((two_below HBX.out).cell (p := ⟨b1, off1 + k * 12 + 2, none⟩) hbl1).trans K12.out, ((two_below HBX.out).cell (p := ⟨b1, off1 + k * 12 + 3, none⟩) hbl1).trans K13.out, ((two_below HBX.out).cell (p := ⟨b1, off1 + k * 12 + 4, none⟩) hbl1).trans K14.out, ((two_below HBX.out).cell (p := ⟨b1, off1 + k * 12 + 5, none⟩) hbl1).trans K15.out, ((two_below HBX.out).cell (p := ⟨b1, off1 + k * 12 + 6, none⟩) hbl1).trans K16.out, ((two_below HBX.out).cell (p := ⟨b1, off1 + k * 12 + 7, none⟩) hbl1).trans K17.out, ((two_below HBX.out).cell (p := ⟨b1, off1 + k * 12 + 8, none⟩) hbl1).trans K18.out, ((two_below HBX.out).cell (p := ⟨b1, off1 + k * 12 + 9, none⟩) hbl1).trans K19.out, ((two_below HBX.out).cell (p := ⟨b1, off1 + k * 12 + 10, none⟩) hbl1).trans K110.out, ((two_below HBX.out).cell (p := ⟨b1, off1 + k * 12 + 11, none⟩) hbl1).trans K111.out, ((two_below HBX.out).cell (p := ⟨b2, off2 + k * 12, none⟩) hbl2).trans K20.out, ((two_below HBX.out).cell (p := ⟨b2, off2 + k * 12 + 1, none⟩) hbl2).trans K21.out, ((two_below HBX.out).cell (p := ⟨b2, off2 + k * 12 + 2, none⟩) hbl2).trans K22.out, ((two_below HBX.out).cell (p := ⟨b2, off2 + k * 12 + 3, none⟩) hbl2).trans K23.out, ((two_below HBX.out).cell (p := ⟨b2, off2 + k * 12 + 4, none⟩) hbl2).trans K24.out, ((two_below HBX.out).cell (p := ⟨b2, off2 + k * 12 + 5, none⟩) hbl2).trans K25.out, ((two_below HBX.out).cell (p := ⟨b2, off2 + k * 12 + 6, none⟩) hbl2).trans K26.out, ((two_below HBX.out).cell (p := ⟨b2, off2 + k * 12 + 7, none⟩) hbl2).trans K27.out, ((two_below HBX.out).cell (p := ⟨b2, off2 + k * 12 + 8, none⟩) hbl2).trans K28.out, ((two_below HBX.out).cell (p := ⟨b2, off2 + k * 12 + 9, none⟩) hbl2).trans K29.out, ((two_below HBX.out).cell (p := ⟨b2, off2 + k * 12 + 10, none⟩) hbl2).trans K210.out, ((two_below HBX.out).cell (p := ⟨b2, off2 + k * 12 + 11, none⟩) hbl2).trans K211.out⟩) (fun hHeld => ?_)
            clear hK K
            try simp only [Act.put]
            try simp only [List.setIfInBounds_toArray]
            try simp only [List.set_cons_succ]
            try simp only [List.set_cons_zero]
            refine wpAnyH_take (i := 28) (v := ?v164_28) rfl (by kernel_rfl) (by kernel_rfl) (by kernel_rfl) (fun _ _ _ h => h) (Or.inl ⟨by kernel_rfl, ?hy164_28⟩) hHeld ?rest164_28
            case hy164_28 =>
              intro w hSw
              (try dsimp only at hSw)
              go_simp
              all_goals (first | done | with_reducible rfl)
            try simp only [Act.put]
            try simp only [List.setIfInBounds_toArray]
            try simp only [List.set_cons_succ]
            try simp only [List.set_cons_zero]
            refine wpAnyH_take (i := 29) (v := ?v165_29) rfl (by kernel_rfl) (by kernel_rfl) (by kernel_rfl) (fun _ _ _ h => h) (Or.inl ⟨by rfl, ?hy165_29⟩) hHeld ?rest165_29
            case hy165_29 =>
              intro w hSw
              (try dsimp only at hSw)
              go_simp
              all_goals (first | done | with_reducible rfl)
            try simp only [Act.put]
            try simp only [List.setIfInBounds_toArray]
            try simp only [List.set_cons_succ]
            try simp only [List.set_cons_zero]
            refine wpAnyH_done (by kernel_rfl) ?_ _
            try simp only [List.getElem_toArray]
            try simp only [List.getElem_cons_succ]
            try simp only [List.getElem_cons_zero]
            try simp only [Act.put]
            try simp only [List.setIfInBounds_toArray]
            try simp only [List.set_cons_succ]
            try simp only [List.set_cons_zero]
            go_wp2_with fail
            go_ret
            exact ⟨by rw [HK.out]; rfl, two_below HBX.out⟩
          | true =>
            have HK : Hid (Tst.beqs (x2.take (k + 1)) (y2.take (k + 1)) = true) := by show _ = _; rw [HTK.out, HF.out, HE.out, q1, q2]; rfl
            have Q1 := Lib.hid q1
            have Q2 := Lib.hid q2
            clear q1 q2
            refine wp_region_held_drew (S := (fun w' => w'.cell? ⟨w.heap.size, 9, none⟩ = some (.slice (some ⟨b1, off1, none⟩) x2.length pcc) ∧ w'.cell? ⟨w.heap.size + 1, 9, none⟩ = some (.slice (some ⟨b2, off2, none⟩) y2.length ucc) ∧ w'.cell? ⟨b1, off1 + k * 12, none⟩ = some (.int .i64 abk) ∧ w'.cell? ⟨b1, off1 + k * 12 + 1, none⟩ = some (.string abnm) ∧ w'.cell? ⟨b1, off1 + k * 12 + 2, none⟩ = some (.int .i64 abm) ∧ w'.cell? ⟨b1, off1 + k * 12 + 3, none⟩ = some (.int .i64 abtk) ∧ w'.cell? ⟨b1, off1 + k * 12 + 4, none⟩ = some (.slice abta abtn abtc) ∧ w'.cell? ⟨b1, off1 + k * 12 + 5, none⟩ = some (.slice absa absn absc) ∧ w'.cell? ⟨b1, off1 + k * 12 + 6, none⟩ = some (.int .i64 ack) ∧ w'.cell? ⟨b1, off1 + k * 12 + 7, none⟩ = some (.string acnm) ∧ w'.cell? ⟨b1, off1 + k * 12 + 8, none⟩ = some (.int .i64 acm) ∧ w'.cell? ⟨b1, off1 + k * 12 + 9, none⟩ = some (.int .i64 actk) ∧ w'.cell? ⟨b1, off1 + k * 12 + 10, none⟩ = some (.slice acta actn actc) ∧ w'.cell? ⟨b1, off1 + k * 12 + 11, none⟩ = some (.slice acsa acsn acsc) ∧ w'.cell? ⟨b2, off2 + k * 12, none⟩ = some (.int .i64 bbk) ∧ w'.cell? ⟨b2, off2 + k * 12 + 1, none⟩ = some (.string bbnm) ∧ w'.cell? ⟨b2, off2 + k * 12 + 2, none⟩ = some (.int .i64 bbm) ∧ w'.cell? ⟨b2, off2 + k * 12 + 3, none⟩ = some (.int .i64 bbtk) ∧ w'.cell? ⟨b2, off2 + k * 12 + 4, none⟩ = some (.slice bbta bbtn bbtc) ∧ w'.cell? ⟨b2, off2 + k * 12 + 5, none⟩ = some (.slice bbsa bbsn bbsc) ∧ w'.cell? ⟨b2, off2 + k * 12 + 6, none⟩ = some (.int .i64 bck) ∧ w'.cell? ⟨b2, off2 + k * 12 + 7, none⟩ = some (.string bcnm) ∧ w'.cell? ⟨b2, off2 + k * 12 + 8, none⟩ = some (.int .i64 bcm) ∧ w'.cell? ⟨b2, off2 + k * 12 + 9, none⟩ = some (.int .i64 bctk) ∧ w'.cell? ⟨b2, off2 + k * 12 + 10, none⟩ = some (.slice bcta bctn bctc) ∧ w'.cell? ⟨b2, off2 + k * 12 + 11, none⟩ = some (.slice bcsa bcsn bcsc))) (by kernel_rfl) (by exact ⟨two_first HBX.out 9, two_next HBX.out 9, ((two_below HBX.out).cell (p := ⟨b1, off1 + k * 12, none⟩) hbl1).trans K10.out, ((two_below HBX.out).cell (p := ⟨b1, off1 + k * 12 + 1, none⟩) hbl1).trans K11.out, ((two_below HBX.out).cell (p := ⟨b1, off1 + k * 12 + 2, none⟩) hbl1).trans K12.out, ((two_below HBX.out).cell (p := ⟨b1, off1 + k * 12 + 3, none⟩) hbl1).trans K13.out, ((two_below HBX.out).cell (p := ⟨b1, off1 + k * 12 + 4, none⟩) hbl1).trans K14.out, ((two_below HBX.out).cell (p := ⟨b1, off1 + k * 12 + 5, none⟩) hbl1).trans K15.out, ((two_below HBX.out).cell (p := ⟨b1, off1 + k * 12 + 6, none⟩) hbl1).trans K16.out, ((two_below HBX.out).cell (p := ⟨b1, off1 + k * 12 + 7, none⟩) hbl1).trans K17.out, ((two_below HBX.out).cell (p := ⟨b1, off1 + k * 12 + 8, none⟩) hbl1).trans K18.out, ((two_below HBX.out).cell (p := ⟨b1, off1 + k * 12 + 9, none⟩) hbl1).trans K19.out, ((two_below HBX.out).cell (p := ⟨b1, off1 + k * 12 + 10, none⟩) hbl1).trans K110.out, ((two_below HBX.out).cell (p := ⟨b1, off1 + k * 12 + 11, none⟩) hbl1).trans K111.out, ((two_below HBX.out).cell (p := ⟨b2, off2 + k * 12, none⟩) hbl2).trans K20.out, ((two_below HBX.out).cell (p := ⟨b2, off2 + k * 12 + 1, none⟩) hbl2).trans K21.out, ((two_below HBX.out).cell (p := ⟨b2, off2 + k * 12 + 2, none⟩) hbl2).trans K22.out, ((two_below HBX.out).cell (p := ⟨b2, off2 + k * 12 + 3, none⟩) hbl2).trans K23.out, ((two_below HBX.out).cell (p := ⟨b2, off2 + k * 12 + 4, none⟩) hbl2).trans K24.out, ((two_below HBX.out).cell (p := ⟨b2, off2 + k * 12 + 5, none⟩) hbl2).trans K25.out, ((two_below HBX.out).cell (p := ⟨b2, off2 + k * 12 + 6, none⟩) hbl2).trans K26.out, ((two_below HBX.out).cell (p := ⟨b2, off2 + k * 12 + 7, none⟩) hbl2).trans K27.out, ((two_below HBX.out).cell (p := ⟨b2, off2 + k * 12 + 8, none⟩) hbl2).trans K28.out, ((two_below HBX.out).cell (p := ⟨b2, off2 + k * 12 + 9, none⟩) hbl2).trans K29.out, ((two_below HBX.out).cell (p := ⟨b2, off2 + k * 12 + 10, none⟩) hbl2).trans K210.out, ((two_below HBX.out).cell (p := ⟨b2, off2 + k * 12 + 11, none⟩) hbl2).trans K211.out⟩) (fun hHeld => ?_)
            refine wpAnyH_take (i := 0) (v := ?v166_0) rfl (by kernel_rfl) (by kernel_rfl) (by kernel_rfl) (fun _ _ _ h => h) (Or.inl ⟨by rfl, ?hy166_0⟩) hHeld ?rest166_0
            case hy166_0 =>
              intro w hSw
              (try dsimp only at hSw)
              go_simp
              all_goals (first | done | with_reducible rfl)
            try simp only [Act.put]
            try simp only [List.setIfInBounds_toArray]
            try simp only [List.set_cons_succ]
            try simp only [List.set_cons_zero]
            refine wpAnyH_take (i := 1) (v := ?v167_1) rfl (by kernel_rfl) (by kernel_rfl) (by kernel_rfl) (fun _ _ _ h => h) (Or.inl ⟨by rfl, ?hy167_1⟩) hHeld ?rest167_1
            case hy167_1 =>
              intro w hSw
              (try dsimp only at hSw)
              go_simp
              all_goals (first | done | with_reducible rfl)
            try simp only [Act.put]
            try simp only [List.setIfInBounds_toArray]
            try simp only [List.set_cons_succ]
            try simp only [List.set_cons_zero]
            refine wpAnyH_take (i := 2) (v := ?v168_2) rfl (by kernel_rfl) (by kernel_rfl) (by kernel_rfl) (fun _ _ _ h => h) (Or.inl ⟨by rfl, ?hy168_2⟩) hHeld ?rest168_2
            case hy168_2 =>
              intro w hSw
              (try dsimp only at hSw)
              go_simp
              all_goals (first | done | with_reducible rfl)
            try simp only [Act.put]
            try simp only [List.setIfInBounds_toArray]
            try simp only [List.set_cons_succ]
            try simp only [List.set_cons_zero]
            refine wpAnyH_take (i := 3) (v := ?v169_3) rfl (by kernel_rfl) (by kernel_rfl) (by kernel_rfl) (fun _ _ _ h => h) (Or.inl ⟨by rfl, ?hy169_3⟩) hHeld ?rest169_3
            case hy169_3 =>
              intro w hSw
              (try dsimp only at hSw)
              go_simp
              all_goals (first | done | with_reducible rfl)
            try simp only [Act.put]
            try simp only [List.setIfInBounds_toArray]
            try simp only [List.set_cons_succ]
            try simp only [List.set_cons_zero]
            refine wpAnyH_take (i := 4) (v := ?v170_4) rfl (by kernel_rfl) (by kernel_rfl) (by kernel_rfl) (fun _ _ _ h => h) (Or.inl ⟨by rfl, ?hy170_4⟩) hHeld ?rest170_4
            case hy170_4 =>
              intro w hSw
              (try dsimp only at hSw)
              go_simp
              all_goals (first | done | with_reducible rfl)
            try simp only [Act.put]
            try simp only [List.setIfInBounds_toArray]
            try simp only [List.set_cons_succ]
            try simp only [List.set_cons_zero]
            refine wpAnyH_take (i := 5) (v := ?v171_5) rfl (by kernel_rfl) (by kernel_rfl) (by kernel_rfl) (fun _ _ _ h => h) (Or.inl ⟨by rfl, ?hy171_5⟩) hHeld ?rest171_5
            case hy171_5 =>
              intro w hSw
              (try dsimp only at hSw)
              go_simp
              all_goals (first | done | with_reducible rfl)
            try simp only [Act.put]
            try simp only [List.setIfInBounds_toArray]
            try simp only [List.set_cons_succ]
            try simp only [List.set_cons_zero]
            refine wpAnyH_take (i := 6) (v := ?v172_6) rfl (by kernel_rfl) (by kernel_rfl) (by kernel_rfl) (fun _ _ _ h => h) (Or.inl ⟨by rfl, ?hy172_6⟩) hHeld ?rest172_6
            case hy172_6 =>
              intro w hSw
              (try dsimp only at hSw)
              go_simp
              all_goals (first | done | with_reducible rfl)
            try simp only [Act.put]
            try simp only [List.setIfInBounds_toArray]
            try simp only [List.set_cons_succ]
            try simp only [List.set_cons_zero]
            refine wpAnyH_take (i := 7) (v := ?v173_7) rfl (by kernel_rfl) (by kernel_rfl) (by kernel_rfl) (fun _ _ _ h => h) (Or.inl ⟨by rfl, ?hy173_7⟩) hHeld ?rest173_7
            case hy173_7 =>
              intro w hSw
              (try dsimp only at hSw)
              go_simp
              all_goals (first | done | with_reducible rfl)
            try simp only [Act.put]
            try simp only [List.setIfInBounds_toArray]
            try simp only [List.set_cons_succ]
            try simp only [List.set_cons_zero]
            refine wpAnyH_take (i := 8) (v := ?v174_8) rfl (by kernel_rfl) (by kernel_rfl) (by kernel_rfl) (fun _ _ _ h => h) (Or.inl ⟨by rfl, ?hy174_8⟩) hHeld ?rest174_8
            case hy174_8 =>
              intro w hSw
              (try dsimp only at hSw)
              go_simp
              all_goals (first | done | with_reducible rfl)
            try simp only [Act.put]
            try simp only [List.setIfInBounds_toArray]
            try simp only [List.set_cons_succ]
            try simp only [List.set_cons_zero]
            refine wpAnyH_take (i := 9) (v := ?v175_9) rfl (by kernel_rfl) (by kernel_rfl) (by kernel_rfl) (fun _ _ _ h => h) (Or.inl ⟨by rfl, ?hy175_9⟩) hHeld ?rest175_9
            case hy175_9 =>
              intro w hSw
              (try dsimp only at hSw)
              go_simp
              all_goals (first | done | with_reducible rfl)
            try simp only [Act.put]
            try simp only [List.setIfInBounds_toArray]
            try simp only [List.set_cons_succ]
            try simp only [List.set_cons_zero]
            refine wpAnyH_take (i := 10) (v := ?v176_10) rfl (by kernel_rfl) (by kernel_rfl) (by kernel_rfl) (fun _ _ _ h => h) (Or.inl ⟨by rfl, ?hy176_10⟩) hHeld ?rest176_10
            case hy176_10 =>
              intro w hSw
              (try dsimp only at hSw)
              go_simp
              all_goals (first | done | with_reducible rfl)
            try simp only [Act.put]
            try simp only [List.setIfInBounds_toArray]
            try simp only [List.set_cons_succ]
            try simp only [List.set_cons_zero]
            refine wpAnyH_take (i := 11) (v := ?v177_11) rfl (by kernel_rfl) (by kernel_rfl) (by kernel_rfl) (fun _ _ _ h => h) (Or.inl ⟨by rfl, ?hy177_11⟩) hHeld ?rest177_11
            case hy177_11 =>
              intro w hSw
              (try dsimp only at hSw)
              go_simp
              all_goals (first | done | with_reducible rfl)
            try simp only [Act.put]
            try simp only [List.setIfInBounds_toArray]
            try simp only [List.set_cons_succ]
            try simp only [List.set_cons_zero]
            refine wpAnyH_ready (rs := [12]) (by kernel_rfl) (by simp) ?_
            refine AllReadyH.cons rfl (fun K hK => ?_) AllReadyH.nil
            go_simp
            go_at_call 51
            refine (specExEqual d _ _ s1 t1 _ P1.out Q1_.out).mono ?_
            rintro e wA ⟨he, hb⟩
            rw [Q1.out] at he
            subst he
            replace HBX := Lib.hid (two_on HBX.out hb)
            replace P2 := Lib.hid (P2.out.below hb)
            replace Q2_ := Lib.hid (Q2_.out.below hb)
            clear hb P1 Q1_
            clear hHeld
            try go_wp2_with fail
            refine hK.out _ _ (by exact ⟨two_first HBX.out 9, two_next HBX.out 9, ((two_below HBX.out).cell (p := ⟨b1, off1 + k * 12, none⟩) hbl1).trans K10.out, ((two_below HBX.out).cell (p := ⟨b1, off1 + k * 12 + 1, none⟩) hbl1).trans K11.out, ((two_below HBX.out).cell (p := ⟨b1, off1 + k * 12 + 2, none⟩) hbl1).trans K12.out, ((two_below HBX.out).cell (p := ⟨b1, off1 + k * 12 + 3, none⟩) hbl1).trans K13.out, ((two_below HBX.out).cell (p := ⟨b1, off1 + k * 12 + 4, none⟩) hbl1).trans K14.out, ((two_below HBX.out).cell (p := ⟨b1, off1 + k * 12 + 5, none⟩) hbl1).trans K15.out, ((two_below HBX.out).cell (p := ⟨b1, off1 + k * 12 + 6, none⟩) hbl1).trans K16.out, ((two_below HBX.out).cell (p := ⟨b1, off1 + k * 12 + 7, none⟩) hbl1).trans K17.out, ((two_below HBX.out).cell (p := ⟨b1, off1 + k * 12 + 8, none⟩) hbl1).trans K18.out, ((two_below HBX.out).cell (p := ⟨b1, off1 + k * 12 + 9, none⟩) hbl1).trans K19.out, ((two_below HBX.out).cell (p := ⟨b1, off1 + k * 12 + 10, none⟩) hbl1).trans K110.out, ((two_below HBX.out).cell (p := ⟨b1, off1 + k * 12 + 11, none⟩) hbl1).trans K111.out, ((two_below HBX.out).cell (p := ⟨b2, off2 + k * 12, none⟩) hbl2).trans K20.out, ((two_below HBX.out).cell (p := ⟨b2, off2 + k * 12 + 1, none⟩) hbl2).trans K21.out, ((two_below HBX.out).cell (p := ⟨b2, off2 + k * 12 + 2, none⟩) hbl2).trans K22.out, ((two_below HBX.out).cell (p := ⟨b2, off2 + k * 12 + 3, none⟩) hbl2).trans K23.out, ((two_below HBX.out).cell (p := ⟨b2, off2 + k * 12 + 4, none⟩) hbl2).trans K24.out, ((two_below HBX.out).cell (p := ⟨b2, off2 + k * 12 + 5, none⟩) hbl2).trans K25.out, ((two_below HBX.out).cell (p := ⟨b2, off2 + k * 12 + 6, none⟩) hbl2).trans K26.out, ((two_below HBX.out).cell (p := ⟨b2, off2 + k * 12 + 7, none⟩) hbl2).trans K27.out, ((two_below HBX.out).cell (p := ⟨b2, off2 + k * 12 + 8, none⟩) hbl2).trans K28.out, ((two_below HBX.out).cell (p := ⟨b2, off2 + k * 12 + 9, none⟩) hbl2).trans K29.out, ((two_below HBX.out).cell (p := ⟨b2, off2 + k * 12 + 10, none⟩) hbl2).trans K210.out, ((two_below HBX.out).cell (p := ⟨b2, off2 + k * 12 + 11, none⟩) hbl2).trans K211.out⟩) (fun hHeld => ?_)
            clear hK K
            try simp only [Act.put]
            try simp only [List.setIfInBounds_toArray]
            try simp only [List.set_cons_succ]
            try simp only [List.set_cons_zero]
            refine wpAnyH_take (i := 13) (v := ?v178_13) rfl (by kernel_rfl) (by kernel_rfl) (by kernel_rfl) (fun _ _ _ h => h) (Or.inl ⟨by rfl, ?hy178_13⟩) hHeld ?rest178_13
            case hy178_13 =>
              intro w hSw
              (try dsimp only at hSw)
              go_simp
              all_goals (first | done | with_reducible rfl)
            try simp only [Act.put]
            try simp only [List.setIfInBounds_toArray]
            try simp only [List.set_cons_succ]
            try simp only [List.set_cons_zero]
            refine wpAnyH_take (i := 14) (v := ?v179_14) rfl (by kernel_rfl) (by kernel_rfl) (by kernel_rfl) (fun _ _ _ h => h) (Or.inl ⟨by rfl, ?hy179_14⟩) hHeld ?rest179_14
            case hy179_14 =>
              intro w hSw
              (try dsimp only at hSw)
              go_simp
              all_goals (first | done | with_reducible rfl)
            try simp only [Act.put]
            try simp only [List.setIfInBounds_toArray]
            try simp only [List.set_cons_succ]
            try simp only [List.set_cons_zero]
            refine wpAnyH_take (i := 15) (v := ?v180_15) rfl (by kernel_rfl) (by kernel_rfl) (by kernel_rfl) (fun _ _ _ h => h) (Or.inl ⟨by kernel_rfl, ?hy180_15⟩) hHeld ?rest180_15
            case hy180_15 =>
              intro w hSw
              (try dsimp only at hSw)
              go_simp
              all_goals (first | done | with_reducible rfl)
            try simp only [Act.put]
            try simp only [List.setIfInBounds_toArray]
            try simp only [List.set_cons_succ]
            try simp only [List.set_cons_zero]
            refine wpAnyH_take (i := 16) (v := ?v181_16) rfl (by kernel_rfl) (by kernel_rfl) (by kernel_rfl) (fun _ _ _ h => h) (Or.inl ⟨by kernel_rfl, ?hy181_16⟩) hHeld ?rest181_16
            case hy181_16 =>
              intro w hSw
              (try dsimp only at hSw)
              go_simp
              all_goals (first | done | with_reducible rfl)
            try simp only [Act.put]
            try simp only [List.setIfInBounds_toArray]
            try simp only [List.set_cons_succ]
            try simp only [List.set_cons_zero]
            refine wpAnyH_take (i := 17) (v := ?v182_17) rfl (by kernel_rfl) (by kernel_rfl) (by kernel_rfl) (fun _ _ _ h => h) (Or.inl ⟨by kernel_rfl, ?hy182_17⟩) hHeld ?rest182_17
            case hy182_17 =>
              intro w hSw
              (try dsimp only at hSw)
              go_simp
              all_goals (first | done | with_reducible rfl)
            try simp only [Act.put]
            try simp only [List.setIfInBounds_toArray]
            try simp only [List.set_cons_succ]
            try simp only [List.set_cons_zero]
            refine wpAnyH_take (i := 18) (v := ?v183_18) rfl (by kernel_rfl) (by kernel_rfl) (by kernel_rfl) (fun _ _ _ h => h) (Or.inl ⟨by kernel_rfl, ?hy183_18⟩) hHeld ?rest183_18
            case hy183_18 =>
              intro w hSw
              (try dsimp only at hSw)
              go_simp
              all_goals (first | done | with_reducible rfl)
            try simp only [Act.put]
            try simp only [List.setIfInBounds_toArray]
            try simp only [List.set_cons_succ]
            try simp only [List.set_cons_zero]
            refine wpAnyH_take (i := 19) (v := ?v184_19) rfl (by kernel_rfl) (by kernel_rfl) (by kernel_rfl) (fun _ _ _ h => h) (Or.inl ⟨by kernel_rfl, ?hy184_19⟩) hHeld ?rest184_19
            case hy184_19 =>
              intro w hSw
              (try dsimp only at hSw)
              go_simp
              all_goals (first | done | with_reducible rfl)
            try simp only [Act.put]
            try simp only [List.setIfInBounds_toArray]
            try simp only [List.set_cons_succ]
            try simp only [List.set_cons_zero]
            refine wpAnyH_take (i := 20) (v := ?v185_20) rfl (by kernel_rfl) (by kernel_rfl) (by kernel_rfl) (fun _ _ _ h => h) (Or.inl ⟨by kernel_rfl, ?hy185_20⟩) hHeld ?rest185_20
            case hy185_20 =>
              intro w hSw
              (try dsimp only at hSw)
              go_simp
              all_goals (first | done | with_reducible rfl)
            try simp only [Act.put]
            try simp only [List.setIfInBounds_toArray]
            try simp only [List.set_cons_succ]
            try simp only [List.set_cons_zero]
            refine wpAnyH_take (i := 21) (v := ?v186_21) rfl (by kernel_rfl) (by kernel_rfl) (by kernel_rfl) (fun _ _ _ h => h) (Or.inl ⟨by kernel_rfl, ?hy186_21⟩) hHeld ?rest186_21
            case hy186_21 =>
              intro w hSw
              (try dsimp only at hSw)
              go_simp
              all_goals (first | done | with_reducible rfl)
            try simp only [Act.put]
            try simp only [List.setIfInBounds_toArray]
            try simp only [List.set_cons_succ]
            try simp only [List.set_cons_zero]
            refine wpAnyH_take (i := 22) (v := ?v187_22) rfl (by kernel_rfl) (by kernel_rfl) (by kernel_rfl) (fun _ _ _ h => h) (Or.inl ⟨by kernel_rfl, ?hy187_22⟩) hHeld ?rest187_22
            case hy187_22 =>
              intro w hSw
              (try dsimp only at hSw)
              go_simp
              all_goals (first | done | with_reducible rfl)
            try simp only [Act.put]
            try simp only [List.setIfInBounds_toArray]
            try simp only [List.set_cons_succ]
            try simp only [List.set_cons_zero]
            refine wpAnyH_take (i := 23) (v := ?v188_23) rfl (by kernel_rfl) (by kernel_rfl) (by kernel_rfl) (fun _ _ _ h => h) (Or.inl ⟨by kernel_rfl, ?hy188_23⟩) hHeld ?rest188_23
            case hy188_23 =>
              intro w hSw
              (try dsimp only at hSw)
              go_simp
              all_goals (first | done | with_reducible rfl)
            try simp only [Act.put]
            try simp only [List.setIfInBounds_toArray]
            try simp only [List.set_cons_succ]
            try simp only [List.set_cons_zero]
            refine wpAnyH_take (i := 24) (v := ?v189_24) rfl (by kernel_rfl) (by kernel_rfl) (by kernel_rfl) (fun _ _ _ h => h) (Or.inl ⟨by kernel_rfl, ?hy189_24⟩) hHeld ?rest189_24
            case hy189_24 =>
              intro w hSw
              (try dsimp only at hSw)
              go_simp
              all_goals (first | done | with_reducible rfl)
            try simp only [Act.put]
            try simp only [List.setIfInBounds_toArray]
            try simp only [List.set_cons_succ]
            try simp only [List.set_cons_zero]
            refine wpAnyH_take (i := 25) (v := ?v190_25) rfl (by kernel_rfl) (by kernel_rfl) (by kernel_rfl) (fun _ _ _ h => h) (Or.inl ⟨by kernel_rfl, ?hy190_25⟩) hHeld ?rest190_25
            case hy190_25 =>
              intro w hSw
              (try dsimp only at hSw)
              go_simp
              all_goals (first | done | with_reducible rfl)
            try simp only [Act.put]
            try simp only [List.setIfInBounds_toArray]
            try simp only [List.set_cons_succ]
            try simp only [List.set_cons_zero]
            refine wpAnyH_take (i := 26) (v := ?v191_26) rfl (by kernel_rfl) (by kernel_rfl) (by kernel_rfl) (fun _ _ _ h => h) (Or.inl ⟨by kernel_rfl, ?hy191_26⟩) hHeld ?rest191_26
            case hy191_26 =>
              intro w hSw
              (try dsimp only at hSw)
              go_simp
              all_goals (first | done | with_reducible rfl)
            try simp only [Act.put]
            try simp only [List.setIfInBounds_toArray]
            try simp only [List.set_cons_succ]
            try simp only [List.set_cons_zero]
            refine wpAnyH_ready (rs := [27]) (by kernel_rfl) (by simp) ?_
            refine AllReadyH.cons rfl (fun K hK => ?_) AllReadyH.nil
            go_simp
            go_at_call 51
            refine (specExEqual d _ _ s2 t2 _ P2.out Q2_.out).mono ?_
            rintro e wB ⟨he, hb⟩
            rw [Q2.out] at he
            subst he
            replace HBX := Lib.hid (two_on HBX.out hb)
            clear hb P2 Q2_
            clear hHeld
            try go_wp2_with fail
            refine hK.out _ _ (by exact ⟨two_first HBX.out 9, two_next HBX.out 9, ((two_below HBX.out).cell (p := ⟨b1, off1 + k * 12, none⟩) hbl1).trans K10.out, ((two_below HBX.out).cell (p := ⟨b1, off1 + k * 12 + 1, none⟩) hbl1).trans K11.out, ((two_below HBX.out).cell (p := ⟨b1, off1 + k * 12 + 2, none⟩) hbl1).trans K12.out, ((two_below HBX.out).cell (p := ⟨b1, off1 + k * 12 + 3, none⟩) hbl1).trans K13.out, ((two_below HBX.out).cell (p := ⟨b1, off1 + k * 12 + 4, none⟩) hbl1).trans K14.out, ((two_below HBX.out).cell (p := ⟨b1, off1 + k * 12 + 5, none⟩) hbl1).trans K15.out, ((two_below HBX.out).cell (p := ⟨b1, off1 + k * 12 + 6, none⟩) hbl1).trans K16.out, ((two_below HBX.out).cell (p := ⟨b1, off1 + k * 12 + 7, none⟩) hbl1).trans K17.out, ((two_below HBX.out).cell (p := ⟨b1, off1 + k * 12 + 8, none⟩) hbl1).trans K18.out, ((two_below HBX.out).cell (p := ⟨b1, off1 + k * 12 + 9, none⟩) hbl1).trans K19.out, ((two_below HBX.out).cell (p := ⟨b1, off1 + k * 12 + 10, none⟩) hbl1).trans K110.out, ((two_below HBX.out).cell (p := ⟨b1, off1 + k * 12 + 11, none⟩) hbl1).trans K111.out, ((two_below HBX.out).cell (p := ⟨b2, off2 + k * 12, none⟩) hbl2).trans K20.out, ((two_below HBX.out).cell (p := ⟨b2, off2 + k * 12 + 1, none⟩) hbl2).trans K21.out, ((two_below HBX.out).cell (p := ⟨b2, off2 + k * 12 + 2, none⟩) hbl2).trans K22.out, ((two_below HBX.out).cell (p := ⟨b2, off2 + k * 12 + 3, none⟩) hbl2).trans K23.out, ((two_below HBX.out).cell (p := ⟨b2, off2 + k * 12 + 4, none⟩) hbl2).trans K24.out, ((two_below HBX.out).cell (p := ⟨b2, off2 + k * 12 + 5, none⟩) hbl2).trans K25.out, ((two_below HBX.out).cell (p := ⟨b2, off2 + k * 12 + 6, none⟩) hbl2).trans K26.out, ((two_below HBX.out).cell (p := ⟨b2, off2 + k * 12 + 7, none⟩) hbl2).trans K27.out, ((two_below HBX.out).cell (p := ⟨b2, off2 + k * 12 + 8, none⟩) hbl2).trans K28.out, ((two_below HBX.out).cell (p := ⟨b2, off2 + k * 12 + 9, none⟩) hbl2).trans K29.out, ((two_below HBX.out).cell (p := ⟨b2, off2 + k * 12 + 10, none⟩) hbl2).trans K210.out, ((two_below HBX.out).cell (p := ⟨b2, off2 + k * 12 + 11, none⟩) hbl2).trans K211.out⟩) (fun hHeld => ?_)
            clear hK K
            try simp only [Act.put]
            try simp only [List.setIfInBounds_toArray]
            try simp only [List.set_cons_succ]
            try simp only [List.set_cons_zero]
            refine wpAnyH_take (i := 28) (v := ?v192_28) rfl (by kernel_rfl) (by kernel_rfl) (by kernel_rfl) (fun _ _ _ h => h) (Or.inl ⟨by kernel_rfl, ?hy192_28⟩) hHeld ?rest192_28
            case hy192_28 =>
              intro w hSw
              (try dsimp only at hSw)
              go_simp
              all_goals (first | done | with_reducible rfl)
            try simp only [Act.put]
            try simp only [List.setIfInBounds_toArray]
            try simp only [List.set_cons_succ]
            try simp only [List.set_cons_zero]
            refine wpAnyH_take (i := 29) (v := ?v193_29) rfl (by kernel_rfl) (by kernel_rfl) (by kernel_rfl) (fun _ _ _ h => h) (Or.inl ⟨by rfl, ?hy193_29⟩) hHeld ?rest193_29
            case hy193_29 =>
              intro w hSw
              (try dsimp only at hSw)
              go_simp
              all_goals (first | done | with_reducible rfl)
            try simp only [Act.put]
            try simp only [List.setIfInBounds_toArray]
            try simp only [List.set_cons_succ]
            try simp only [List.set_cons_zero]
            refine wpAnyH_done (by kernel_rfl) ?_ _
            try simp only [List.getElem_toArray]
            try simp only [List.getElem_cons_succ]
            try simp only [List.getElem_cons_zero]
            try simp only [Act.put]
            try simp only [List.setIfInBounds_toArray]
            try simp only [List.set_cons_succ]
            try simp only [List.set_cons_zero]
            go_wp2_with fail
            exact ⟨⟨k + 1, by omega, by go_num, HK.out, HBX.out⟩, by simp [intOf]; omega⟩
      · obtain rfl : k = x2.length := by omega
        have HK0 : Hid (Tst.beqs x2 y2 = true) := by
          have := HF.out
          rw [List.take_length, HL.out, List.take_length] at this; exact this
        have c0 := two_first HBX.out 0
        have u0 := two_next HBX.out 0
        have c1 := two_first HBX.out 1
        have u1 := two_next HBX.out 1
        have c2 := two_first HBX.out 2
        have u2 := two_next HBX.out 2
        have c3 := two_first HBX.out 3
        have u3 := two_next HBX.out 3
        have c4 := two_first HBX.out 4
        have u4 := two_next HBX.out 4
        have c5 := two_first HBX.out 5
        have u5 := two_next HBX.out 5
        have c6 := two_first HBX.out 6
        have u6 := two_next HBX.out 6
        have c7 := two_first HBX.out 7
        have u7 := two_next HBX.out 7
        have c8 := two_first HBX.out 8
        have u8 := two_next HBX.out 8
        go_wp2_with fail
        clear z1 z2 c0 u0 c1 u1 c2 u2 c3 u3 c4 u4 c5 u5 c6 u6 c7 u7 c8 u8
        replace H1 := Lib.hid (H1.out.below (two_all HBX.out))
        replace J1 := Lib.hid (J1.out.below (two_all HBX.out))
        replace H3 := Lib.hid (H3.out.below (two_all HBX.out))
        replace J3 := Lib.hid (J3.out.below (two_all HBX.out))
        replace H4 := Lib.hid (H4.out.below (two_all HBX.out))
        replace J4 := Lib.hid (J4.out.below (two_all HBX.out))
        refine (specHis d _ _ x1 y1 _ H1.out J1.out b11 b21).mono ?_
        rintro e w1 ⟨rfl, hb⟩
        replace HBX := Lib.hid (two_on HBX.out hb)
        replace H3 := Lib.hid (H3.out.below hb)
        replace J3 := Lib.hid (J3.out.below hb)
        replace H4 := Lib.hid (H4.out.below hb)
        replace J4 := Lib.hid (J4.out.below hb)
        clear hb H1 J1
        cases hv : His.beq x1 y1 with
        | false =>
          have HK : Hid ((Ses.mk x1 x2 x3 x4).beq (Ses.mk y1 y2 y3 y4) = false) := by show _ = _; rw [HQ.out, hv]; simp
          clear hv
          go_wp2_with fail
          go_ret
          exact ⟨by rw [HK.out]; rfl, two_below HBX.out⟩
        | true =>
          rw [hv] at HQ
          clear hv
          have c10 := two_first HBX.out 10
          have u10 := two_next HBX.out 10
          have c11 := two_first HBX.out 11
          have u11 := two_next HBX.out 11
          have c12 := two_first HBX.out 12
          have u12 := two_next HBX.out 12
          have c13 := two_first HBX.out 13
          have u13 := two_next HBX.out 13
          have c14 := two_first HBX.out 14
          have u14 := two_next HBX.out 14
          have c15 := two_first HBX.out 15
          have u15 := two_next HBX.out 15
          go_wp2_with fail
          clear c10 u10 c11 u11 c12 u12 c13 u13 c14 u14 c15 u15
          refine (specExEqual d _ _ x3 y3 _ H3.out J3.out).mono ?_
          rintro e w3 ⟨rfl, hb⟩
          replace HBX := Lib.hid (two_on HBX.out hb)
          replace H4 := Lib.hid (H4.out.below hb)
          replace J4 := Lib.hid (J4.out.below hb)
          clear hb H3 J3
          cases hv : Ex.beq x3 y3 with
          | false =>
            have HK : Hid ((Ses.mk x1 x2 x3 x4).beq (Ses.mk y1 y2 y3 y4) = false) := by show _ = _; rw [HQ.out, hv]; simp
            clear hv
            go_wp2_with fail
            go_ret
            exact ⟨by rw [HK.out]; rfl, two_below HBX.out⟩
          | true =>
            rw [hv] at HQ
            clear hv
            have c16 := two_first HBX.out 16
            have u16 := two_next HBX.out 16
            have c17 := two_first HBX.out 17
            have u17 := two_next HBX.out 17
            have c18 := two_first HBX.out 18
            have u18 := two_next HBX.out 18
            have c19 := two_first HBX.out 19
            have u19 := two_next HBX.out 19
            have c20 := two_first HBX.out 20
            have u20 := two_next HBX.out 20
            have c21 := two_first HBX.out 21
            have u21 := two_next HBX.out 21
            go_wp2_with fail
            clear c16 u16 c17 u17 c18 u18 c19 u19 c20 u20 c21 u21
            refine (specExEqual d _ _ x4 y4 _ H4.out J4.out).mono ?_
            rintro e w4 ⟨rfl, hb⟩
            replace HBX := Lib.hid (two_on HBX.out hb)
            clear hb H4 J4
            have HK : Hid ((Ses.mk x1 x2 x3 x4).beq (Ses.mk y1 y2 y3 y4) = Ex.beq x4 y4) := by show _ = _; rw [HQ.out, HK0.out]; simp
            go_wp2_with fail
            go_ret
            exact ⟨by rw [HK.out]; rfl, two_below HBX.out⟩
end Go.Proofs.Ytmmnjdhmankieaa
/-
  Proved: impl.EqualType says whether two trees are equal, and leaves the memory that was there as it was.
-/
namespace Go.Proofs.Ytmmnjdhmankieaa
open Go.RowKit

set_option maxRecDepth 100000 in
set_option maxHeartbeats 2000000 in
theorem implEqual : ∀ (d : Nat) (v1 v2 : Value) (t1 t2 : Ty) (w : World), TyAt w d v1 t1 → TyAt w d v2 t2 →
    Calls Try.prog 122 #[v1, v2] w fun e w' => e = .returned (.bool (t1.beq t2)) ∧ Below w.heap.size w w'
  | 0, _, _, _, _, _, h, _ => h.elim
  | d + 1, v1, v2, .node k1 cs, .node k2 bs, w, h1, h2 => by
    have IH : Hid (∀ (v1 v2 : Value) (t1 t2 : Ty) (w : World), TyAt w d v1 t1 → TyAt w d v2 t2 → Calls Try.prog 122 #[v1, v2] w fun e w' => e = .returned (.bool (t1.beq t2)) ∧ Below w.heap.size w w') := implEqual d
    obtain ⟨s1, rfl, hk0, hk1, a1, cap1, rfl, hcap1, hm1, hat1⟩ := h1
    obtain ⟨s2, rfl, hk2, hk3, a2, cap2, rfl, hcap2, hm2, hat2⟩ := h2
    have HA1 := Lib.hid hat1; clear hat1
    have HA2 := Lib.hid hat2; clear hat2
    by_cases q1 : k1 = k2
    · subst q1
      by_cases q2 : bs.length = cs.length
      · have HFIN : Hid ((Ty.node k1 cs).beq (Ty.node k1 bs) = Ty.beqs cs bs) := by show _ = _; simp [Ty.beq]
        rw [q2]
        go_enter Try.func122, Try.ntmps122
        go_wp2_with fail
        go_loopw [23] (fun i wr => ∃ k : Nat, k ≤ cs.length ∧ i = .int .i64 k ∧ Ty.beqs (cs.take k) (bs.take k) = true ∧ Below (w.heap.size + 2) ((w.alloc (.cells #[.int .i64 k1, .slice a1 cs.length cap1] 42)).alloc (.cells #[.int .i64 k1, .slice a2 cs.length cap2] 42)) wr) (fun i _ => cs.length - (intOf i).toNat)
        case atStart => exact ⟨0, by omega, rfl, by simp [Ty.beqs], Below.refl _ _⟩
        case round =>
          obtain ⟨k, hk, rfl, hf, hb⟩ := hrel
          have HF := Lib.hid hf; clear hf
          have y1 := two_first hb 1
          have y2 := two_next hb 1
          have HB := Lib.hid (two_below hb)
          have HBX := Lib.hid hb; clear hb
          by_cases hlt : k < cs.length
          · have hlt2 : k < bs.length := by omega
            obtain ⟨b1, off1, x0, x1, rfl, hbl1, hc10, hc11, ht1⟩ := HA1.out k hlt
            obtain ⟨b2, off2, z0, z1, rfl, hbl2, hc20, hc21, ht2⟩ := HA2.out k hlt2
            have c10 : wr.cell? ⟨b1, off1 + k * 2, none⟩ = some x0 := by rw [HB.out.cell (p := ⟨b1, off1 + k * 2, none⟩) hbl1]; exact hc10
            have c11 : wr.cell? ⟨b1, off1 + k * 2 + 1, none⟩ = some x1 := by rw [HB.out.cell (p := ⟨b1, off1 + k * 2 + 1, none⟩) hbl1]; exact hc11
            have c20 : wr.cell? ⟨b2, off2 + k * 2, none⟩ = some z0 := by rw [HB.out.cell (p := ⟨b2, off2 + k * 2, none⟩) hbl2]; exact hc20
            have c21 : wr.cell? ⟨b2, off2 + k * 2 + 1, none⟩ = some z1 := by rw [HB.out.cell (p := ⟨b2, off2 + k * 2 + 1, none⟩) hbl2]; exact hc21
            have HT1 := Lib.hid (ht1.below HB.out.drew)
            have HT2 := Lib.hid (ht2.below HB.out.drew)
            clear ht1 ht2 hc10 hc11 hc20 hc21
            go_wp2_with fail
            go_still_tail 10, (by kernel_rfl)
            change wpList _ _ _ _ _ wr.drew
            go_wp2_with fail
            refine (IH.out _ _ _ _ wr.drew HT1.out HT2.out).mono ?_
            rintro e w' ⟨rfl, hb1⟩
            have HN := Lib.hid (two_on HBX.out.drew hb1); clear hb1
            have HTK := Lib.hid (Ty.beqs_take cs bs k hlt hlt2)
            cases hfk : cs[k].beq bs[k] with
            | true =>
              have HFK := Lib.hid hfk; clear hfk
              go_wp2_with fail
              exact ⟨⟨k + 1, by omega, by go_num, by rw [HTK.out, HF.out, HFK.out]; rfl, HN.out⟩, by simp [intOf]; omega⟩
            | false =>
              have HFK := Lib.hid hfk; clear hfk
              go_wp2_with fail
              go_ret
              have e : Ty.beqs cs bs = false := Ty.beqs_false cs bs (k + 1) (by rw [HTK.out, HF.out, HFK.out]; rfl) q2.symm
              exact ⟨by rw [HFIN.out, e]; rfl, two_below HN.out⟩
          · obtain rfl : k = cs.length := by omega
            have e : Hid (Ty.beqs cs bs = true) := by
              have := HF.out
              rw [List.take_length, ← q2, List.take_length] at this; exact this
            go_wp2_with fail
            go_ret
            exact ⟨by rw [HFIN.out, e.out]; rfl, HB.out⟩
      · have HFIN : Hid ((Ty.node k1 cs).beq (Ty.node k1 bs) = false) := by show _ = _; simp [Ty.beq, Ty.beqs_len cs bs (fun e => q2 e.symm)]
        have q3 : ¬ ((cs.length : Int) = (bs.length : Int)) := by omega
        go_enter Try.func122, Try.ntmps122
        go_wp2_with fail
        go_ret
        exact ⟨by rw [HFIN.out]; rfl, ((Below.refl _ _).alloc (Nat.le_refl _) _).alloc (by simp) _⟩
    · have HFIN : Hid ((Ty.node k1 cs).beq (Ty.node k2 bs) = false) := by show _ = _; simp [Ty.beq, q1]
      go_enter Try.func122, Try.ntmps122
      go_wp2_with fail
      go_ret
      exact ⟨by rw [HFIN.out]; rfl, ((Below.refl _ _).alloc (Nat.le_refl _) _).alloc (by simp) _⟩
end Go.Proofs.Ytmmnjdhmankieaa
/-
  Proved: impl.equalRoots compares the roots of two expressions; the memory that was there stays as it was.
-/
namespace Go.Proofs.Ytmmnjdhmankieaa
open Go.RowKit

set_option maxRecDepth 100000 in
set_option maxHeartbeats 2000000 in
theorem implRoots (d : Nat) (v1 v2 : Value) (t1 t2 : Ex) (w : World) (h1 : ExAt w d v1 t1) (h2 : ExAt w d v2 t2) :
    Calls Try.prog 102 #[v1, v2] w fun e w' => e = .returned (.bool (t1.roots t2)) ∧ Below w.heap.size w w' := by
  cases d with
  | zero => exact h1.elim
  | succ d =>
  cases t1 with
  | node k1 nm1 n1 ty1 cs =>
  cases t2 with
  | node k2 nm2 n2 ty2 bs =>
    have HV1 := ex_parts h1
    obtain ⟨c13, c14, sl1, rfl, hk10, hk11, hn10, hn11, hm1, hty1, sa1, sc1, rfl, hcap1, hcp1, hat1⟩ := h1
    obtain ⟨k', nm', n', tk1, ta1, tn1, tc1, sa', sn', sc', hv⟩ := HV1
    injection hv with hv
    injection hv with hv
    simp at hv
    obtain ⟨rfl, rfl, rfl, rfl, rfl, rfl, rfl, rfl⟩ := hv
    have HV2 := ex_parts h2
    obtain ⟨c23, c24, sl2, rfl, hk20, hk21, hn20, hn21, hm2, hty2, sa2, sc2, rfl, hcap2, hcp2, hat2⟩ := h2
    obtain ⟨k', nm', n', tk2, ta2, tn2, tc2, sa', sn', sc', hv⟩ := HV2
    injection hv with hv
    injection hv with hv
    simp at hv
    obtain ⟨rfl, rfl, rfl, rfl, rfl, rfl, rfl, rfl⟩ := hv
    have e2 : Below w.heap.size w ((w.alloc (.cells #[.int .i64 k1, .string nm1, .int .i64 n1, .int .i64 tk1, .slice ta1 tn1 tc1, .slice sa1 cs.length sc1] 45)).alloc (.cells #[.int .i64 k2, .string nm2, .int .i64 n2, .int .i64 tk2, .slice ta2 tn2 tc2, .slice sa2 bs.length sc2] 45)) := ((Below.refl _ _).alloc (Nat.le_refl _) _).alloc (by simp) _
    have HY1 := Lib.hid (hty1.below e2)
    have HY2 := Lib.hid (hty2.below e2)
    have HE := Lib.hid e2
    have HA1 := Lib.hid hat1
    have HA2 := Lib.hid hat2
    clear e2 hty1 hty2 hat1 hat2
    by_cases q1 : k1 = k2
    case neg =>
      have HR : Hid ((Ex.node k1 nm1 n1 ty1 cs).roots (Ex.node k2 nm2 n2 ty2 bs) = false) := by show _ = _; simp [Ex.roots, q1]
      go_enter Try.func102, Try.ntmps102
      go_wp2_with fail
      go_ret
      exact ⟨by rw [HR.out]; rfl, HE.out⟩
    subst q1
    by_cases q2 : nm1 = nm2
    case neg =>
      have q2b : (nm1.toList == nm2.toList) = false := text_ne q2
      have HR : Hid ((Ex.node k1 nm1 n1 ty1 cs).roots (Ex.node k1 nm2 n2 ty2 bs) = false) := by show _ = _; simp [Ex.roots, q2]
      go_enter Try.func102, Try.ntmps102
      go_wp2_with fail
      go_ret
      exact ⟨by rw [HR.out]; rfl, HE.out⟩
    subst q2
    by_cases q3 : n1 = n2
    case neg =>
      have HR : Hid ((Ex.node k1 nm1 n1 ty1 cs).roots (Ex.node k1 nm1 n2 ty2 bs) = false) := by show _ = _; simp [Ex.roots, q3]
      go_enter Try.func102, Try.ntmps102
      go_wp2_with fail
      go_ret
      exact ⟨by rw [HR.out]; rfl, HE.out⟩
    subst q3
    go_enter Try.func102, Try.ntmps102
    go_wp2_with fail
    refine (implEqual d _ _ ty1 ty2 _ HY1.out HY2.out).mono ?_
    rintro e w1 ⟨rfl, hb⟩
    have HB := Lib.hid (two_on (Below.refl _ _) hb); clear hb
    have p5 := two_first HB.out 5
    have r5 := two_next HB.out 5
    cases hq : ty1.beq ty2 with
    | false =>
      have HR : Hid ((Ex.node k1 nm1 n1 ty1 cs).roots (Ex.node k1 nm1 n1 ty2 bs) = false) := by show _ = _; simp [Ex.roots, hq]
      go_wp2_with fail
      go_ret
      exact ⟨by rw [HR.out]; rfl, two_below HB.out⟩
    | true =>
      by_cases q5 : cs.length = bs.length
      · have q5b : ((cs.length : Int) == (bs.length : Int)) = true := by simp [q5]
        have HR : Hid ((Ex.node k1 nm1 n1 ty1 cs).roots (Ex.node k1 nm1 n1 ty2 bs) = true) := by show _ = _; simp [Ex.roots, hq, q5]
        clear q5
        go_wp2_with fail
        go_ret
        exact ⟨by rw [HR.out]; rfl, two_below HB.out⟩
      · have q5b : ((cs.length : Int) == (bs.length : Int)) = false := by simpa using (fun e => q5 (by omega))
        have HR : Hid ((Ex.node k1 nm1 n1 ty1 cs).roots (Ex.node k1 nm1 n1 ty2 bs) = false) := by show _ = _; simp [Ex.roots, q5]
        clear q5
        go_wp2_with fail
        go_ret
        exact ⟨by rw [HR.out]; rfl, two_below HB.out⟩
end Go.Proofs.Ytmmnjdhmankieaa
/-
  Proved: impl.EqualExpr compares two expressions; the memory that was there stays as it was.
-/
namespace Go.Proofs.Ytmmnjdhmankieaa
open Go.RowKit

set_option maxRecDepth 100000 in
set_option maxHeartbeats 4000000 in
theorem implExEqual : ∀ (d : Nat) (v1 v2 : Value) (t1 t2 : Ex) (w : World), ExAt w d v1 t1 → ExAt w d v2 t2 →
    Calls Try.prog 58 #[v1, v2] w fun e w' => e = .returned (.bool (t1.beq t2)) ∧ Below w.heap.size w w'
  | 0, _, _, _, _, _, h, _ => h.elim
  | d + 1, v1, v2, .node k1 nm1 n1 ty1 cs, .node k2 nm2 n2 ty2 bs, w, h1, h2 => by
    have IH : Hid (∀ (v1 v2 : Value) (t1 t2 : Ex) (w : World), ExAt w d v1 t1 → ExAt w d v2 t2 → Calls Try.prog 58 #[v1, v2] w fun e w' => e = .returned (.bool (t1.beq t2)) ∧ Below w.heap.size w w') := implExEqual d
    have HX1 := Lib.hid h1
    have HX2 := Lib.hid h2
    have HV1 := ex_parts h1
    obtain ⟨c13, c14, sl1, rfl, hk10, hk11, hn10, hn11, hm1, hty1, sa1, sc1, rfl, hcap1, hcp1, hat1⟩ := h1
    obtain ⟨k', nm', n', tk1, ta1, tn1, tc1, sa', sn', sc', hv⟩ := HV1
    injection hv with hv
    injection hv with hv
    simp at hv
    obtain ⟨rfl, rfl, rfl, rfl, rfl, rfl, rfl, rfl⟩ := hv
    have HV2 := ex_parts h2
    obtain ⟨c23, c24, sl2, rfl, hk20, hk21, hn20, hn21, hm2, hty2, sa2, sc2, rfl, hcap2, hcp2, hat2⟩ := h2
    obtain ⟨k', nm', n', tk2, ta2, tn2, tc2, sa', sn', sc', hv⟩ := HV2
    injection hv with hv
    injection hv with hv
    simp at hv
    obtain ⟨rfl, rfl, rfl, rfl, rfl, rfl, rfl, rfl⟩ := hv
    have e2 : Below w.heap.size w ((w.alloc (.cells #[.int .i64 k1, .string nm1, .int .i64 n1, .int .i64 tk1, .slice ta1 tn1 tc1, .slice sa1 cs.length sc1] 45)).alloc (.cells #[.int .i64 k2, .string nm2, .int .i64 n2, .int .i64 tk2, .slice ta2 tn2 tc2, .slice sa2 bs.length sc2] 45)) := ((Below.refl _ _).alloc (Nat.le_refl _) _).alloc (by simp) _
    have HY1 := Lib.hid (hty1.below e2)
    have HY2 := Lib.hid (hty2.below e2)
    have HE := Lib.hid e2
    have HA1 := Lib.hid hat1
    have HA2 := Lib.hid hat2
    clear e2 hty1 hty2 hat1 hat2
    have HE1 := Lib.hid (HX1.out.below HE.out)
    have HE2 := Lib.hid (HX2.out.below HE.out)
    clear HX1 HX2 HY1 HY2
    go_enter Try.func58, Try.ntmps58
    go_wp2_with fail
    refine (implRoots (d + 1) _ _ (.node k1 nm1 n1 ty1 cs) (.node k2 nm2 n2 ty2 bs) _ HE1.out HE2.out).mono ?_
    rintro e w1 ⟨rfl, hb⟩
    have HB9 := Lib.hid (two_on (Below.refl _ _) hb); clear hb
    have p5 := two_first HB9.out 5
    have r5 := two_next HB9.out 5
    cases hq : (Ex.node k1 nm1 n1 ty1 cs).roots (Ex.node k2 nm2 n2 ty2 bs) with
    | false =>
      have HR : Hid ((Ex.node k1 nm1 n1 ty1 cs).beq (Ex.node k2 nm2 n2 ty2 bs) = false) := by
        show _ = _
        simp only [Ex.roots] at hq
        simp only [Ex.beq, hq, Bool.false_and]
      go_wp2_with fail
      go_ret
      exact ⟨by rw [HR.out]; rfl, two_below HB9.out⟩
    | true =>
      have HFIN : Hid ((Ex.node k1 nm1 n1 ty1 cs).beq (Ex.node k2 nm2 n2 ty2 bs) = Ex.beqs cs bs) := by
        show _ = _
        simp only [Ex.roots] at hq
        simp only [Ex.beq, hq, Bool.true_and]
      have q5 : Hid (cs.length = bs.length) := by
        simp only [Ex.roots, Bool.and_eq_true, decide_eq_true_eq] at hq
        exact hq.2.2.2.2
      go_wp2_with fail
      go_loopw [13] (fun i wr => ∃ k : Nat, k ≤ cs.length ∧ i = .int .i64 k ∧ Ex.beqs (cs.take k) (bs.take k) = true ∧ Below (w.heap.size + 2) ((w.alloc (.cells #[.int .i64 k1, .string nm1, .int .i64 n1, .int .i64 tk1, .slice ta1 tn1 tc1, .slice sa1 cs.length sc1] 45)).alloc (.cells #[.int .i64 k2, .string nm2, .int .i64 n2, .int .i64 tk2, .slice ta2 tn2 tc2, .slice sa2 bs.length sc2] 45)) wr) (fun i _ => cs.length - (intOf i).toNat)
      case atStart => exact ⟨0, by omega, rfl, by simp [Ex.beqs], HB9.out⟩
      case round =>
          obtain ⟨k, hk, rfl, hf, hb⟩ := hrel
          have HF := Lib.hid hf; clear hf
          have z51 := two_first hb 5
          have z52 := two_next hb 5
          have HB := Lib.hid (two_below hb)
          have HBX := Lib.hid hb; clear hb
          by_cases hlt : k < cs.length
          · have hlt2 : k < bs.length := by have := q5.out; omega
            obtain ⟨b1, off1, x0, x1, x2, x3, x4, x5, rfl, hbl1, hc10, hc11, hc12, hc13, hc14, hc15, ht1⟩ := HA1.out k hlt
            obtain ⟨b2, off2, y0, y1, y2, y3, y4, y5, rfl, hbl2, hc20, hc21, hc22, hc23, hc24, hc25, ht2⟩ := HA2.out k hlt2
            have c10 : wr.cell? ⟨b1, off1 + k * 6, none⟩ = some x0 := by rw [HB.out.cell (p := ⟨b1, off1 + k * 6, none⟩) hbl1]; exact hc10
            have c20 : wr.cell? ⟨b2, off2 + k * 6, none⟩ = some y0 := by rw [HB.out.cell (p := ⟨b2, off2 + k * 6, none⟩) hbl2]; exact hc20
            have c11 : wr.cell? ⟨b1, off1 + k * 6 + 1, none⟩ = some x1 := by rw [HB.out.cell (p := ⟨b1, off1 + k * 6 + 1, none⟩) hbl1]; exact hc11
            have c21 : wr.cell? ⟨b2, off2 + k * 6 + 1, none⟩ = some y1 := by rw [HB.out.cell (p := ⟨b2, off2 + k * 6 + 1, none⟩) hbl2]; exact hc21
            have c12 : wr.cell? ⟨b1, off1 + k * 6 + 2, none⟩ = some x2 := by rw [HB.out.cell (p := ⟨b1, off1 + k * 6 + 2, none⟩) hbl1]; exact hc12
            have c22 : wr.cell? ⟨b2, off2 + k * 6 + 2, none⟩ = some y2 := by rw [HB.out.cell (p := ⟨b2, off2 + k * 6 + 2, none⟩) hbl2]; exact hc22
            have c13 : wr.cell? ⟨b1, off1 + k * 6 + 3, none⟩ = some x3 := by rw [HB.out.cell (p := ⟨b1, off1 + k * 6 + 3, none⟩) hbl1]; exact hc13
            have c23 : wr.cell? ⟨b2, off2 + k * 6 + 3, none⟩ = some y3 := by rw [HB.out.cell (p := ⟨b2, off2 + k * 6 + 3, none⟩) hbl2]; exact hc23
            have c14 : wr.cell? ⟨b1, off1 + k * 6 + 4, none⟩ = some x4 := by rw [HB.out.cell (p := ⟨b1, off1 + k * 6 + 4, none⟩) hbl1]; exact hc14
            have c24 : wr.cell? ⟨b2, off2 + k * 6 + 4, none⟩ = some y4 := by rw [HB.out.cell (p := ⟨b2, off2 + k * 6 + 4, none⟩) hbl2]; exact hc24
            have c15 : wr.cell? ⟨b1, off1 + k * 6 + 5, none⟩ = some x5 := by rw [HB.out.cell (p := ⟨b1, off1 + k * 6 + 5, none⟩) hbl1]; exact hc15
            have c25 : wr.cell? ⟨b2, off2 + k * 6 + 5, none⟩ = some y5 := by rw [HB.out.cell (p := ⟨b2, off2 + k * 6 + 5, none⟩) hbl2]; exact hc25
            have HT1 := Lib.hid (ht1.below HB.out.drew)
            have HT2 := Lib.hid (ht2.below HB.out.drew)
            clear ht1 ht2 hc10 hc11 hc12 hc13 hc14 hc15 hc20 hc21 hc22 hc23 hc24 hc25
            go_wp2_with fail
            go_still_tail 10, (by kernel_rfl)
            change wpList _ _ _ _ _ wr.drew
            go_wp2_with fail
            refine (IH.out _ _ _ _ wr.drew HT1.out HT2.out).mono ?_
            rintro e w' ⟨rfl, hb1⟩
            have HN := Lib.hid (two_on HBX.out.drew hb1); clear hb1
            have HTK := Lib.hid (Ex.beqs_take cs bs k hlt hlt2)
            cases hfk : cs[k].beq bs[k] with
            | true =>
              have HFK := Lib.hid hfk; clear hfk
              go_wp2_with fail
              exact ⟨⟨k + 1, by omega, by go_num, by rw [HTK.out, HF.out, HFK.out]; rfl, HN.out⟩, by simp [intOf]; omega⟩
            | false =>
              have HFK := Lib.hid hfk; clear hfk
              go_wp2_with fail
              go_ret
              have e : Ex.beqs cs bs = false := Ex.beqs_false cs bs (k + 1) (by rw [HTK.out, HF.out, HFK.out]; rfl) q5.out
              exact ⟨by rw [HFIN.out, e]; rfl, two_below HN.out⟩
          · obtain rfl : k = cs.length := by omega
            have e : Hid (Ex.beqs cs bs = true) := by
              have := HF.out
              rw [List.take_length, q5.out, List.take_length] at this; exact this
            go_wp2_with fail
            go_ret
            exact ⟨by rw [HFIN.out, e.out]; rfl, HB.out⟩
end Go.Proofs.Ytmmnjdhmankieaa
/-
  Proved: the library says whether two slices of numbers are equal; it leaves the memory that was there as it was.
-/
namespace Go.Proofs.Ytmmnjdhmankieaa
open Go.RowKit

set_option maxRecDepth 100000 in
set_option maxHeartbeats 1000000 in
/-- The library's comparison of two slices of numbers. -/
theorem libEqualInts (v1 v2 : Value) (ps os : List Int) (hn : ps.length ≤ 1048576) (hm : os.length ≤ 1048576) (w : World) (h1 : Ints w v1 ps) (h2 : Ints w v2 os) :
    Calls Try.prog 121 #[v1, v2] w fun e w' => e = .returned (.bool (decide (ps = os))) ∧ Below w.heap.size w w' := by
  obtain ⟨a1, cap1, rfl, hcap1, hat1⟩ := h1
  obtain ⟨a2, cap2, rfl, hcap2, hat2⟩ := h2
  have HC1 := Lib.hid hat1; clear hat1
  have HC2 := Lib.hid hat2; clear hat2
  by_cases hl : ps.length = os.length
  case neg =>
    have HF : Hid (decide (ps = os) = false) := by show _ = _; rw [decide_eq_false_iff_not]; intro e; exact hl (congrArg List.length e)
    go_enter Try.func121, Try.ntmps121
    have qb : ((ps.length : Int) != (os.length : Int)) = true := by simp; omega
    go_wp2_with fail
    go_ret
    exact ⟨by rw [HF.out]; rfl, Below.refl _ _⟩
  have qb0 : ((ps.length : Int) != (os.length : Int)) = false := by simp; omega
  go_enter Try.func121, Try.ntmps121
  go_wp2_with fail
  go_loopw [13] (fun i wr => ∃ k : Nat, k ≤ os.length ∧ i = .int .i64 k ∧ (∀ j (h1 : j < os.length) (h2 : j < ps.length), j < k → os[j] = ps[j]) ∧ Below w.heap.size w wr) (fun i _ => os.length - (intOf i).toNat)
  case atStart => exact ⟨0, by omega, rfl, fun j h1 h2 h => by omega, Below.refl _ _⟩
  case round =>
    obtain ⟨k, hk, rfl, hs, hb⟩ := hrel
    have HSM := Lib.hid hs; clear hs
    by_cases hlt : k < os.length
    · obtain ⟨b1, off1, rfl, hbl1, hcell1⟩ := HC1.out k (by omega)
      obtain ⟨b2, off2, rfl, hbl2, hcell2⟩ := HC2.out k hlt
      have c1 : wr.cell? ⟨b1, off1 + k, none⟩ = some (.int .i64 (ps[k]'(by omega))) := by rw [hb.cell (p := ⟨b1, off1 + k, none⟩) hbl1]; exact hcell1
      have c2 : wr.cell? ⟨b2, off2 + k, none⟩ = some (.int .i64 os[k]) := by rw [hb.cell (p := ⟨b2, off2 + k, none⟩) hbl2]; exact hcell2
      have HB2 := Lib.hid hb; clear hb hcell1 hcell2
      by_cases q : ps[k]'(by omega) = os[k]
      · have HN : Hid (∀ j (h1 : j < os.length) (h2 : j < ps.length), j < k + 1 → os[j] = ps[j]) := fun j h1 h2 h => by
          by_cases e : j = k
          · subst e; exact q.symm
          · exact HSM.out j h1 h2 (by omega)
        have qb : (ps[k]'(by omega) != os[k]) = false := by simp [q]
        clear q
        go_wp2_with fail
        go_quiet (fail)
        go_wp2_with fail
        exact ⟨⟨k + 1, by omega, by go_num, HN.out, below_drewN HB2.out nq⟩, by simp [intOf]; omega⟩
      · have qb : (ps[k]'(by omega) != os[k]) = true := by simp [q]
        have HF : Hid (decide (ps = os) = false) := by show _ = _; rw [decide_eq_false_iff_not]; rintro rfl; exact q rfl
        clear q
        go_wp2_with fail
        go_quiet (fail)
        go_wp2_with fail
        go_ret
        exact ⟨by rw [HF.out]; rfl, below_drewN HB2.out nq⟩
    · have HF : Hid (decide (ps = os) = true) := by
        show _ = _
        rw [decide_eq_true_eq]
        exact List.ext_getElem hl fun j h1 h2 => (HSM.out j h2 h1 (by omega)).symm
      go_wp2_with fail
      go_ret
      exact ⟨by rw [HF.out]; rfl, hb⟩
end Go.Proofs.Ytmmnjdhmankieaa
/-
  Proved: impl.EqualEdit says whether two values are equal; it leaves the memory that was there as it was.
-/
namespace Go.Proofs.Ytmmnjdhmankieaa
open Go.RowKit

set_option maxRecDepth 100000 in
set_option maxHeartbeats 4000000 in
theorem implEdt (d : Nat) (v1 v2 : Value) (t1 t2 : Edt) (w : World) (h1 : EdtAt w d v1 t1) (h2 : EdtAt w d v2 t2) (hn1 : t1.bulk ≤ 1048576) (hn2 : t2.bulk ≤ 1048576) :
    Calls Try.prog 101 #[v1, v2] w fun e w' => e = .returned (.bool (t1.beq t2)) ∧ Below w.heap.size w w' := by
  cases t1 with
  | mk x1 x2 =>
  cases t2 with
  | mk y1 y2 =>
    obtain ⟨pbk, pbnm, pbm, pbtk, pbta, pbtn, pbtc, pbsa, pbsn, pbsc, pca, pcn, pcc, rfl, ph1, ph2⟩ := h1
    obtain ⟨ubk, ubnm, ubm, ubtk, ubta, ubtn, ubtc, ubsa, ubsn, ubsc, uca, ucn, ucc, rfl, pk1, pk2⟩ := h2
    dsimp only at ph1 ph2 pk1 pk2 ⊢
    have hb1 : (Edt.mk x1 x2).bulk = x1.bulk + x2.length := rfl
    have b11 : x1.bulk ≤ 1048576 := by omega
    have b12 : x2.length ≤ 1048576 := by omega
    have hb2 : (Edt.mk y1 y2).bulk = y1.bulk + y2.length := rfl
    have b21 : y1.bulk ≤ 1048576 := by omega
    have b22 : y2.length ≤ 1048576 := by omega
    have hq : Hid ((Edt.mk x1 x2).beq (Edt.mk y1 y2) = ((Ex.beq x1 y1) && (decide (x2 = y2)))) := rfl
    clear hn1 hn2 hb1 hb2
    have e3 : Below w.heap.size w ((w.alloc (.cells #[.int .i64 pbk, .string pbnm, .int .i64 pbm, .int .i64 pbtk, .slice pbta pbtn pbtc, .slice pbsa pbsn pbsc, .slice pca pcn pcc] 47)).alloc (.cells #[.int .i64 ubk, .string ubnm, .int .i64 ubm, .int .i64 ubtk, .slice ubta ubtn ubtc, .slice ubsa ubsn ubsc, .slice uca ucn ucc] 47)) := ((Below.refl _ _).alloc (Nat.le_refl _) _).alloc (by simp) _
    have H1 := Lib.hid (ph1.below e3)
    have J1 := Lib.hid (pk1.below e3)
    have H2 := Lib.hid (ph2.below e3)
    have J2 := Lib.hid (pk2.below e3)
    clear e3 ph1 pk1 ph2 pk2
    go_enter Try.func101, Try.ntmps101
    go_wp2_with fail
    refine (implExEqual d _ _ x1 y1 _ H1.out J1.out).mono ?_
    rintro e' w1 ⟨rfl, hb⟩
    have HB := Lib.hid (two_on (Below.refl _ _) hb)
    replace H2 := Lib.hid (H2.out.below hb)
    replace J2 := Lib.hid (J2.out.below hb)
    clear hb H1 J1
    cases hv : Ex.beq x1 y1 with
    | false =>
      have HK : Hid ((Edt.mk x1 x2).beq (Edt.mk y1 y2) = false) := by show _ = _; rw [hq.out, hv]; simp
      clear hv
      go_wp2_with fail
      go_ret
      exact ⟨by rw [HK.out]; rfl, two_below HB.out⟩
    | true =>
      rw [hv] at hq
      clear hv
      have c6 := two_first HB.out 6
      have u6 := two_next HB.out 6
      go_wp2_with fail
      clear c6 u6
      refine (libEqualInts _ _ x2 y2 b12 b22 _ H2.out.1 J2.out.1).mono ?_
      rintro e' w2 ⟨rfl, hb⟩
      replace HB := Lib.hid (two_on HB.out hb)
      clear hb H2 J2
      have HK : Hid ((Edt.mk x1 x2).beq (Edt.mk y1 y2) = decide (x2 = y2)) := by show _ = _; rw [hq.out]; simp
      go_wp2_with fail
      go_ret
      exact ⟨by rw [HK.out]; rfl, two_below HB.out⟩
end Go.Proofs.Ytmmnjdhmankieaa
/-
  Proved: the library's EqualFunc says whether two lists of values of the kind Edit are equal; the memory that was there stays as it was.
-/
namespace Go.Proofs.Ytmmnjdhmankieaa
open Go.RowKit

set_option maxRecDepth 100000 in
set_option maxHeartbeats 4000000 in
theorem libEdts (d : Nat) (v1 v2 : Value) (cs bs : List Edt) (w : World) (h1 : EdtsAt w d v1 cs) (h2 : EdtsAt w d v2 bs) (hn1 : Edt.bulks cs ≤ 1048576) (hn2 : Edt.bulks bs ≤ 1048576) :
    Calls Try.prog 100 #[v1, v2, .func (.func 101) #[] #[]] w fun e w' => e = .returned (.bool (Edt.beqs cs bs)) ∧ Below w.heap.size w w' := by
  obtain ⟨a1, cap1, rfl, hcap1, hm1, hat1⟩ := h1
  obtain ⟨a2, cap2, rfl, hcap2, hm2, hat2⟩ := h2
  have HA1 := Lib.hid hat1; clear hat1
  have HA2 := Lib.hid hat2; clear hat2
  by_cases hl : cs.length = bs.length
  case neg =>
    have HF := Lib.hid (Edt.beqs_len cs bs hl)
    have qb : ((cs.length : Int) != (bs.length : Int)) = true := by simp; omega
    go_enter Try.func100, Try.ntmps100
    go_wp2_with fail
    go_ret
    exact ⟨by rw [HF.out]; rfl, Below.refl _ _⟩
  case pos =>
    have qb0 : ((cs.length : Int) != (bs.length : Int)) = false := by simp; omega
    have HL := Lib.hid hl; clear hl
    go_enter Try.func100, Try.ntmps100
    go_wp2_with fail
    clear qb0
    go_loopw [17] (fun i wr => ∃ k : Nat, k ≤ cs.length ∧ i = .int .i64 k ∧ Edt.beqs (cs.take k) (bs.take k) = true ∧ Below w.heap.size w wr) (fun i _ => cs.length - (intOf i).toNat)
    case atStart => exact ⟨0, by omega, rfl, by simp [Edt.beqs], Below.refl _ _⟩
    case round =>
      obtain ⟨k, hk, rfl, hf, hb⟩ := hrel
      have HF := Lib.hid hf; clear hf
      have HB := Lib.hid hb; clear hb
      by_cases hlt : k < cs.length
      · have hlt2 : k < bs.length := by have := HL.out; omega
        obtain ⟨b1, off1, x0, x1, x2, x3, x4, x5, x6, rfl, hbl1, hc10, hc11, hc12, hc13, hc14, hc15, hc16, ht1⟩ := HA1.out k hlt
        obtain ⟨b2, off2, y0, y1, y2, y3, y4, y5, y6, rfl, hbl2, hc20, hc21, hc22, hc23, hc24, hc25, hc26, ht2⟩ := HA2.out k hlt2
        obtain ⟨pbk, pbnm, pbm, pbtk, pbta, pbtn, pbtc, pbsa, pbsn, pbsc, pca, pcn, pcc, hv1⟩ := edt_parts ht1
        obtain ⟨qbk, qbnm, qbm, qbtk, qbta, qbtn, qbtc, qbsa, qbsn, qbsc, qca, qcn, qcc, hv2⟩ := edt_parts ht2
        injection hv1 with hv1
        injection hv1 with hv1
        simp only [List.cons.injEq, and_true] at hv1
        obtain ⟨rfl, rfl, rfl, rfl, rfl, rfl, rfl⟩ := hv1
        injection hv2 with hv2
        injection hv2 with hv2
        simp only [List.cons.injEq, and_true] at hv2
        obtain ⟨rfl, rfl, rfl, rfl, rfl, rfl, rfl⟩ := hv2
        have hg1 : cs[k].bulk ≤ 1048576 := by have := Edt.bulk_get cs k hlt; omega
        have hg2 : bs[k].bulk ≤ 1048576 := by have := Edt.bulk_get bs k hlt2; omega
        have HTK := Lib.hid (Edt.beqs_take cs bs k hlt hlt2)
        have HBAD : Hid (cs[k].beq bs[k] = false → Edt.beqs cs bs = false) := fun h => Edt.beqs_bad hlt hlt2 HL.out h
        have HR1 := Lib.hid ht1
        have HR2 := Lib.hid ht2
        have K10 := Lib.hid hc10
        have K20 := Lib.hid hc20
        have K11 := Lib.hid hc11
        have K21 := Lib.hid hc21
        have K12 := Lib.hid hc12
        have K22 := Lib.hid hc22
        have K13 := Lib.hid hc13
        have K23 := Lib.hid hc23
        have K14 := Lib.hid hc14
        have K24 := Lib.hid hc24
        have K15 := Lib.hid hc15
        have K25 := Lib.hid hc25
        have K16 := Lib.hid hc16
        have K26 := Lib.hid hc26
        clear ht1 ht2 hc10 hc20 hc11 hc21 hc12 hc22 hc13 hc23 hc14 hc24 hc15 hc25 hc16 hc26
        generalize cs[k] = c at HTK HBAD HR1 hg1
        generalize bs[k] = b at HTK HBAD HR2 hg2
        have c10 : wr.cell? ⟨b1, off1 + k * 7, none⟩ = some (.int .i64 pbk) := (HB.out.cell (p := ⟨b1, off1 + k * 7, none⟩) hbl1).trans K10.out
        have c20 : wr.cell? ⟨b2, off2 + k * 7, none⟩ = some (.int .i64 qbk) := (HB.out.cell (p := ⟨b2, off2 + k * 7, none⟩) hbl2).trans K20.out
        have m20 : (wr.alloc (.cells #[.int .i64 pbk, .string pbnm, .int .i64 pbm, .int .i64 pbtk, .slice pbta pbtn pbtc, .slice pbsa pbsn pbsc, .slice pca pcn pcc] 47)).cell? ⟨b2, off2 + k * 7, none⟩ = some (.int .i64 qbk) := ((below_alloc wr _).cell (p := ⟨b2, off2 + k * 7, none⟩) (Nat.lt_of_lt_of_le hbl2 HB.out.size)).trans c20
        have c11 : wr.cell? ⟨b1, off1 + k * 7 + 1, none⟩ = some (.string pbnm) := (HB.out.cell (p := ⟨b1, off1 + k * 7 + 1, none⟩) hbl1).trans K11.out
        have c21 : wr.cell? ⟨b2, off2 + k * 7 + 1, none⟩ = some (.string qbnm) := (HB.out.cell (p := ⟨b2, off2 + k * 7 + 1, none⟩) hbl2).trans K21.out
        have m21 : (wr.alloc (.cells #[.int .i64 pbk, .string pbnm, .int .i64 pbm, .int .i64 pbtk, .slice pbta pbtn pbtc, .slice pbsa pbsn pbsc, .slice pca pcn pcc] 47)).cell? ⟨b2, off2 + k * 7 + 1, none⟩ = some (.string qbnm) := ((below_alloc wr _).cell (p := ⟨b2, off2 + k * 7 + 1, none⟩) (Nat.lt_of_lt_of_le hbl2 HB.out.size)).trans c21
        have c12 : wr.cell? ⟨b1, off1 + k * 7 + 2, none⟩ = some (.int .i64 pbm) := (HB.out.cell (p := ⟨b1, off1 + k * 7 + 2, none⟩) hbl1).trans K12.out
        have c22 : wr.cell? ⟨b2, off2 + k * 7 + 2, none⟩ = some (.int .i64 qbm) := (HB.out.cell (p := ⟨b2, off2 + k * 7 + 2, none⟩) hbl2).trans K22.out
        have m22 : (wr.alloc (.cells #[.int .i64 pbk, .string pbnm, .int .i64 pbm, .int .i64 pbtk, .slice pbta pbtn pbtc, .slice pbsa pbsn pbsc, .slice pca pcn pcc] 47)).cell? ⟨b2, off2 + k * 7 + 2, none⟩ = some (.int .i64 qbm) := ((below_alloc wr _).cell (p := ⟨b2, off2 + k * 7 + 2, none⟩) (Nat.lt_of_lt_of_le hbl2 HB.out.size)).trans c22
        have c13 : wr.cell? ⟨b1, off1 + k * 7 + 3, none⟩ = some (.int .i64 pbtk) := (HB.out.cell (p := ⟨b1, off1 + k * 7 + 3, none⟩) hbl1).trans K13.out
        have c23 : wr.cell? ⟨b2, off2 + k * 7 + 3, none⟩ = some (.int .i64 qbtk) := (HB.out.cell (p := ⟨b2, off2 + k * 7 + 3, none⟩) hbl2).trans K23.out
        have m23 : (wr.alloc (.cells #[.int .i64 pbk, .string pbnm, .int .i64 pbm, .int .i64 pbtk, .slice pbta pbtn pbtc, .slice pbsa pbsn pbsc, .slice pca pcn pcc] 47)).cell? ⟨b2, off2 + k * 7 + 3, none⟩ = some (.int .i64 qbtk) := ((below_alloc wr _).cell (p := ⟨b2, off2 + k * 7 + 3, none⟩) (Nat.lt_of_lt_of_le hbl2 HB.out.size)).trans c23
        have c14 : wr.cell? ⟨b1, off1 + k * 7 + 4, none⟩ = some (.slice pbta pbtn pbtc) := (HB.out.cell (p := ⟨b1, off1 + k * 7 + 4, none⟩) hbl1).trans K14.out
        have c24 : wr.cell? ⟨b2, off2 + k * 7 + 4, none⟩ = some (.slice qbta qbtn qbtc) := (HB.out.cell (p := ⟨b2, off2 + k * 7 + 4, none⟩) hbl2).trans K24.out
        have m24 : (wr.alloc (.cells #[.int .i64 pbk, .string pbnm, .int .i64 pbm, .int .i64 pbtk, .slice pbta pbtn pbtc, .slice pbsa pbsn pbsc, .slice pca pcn pcc] 47)).cell? ⟨b2, off2 + k * 7 + 4, none⟩ = some (.slice qbta qbtn qbtc) := ((below_alloc wr _).cell (p := ⟨b2, off2 + k * 7 + 4, none⟩) (Nat.lt_of_lt_of_le hbl2 HB.out.size)).trans c24
        have c15 : wr.cell? ⟨b1, off1 + k * 7 + 5, none⟩ = some (.slice pbsa pbsn pbsc) := (HB.out.cell (p := ⟨b1, off1 + k * 7 + 5, none⟩) hbl1).trans K15.out
        have c25 : wr.cell? ⟨b2, off2 + k * 7 + 5, none⟩ = some (.slice qbsa qbsn qbsc) := (HB.out.cell (p := ⟨b2, off2 + k * 7 + 5, none⟩) hbl2).trans K25.out
        have m25 : (wr.alloc (.cells #[.int .i64 pbk, .string pbnm, .int .i64 pbm, .int .i64 pbtk, .slice pbta pbtn pbtc, .slice pbsa pbsn pbsc, .slice pca pcn pcc] 47)).cell? ⟨b2, off2 + k * 7 + 5, none⟩ = some (.slice qbsa qbsn qbsc) := ((below_alloc wr _).cell (p := ⟨b2, off2 + k * 7 + 5, none⟩) (Nat.lt_of_lt_of_le hbl2 HB.out.size)).trans c25
        have c16 : wr.cell? ⟨b1, off1 + k * 7 + 6, none⟩ = some (.slice pca pcn pcc) := (HB.out.cell (p := ⟨b1, off1 + k * 7 + 6, none⟩) hbl1).trans K16.out
        have c26 : wr.cell? ⟨b2, off2 + k * 7 + 6, none⟩ = some (.slice qca qcn qcc) := (HB.out.cell (p := ⟨b2, off2 + k * 7 + 6, none⟩) hbl2).trans K26.out
        have m26 : (wr.alloc (.cells #[.int .i64 pbk, .string pbnm, .int .i64 pbm, .int .i64 pbtk, .slice pbta pbtn pbtc, .slice pbsa pbsn pbsc, .slice pca pcn pcc] 47)).cell? ⟨b2, off2 + k * 7 + 6, none⟩ = some (.slice qca qcn qcc) := ((below_alloc wr _).cell (p := ⟨b2, off2 + k * 7 + 6, none⟩) (Nat.lt_of_lt_of_le hbl2 HB.out.size)).trans c26
        have hb2 : Below wr.heap.size wr ((wr.alloc (.cells #[.int .i64 pbk, .string pbnm, .int .i64 pbm, .int .i64 pbtk, .slice pbta pbtn pbtc, .slice pbsa pbsn pbsc, .slice pca pcn pcc] 47)).alloc (.cells #[.int .i64 qbk, .string qbnm, .int .i64 qbm, .int .i64 qbtk, .slice qbta qbtn qbtc, .slice qbsa qbsn qbsc, .slice qca qcn qcc] 47)) := ((Below.refl _ _).alloc (Nat.le_refl _) _).alloc (by simp) _
        have HB2 := Lib.hid (HB.out.trans (hb2.mono HB.out.size))
        replace HR1 := Lib.hid (HR1.out.below HB2.out)
        replace HR2 := Lib.hid (HR2.out.below HB2.out)
        clear hb2
        go_wp2_with fail
        clear c10 c20 m20 c11 c21 m21 c12 c22 m22 c13 c23 m23 c14 c24 m24 c15 c25 m25 c16 c26 m26
        refine (implEdt d _ _ c b _ HR1.out HR2.out hg1 hg2).mono ?_
        rintro e w1 ⟨rfl, hb⟩
        replace HB := Lib.hid (below_thru HB2.out (Nat.le_refl _) hb)
        clear hb HB2
        cases hq : c.beq b with
        | true =>
          have HK : Hid (Edt.beqs (cs.take (k + 1)) (bs.take (k + 1)) = true) := by show _ = _; rw [HTK.out, HF.out, hq]; rfl
          clear hq
          go_wp2_with fail
          exact ⟨⟨k + 1, by omega, by go_num, HK.out, HB.out⟩, by simp [intOf]; omega⟩
        | false =>
          have HK := Lib.hid (HBAD.out hq)
          clear hq
          go_wp2_with fail
          go_ret
          exact ⟨by rw [HK.out]; rfl, HB.out⟩
      · obtain rfl : k = cs.length := by omega
        have HK : Hid (Edt.beqs cs bs = true) := by
          have := HF.out
          rw [List.take_length, HL.out, List.take_length] at this; exact this
        go_wp2_with fail
        go_ret
        exact ⟨by rw [HK.out]; rfl, HB.out⟩
end Go.Proofs.Ytmmnjdhmankieaa
/-
  Proved: impl.EqualHistory says whether two values are equal; it leaves the memory that was there as it was.
-/
namespace Go.Proofs.Ytmmnjdhmankieaa
open Go.RowKit

set_option maxRecDepth 100000 in
set_option maxHeartbeats 4000000 in
theorem implHis (d : Nat) (v1 v2 : Value) (t1 t2 : His) (w : World) (h1 : HisAt w d v1 t1) (h2 : HisAt w d v2 t2) (hn1 : t1.bulk ≤ 1048576) (hn2 : t2.bulk ≤ 1048576) :
    Calls Try.prog 55 #[v1, v2] w fun e w' => e = .returned (.bool (t1.beq t2)) ∧ Below w.heap.size w w' := by
  cases t1 with
  | mk x1 x2 x3 =>
  cases t2 with
  | mk y1 y2 y3 =>
    obtain ⟨pba, pbn, pbc, pcbk, pcbnm, pcbm, pcbtk, pcbta, pcbtn, pcbtc, pcbsa, pcbsn, pcbsc, pcca, pccn, pccc, pda, pdn, pdc, rfl, ph1, ph2, ph3⟩ := h1
    obtain ⟨uba, ubn, ubc, ucbk, ucbnm, ucbm, ucbtk, ucbta, ucbtn, ucbtc, ucbsa, ucbsn, ucbsc, ucca, uccn, uccc, uda, udn, udc, rfl, pk1, pk2, pk3⟩ := h2
    dsimp only at ph1 ph2 ph3 pk1 pk2 pk3 ⊢
    have hb1 : (His.mk x1 x2 x3).bulk = Edt.bulks x1 + x2.bulk + Edt.bulks x3 := rfl
    have b11 : Edt.bulks x1 ≤ 1048576 := by omega
    have b12 : x2.bulk ≤ 1048576 := by omega
    have b13 : Edt.bulks x3 ≤ 1048576 := by omega
    have hb2 : (His.mk y1 y2 y3).bulk = Edt.bulks y1 + y2.bulk + Edt.bulks y3 := rfl
    have b21 : Edt.bulks y1 ≤ 1048576 := by omega
    have b22 : y2.bulk ≤ 1048576 := by omega
    have b23 : Edt.bulks y3 ≤ 1048576 := by omega
    have hq : Hid ((His.mk x1 x2 x3).beq (His.mk y1 y2 y3) = ((Edt.beqs x1 y1) && (Edt.beq x2 y2) && (Edt.beqs x3 y3))) := rfl
    clear hn1 hn2 hb1 hb2
    have e3 : Below w.heap.size w ((w.alloc (.cells #[.slice pba pbn pbc, .int .i64 pcbk, .string pcbnm, .int .i64 pcbm, .int .i64 pcbtk, .slice pcbta pcbtn pcbtc, .slice pcbsa pcbsn pcbsc, .slice pcca pccn pccc, .slice pda pdn pdc] 49)).alloc (.cells #[.slice uba ubn ubc, .int .i64 ucbk, .string ucbnm, .int .i64 ucbm, .int .i64 ucbtk, .slice ucbta ucbtn ucbtc, .slice ucbsa ucbsn ucbsc, .slice ucca uccn uccc, .slice uda udn udc] 49)) := ((Below.refl _ _).alloc (Nat.le_refl _) _).alloc (by simp) _
    have H1 := Lib.hid (ph1.below e3)
    have J1 := Lib.hid (pk1.below e3)
    have H2 := Lib.hid (ph2.below e3)
    have J2 := Lib.hid (pk2.below e3)
    have H3 := Lib.hid (ph3.below e3)
    have J3 := Lib.hid (pk3.below e3)
    clear e3 ph1 pk1 ph2 pk2 ph3 pk3
    go_enter Try.func55, Try.ntmps55
    go_wp2_with fail
    refine (libEdts d _ _ x1 y1 _ H1.out J1.out b11 b21).mono ?_
    rintro e' w1 ⟨rfl, hb⟩
    have HB := Lib.hid (two_on (Below.refl _ _) hb)
    replace H2 := Lib.hid (H2.out.below hb)
    replace J2 := Lib.hid (J2.out.below hb)
    replace H3 := Lib.hid (H3.out.below hb)
    replace J3 := Lib.hid (J3.out.below hb)
    clear hb H1 J1
    cases hv : Edt.beqs x1 y1 with
    | false =>
      have HK : Hid ((His.mk x1 x2 x3).beq (His.mk y1 y2 y3) = false) := by show _ = _; rw [hq.out, hv]; simp
      clear hv
      go_wp2_with fail
      go_ret
      exact ⟨by rw [HK.out]; rfl, two_below HB.out⟩
    | true =>
      rw [hv] at hq
      clear hv
      have c1 := two_first HB.out 1
      have u1 := two_next HB.out 1
      have c2 := two_first HB.out 2
      have u2 := two_next HB.out 2
      have c3 := two_first HB.out 3
      have u3 := two_next HB.out 3
      have c4 := two_first HB.out 4
      have u4 := two_next HB.out 4
      have c5 := two_first HB.out 5
      have u5 := two_next HB.out 5
      have c6 := two_first HB.out 6
      have u6 := two_next HB.out 6
      have c7 := two_first HB.out 7
      have u7 := two_next HB.out 7
      go_wp2_with fail
      clear c1 u1 c2 u2 c3 u3 c4 u4 c5 u5 c6 u6 c7 u7
      refine (implEdt d _ _ x2 y2 _ H2.out J2.out b12 b22).mono ?_
      rintro e' w2 ⟨rfl, hb⟩
      replace HB := Lib.hid (two_on HB.out hb)
      replace H3 := Lib.hid (H3.out.below hb)
      replace J3 := Lib.hid (J3.out.below hb)
      clear hb H2 J2
      cases hv : Edt.beq x2 y2 with
      | false =>
        have HK : Hid ((His.mk x1 x2 x3).beq (His.mk y1 y2 y3) = false) := by show _ = _; rw [hq.out, hv]; simp
        clear hv
        go_wp2_with fail
        go_ret
        exact ⟨by rw [HK.out]; rfl, two_below HB.out⟩
      | true =>
        rw [hv] at hq
        clear hv
        have c8 := two_first HB.out 8
        have u8 := two_next HB.out 8
        go_wp2_with fail
        clear c8 u8
        refine (libEdts d _ _ x3 y3 _ H3.out J3.out b13 b23).mono ?_
        rintro e' w3 ⟨rfl, hb⟩
        replace HB := Lib.hid (two_on HB.out hb)
        clear hb H3 J3
        have HK : Hid ((His.mk x1 x2 x3).beq (His.mk y1 y2 y3) = Edt.beqs x3 y3) := by show _ = _; rw [hq.out]; simp
        go_wp2_with fail
        go_ret
        exact ⟨by rw [HK.out]; rfl, two_below HB.out⟩
end Go.Proofs.Ytmmnjdhmankieaa
/-
  Proved: impl.equalTest says whether two values are equal; it leaves the memory that was there as it was.
-/
namespace Go.Proofs.Ytmmnjdhmankieaa
open Go.RowKit

set_option maxRecDepth 100000 in
set_option maxHeartbeats 4000000 in
theorem implTst (d : Nat) (v1 v2 : Value) (t1 t2 : Tst) (w : World) (h1 : TstAt w d v1 t1) (h2 : TstAt w d v2 t2) (hn1 : t1.bulk ≤ 1048576) (hn2 : t2.bulk ≤ 1048576) :
    Calls Try.prog 57 #[v1, v2] w fun e w' => e = .returned (.bool (t1.beq t2)) ∧ Below w.heap.size w w' := by
  cases t1 with
  | mk x1 x2 =>
  cases t2 with
  | mk y1 y2 =>
    obtain ⟨pbk, pbnm, pbm, pbtk, pbta, pbtn, pbtc, pbsa, pbsn, pbsc, pck, pcnm, pcm, pctk, pcta, pctn, pctc, pcsa, pcsn, pcsc, rfl, ph1, ph2⟩ := h1
    obtain ⟨ubk, ubnm, ubm, ubtk, ubta, ubtn, ubtc, ubsa, ubsn, ubsc, uck, ucnm, ucm, uctk, ucta, uctn, uctc, ucsa, ucsn, ucsc, rfl, pk1, pk2⟩ := h2
    dsimp only at ph1 ph2 pk1 pk2 ⊢
    have hb1 : (Tst.mk x1 x2).bulk = x1.bulk + x2.bulk := rfl
    have b11 : x1.bulk ≤ 1048576 := by omega
    have b12 : x2.bulk ≤ 1048576 := by omega
    have hb2 : (Tst.mk y1 y2).bulk = y1.bulk + y2.bulk := rfl
    have b21 : y1.bulk ≤ 1048576 := by omega
    have b22 : y2.bulk ≤ 1048576 := by omega
    have hq : Hid ((Tst.mk x1 x2).beq (Tst.mk y1 y2) = ((Ex.beq x1 y1) && (Ex.beq x2 y2))) := rfl
    clear hn1 hn2 hb1 hb2
    have e3 : Below w.heap.size w ((w.alloc (.cells #[.int .i64 pbk, .string pbnm, .int .i64 pbm, .int .i64 pbtk, .slice pbta pbtn pbtc, .slice pbsa pbsn pbsc, .int .i64 pck, .string pcnm, .int .i64 pcm, .int .i64 pctk, .slice pcta pctn pctc, .slice pcsa pcsn pcsc] 85)).alloc (.cells #[.int .i64 ubk, .string ubnm, .int .i64 ubm, .int .i64 ubtk, .slice ubta ubtn ubtc, .slice ubsa ubsn ubsc, .int .i64 uck, .string ucnm, .int .i64 ucm, .int .i64 uctk, .slice ucta uctn uctc, .slice ucsa ucsn ucsc] 85)) := ((Below.refl _ _).alloc (Nat.le_refl _) _).alloc (by simp) _
    have H1 := Lib.hid (ph1.below e3)
    have J1 := Lib.hid (pk1.below e3)
    have H2 := Lib.hid (ph2.below e3)
    have J2 := Lib.hid (pk2.below e3)
    clear e3 ph1 pk1 ph2 pk2
    go_enter Try.func57, Try.ntmps57
    go_wp2_with fail
    refine (implExEqual d _ _ x1 y1 _ H1.out J1.out).mono ?_
    rintro e' w1 ⟨rfl, hb⟩
    have HB := Lib.hid (two_on (Below.refl _ _) hb)
    replace H2 := Lib.hid (H2.out.below hb)
    replace J2 := Lib.hid (J2.out.below hb)
    clear hb H1 J1
    cases hv : Ex.beq x1 y1 with
    | false =>
      have HK : Hid ((Tst.mk x1 x2).beq (Tst.mk y1 y2) = false) := by show _ = _; rw [hq.out, hv]; simp
      clear hv
      go_wp2_with fail
      go_ret
      exact ⟨by rw [HK.out]; rfl, two_below HB.out⟩
    | true =>
      rw [hv] at hq
      clear hv
      have c6 := two_first HB.out 6
      have u6 := two_next HB.out 6
      have c7 := two_first HB.out 7
      have u7 := two_next HB.out 7
      have c8 := two_first HB.out 8
      have u8 := two_next HB.out 8
      have c9 := two_first HB.out 9
      have u9 := two_next HB.out 9
      have c10 := two_first HB.out 10
      have u10 := two_next HB.out 10
      have c11 := two_first HB.out 11
      have u11 := two_next HB.out 11
      go_wp2_with fail
      clear c6 u6 c7 u7 c8 u8 c9 u9 c10 u10 c11 u11
      refine (implExEqual d _ _ x2 y2 _ H2.out J2.out).mono ?_
      rintro e' w2 ⟨rfl, hb⟩
      replace HB := Lib.hid (two_on HB.out hb)
      clear hb H2 J2
      have HK : Hid ((Tst.mk x1 x2).beq (Tst.mk y1 y2) = Ex.beq x2 y2) := by show _ = _; rw [hq.out]; simp
      go_wp2_with fail
      go_ret
      exact ⟨by rw [HK.out]; rfl, two_below HB.out⟩
end Go.Proofs.Ytmmnjdhmankieaa
/-
  Proved: the library's EqualFunc says whether two lists of values of the kind Test are equal; the memory that was there stays as it was.
-/
namespace Go.Proofs.Ytmmnjdhmankieaa
open Go.RowKit

set_option maxRecDepth 100000 in
set_option maxHeartbeats 4000000 in
theorem libTsts (d : Nat) (v1 v2 : Value) (cs bs : List Tst) (w : World) (h1 : TstsAt w d v1 cs) (h2 : TstsAt w d v2 bs) (hn1 : Tst.bulks cs ≤ 1048576) (hn2 : Tst.bulks bs ≤ 1048576) :
    Calls Try.prog 56 #[v1, v2, .func (.func 57) #[] #[]] w fun e w' => e = .returned (.bool (Tst.beqs cs bs)) ∧ Below w.heap.size w w' := by
  obtain ⟨a1, cap1, rfl, hcap1, hm1, hat1⟩ := h1
  obtain ⟨a2, cap2, rfl, hcap2, hm2, hat2⟩ := h2
  have HA1 := Lib.hid hat1; clear hat1
  have HA2 := Lib.hid hat2; clear hat2
  by_cases hl : cs.length = bs.length
  case neg =>
    have HF := Lib.hid (Tst.beqs_len cs bs hl)
    have qb : ((cs.length : Int) != (bs.length : Int)) = true := by simp; omega
    go_enter Try.func56, Try.ntmps56
    go_wp2_with fail
    go_ret
    exact ⟨by rw [HF.out]; rfl, Below.refl _ _⟩
  case pos =>
    have qb0 : ((cs.length : Int) != (bs.length : Int)) = false := by simp; omega
    have HL := Lib.hid hl; clear hl
    go_enter Try.func56, Try.ntmps56
    go_wp2_with fail
    clear qb0
    go_loopw [17] (fun i wr => ∃ k : Nat, k ≤ cs.length ∧ i = .int .i64 k ∧ Tst.beqs (cs.take k) (bs.take k) = true ∧ Below w.heap.size w wr) (fun i _ => cs.length - (intOf i).toNat)
    case atStart => exact ⟨0, by omega, rfl, by simp [Tst.beqs], Below.refl _ _⟩
    case round =>
      obtain ⟨k, hk, rfl, hf, hb⟩ := hrel
      have HF := Lib.hid hf; clear hf
      have HB := Lib.hid hb; clear hb
      by_cases hlt : k < cs.length
      · have hlt2 : k < bs.length := by have := HL.out; omega
        obtain ⟨b1, off1, x0, x1, x2, x3, x4, x5, x6, x7, x8, x9, x10, x11, rfl, hbl1, hc10, hc11, hc12, hc13, hc14, hc15, hc16, hc17, hc18, hc19, hc110, hc111, ht1⟩ := HA1.out k hlt
        obtain ⟨b2, off2, y0, y1, y2, y3, y4, y5, y6, y7, y8, y9, y10, y11, rfl, hbl2, hc20, hc21, hc22, hc23, hc24, hc25, hc26, hc27, hc28, hc29, hc210, hc211, ht2⟩ := HA2.out k hlt2
        obtain ⟨pbk, pbnm, pbm, pbtk, pbta, pbtn, pbtc, pbsa, pbsn, pbsc, pck, pcnm, pcm, pctk, pcta, pctn, pctc, pcsa, pcsn, pcsc, hv1⟩ := tst_parts ht1
        obtain ⟨qbk, qbnm, qbm, qbtk, qbta, qbtn, qbtc, qbsa, qbsn, qbsc, qck, qcnm, qcm, qctk, qcta, qctn, qctc, qcsa, qcsn, qcsc, hv2⟩ := tst_parts ht2
        injection hv1 with hv1
        injection hv1 with hv1
        simp only [List.cons.injEq, and_true] at hv1
        obtain ⟨rfl, rfl, rfl, rfl, rfl, rfl, rfl, rfl, rfl, rfl, rfl, rfl⟩ := hv1
        injection hv2 with hv2
        injection hv2 with hv2
        simp only [List.cons.injEq, and_true] at hv2
        obtain ⟨rfl, rfl, rfl, rfl, rfl, rfl, rfl, rfl, rfl, rfl, rfl, rfl⟩ := hv2
        have hg1 : cs[k].bulk ≤ 1048576 := by have := Tst.bulk_get cs k hlt; omega
        have hg2 : bs[k].bulk ≤ 1048576 := by have := Tst.bulk_get bs k hlt2; omega
        have HTK := Lib.hid (Tst.beqs_take cs bs k hlt hlt2)
        have HBAD : Hid (cs[k].beq bs[k] = false → Tst.beqs cs bs = false) := fun h => Tst.beqs_bad hlt hlt2 HL.out h
        have HR1 := Lib.hid ht1
        have HR2 := Lib.hid ht2
        have K10 := Lib.hid hc10
        have K20 := Lib.hid hc20
        have K11 := Lib.hid hc11
        have K21 := Lib.hid hc21
        have K12 := Lib.hid hc12
        have K22 := Lib.hid hc22
        have K13 := Lib.hid hc13
        have K23 := Lib.hid hc23
        have K14 := Lib.hid hc14
        have K24 := Lib.hid hc24
        have K15 := Lib.hid hc15
        have K25 := Lib.hid hc25
        have K16 := Lib.hid hc16
        have K26 := Lib.hid hc26
        have K17 := Lib.hid hc17
        have K27 := Lib.hid hc27
        have K18 := Lib.hid hc18
        have K28 := Lib.hid hc28
        have K19 := Lib.hid hc19
        have K29 := Lib.hid hc29
        have K110 := Lib.hid hc110
        have K210 := Lib.hid hc210
        have K111 := Lib.hid hc111
        have K211 := Lib.hid hc211
        clear ht1 ht2 hc10 hc20 hc11 hc21 hc12 hc22 hc13 hc23 hc14 hc24 hc15 hc25 hc16 hc26 hc17 hc27 hc18 hc28 hc19 hc29 hc110 hc210 hc111 hc211
        generalize cs[k] = c at HTK HBAD HR1 hg1
        generalize bs[k] = b at HTK HBAD HR2 hg2
        have c10 : wr.cell? ⟨b1, off1 + k * 12, none⟩ = some (.int .i64 pbk) := (HB.out.cell (p := ⟨b1, off1 + k * 12, none⟩) hbl1).trans K10.out
        have c20 : wr.cell? ⟨b2, off2 + k * 12, none⟩ = some (.int .i64 qbk) := (HB.out.cell (p := ⟨b2, off2 + k * 12, none⟩) hbl2).trans K20.out
        have m20 : (wr.alloc (.cells #[.int .i64 pbk, .string pbnm, .int .i64 pbm, .int .i64 pbtk, .slice pbta pbtn pbtc, .slice pbsa pbsn pbsc, .int .i64 pck, .string pcnm, .int .i64 pcm, .int .i64 pctk, .slice pcta pctn pctc, .slice pcsa pcsn pcsc] 85)).cell? ⟨b2, off2 + k * 12, none⟩ = some (.int .i64 qbk) := ((below_alloc wr _).cell (p := ⟨b2, off2 + k * 12, none⟩) (Nat.lt_of_lt_of_le hbl2 HB.out.size)).trans c20
        have c11 : wr.cell? ⟨b1, off1 + k * 12 + 1, none⟩ = some (.string pbnm) := (HB.out.cell (p := ⟨b1, off1 + k * 12 + 1, none⟩) hbl1).trans K11.out
        have c21 : wr.cell? ⟨b2, off2 + k * 12 + 1, none⟩ = some (.string qbnm) := (HB.out.cell (p := ⟨b2, off2 + k * 12 + 1, none⟩) hbl2).trans K21.out
        have m21 : (wr.alloc (.cells #[.int .i64 pbk, .string pbnm, .int .i64 pbm, .int .i64 pbtk, .slice pbta pbtn pbtc, .slice pbsa pbsn pbsc, .int .i64 pck, .string pcnm, .int .i64 pcm, .int .i64 pctk, .slice pcta pctn pctc, .slice pcsa pcsn pcsc] 85)).cell? ⟨b2, off2 + k * 12 + 1, none⟩ = some (.string qbnm) := ((below_alloc wr _).cell (p := ⟨b2, off2 + k * 12 + 1, none⟩) (Nat.lt_of_lt_of_le hbl2 HB.out.size)).trans c21
        have c12 : wr.cell? ⟨b1, off1 + k * 12 + 2, none⟩ = some (.int .i64 pbm) := (HB.out.cell (p := ⟨b1, off1 + k * 12 + 2, none⟩) hbl1).trans K12.out
        have c22 : wr.cell? ⟨b2, off2 + k * 12 + 2, none⟩ = some (.int .i64 qbm) := (HB.out.cell (p := ⟨b2, off2 + k * 12 + 2, none⟩) hbl2).trans K22.out
        have m22 : (wr.alloc (.cells #[.int .i64 pbk, .string pbnm, .int .i64 pbm, .int .i64 pbtk, .slice pbta pbtn pbtc, .slice pbsa pbsn pbsc, .int .i64 pck, .string pcnm, .int .i64 pcm, .int .i64 pctk, .slice pcta pctn pctc, .slice pcsa pcsn pcsc] 85)).cell? ⟨b2, off2 + k * 12 + 2, none⟩ = some (.int .i64 qbm) := ((below_alloc wr _).cell (p := ⟨b2, off2 + k * 12 + 2, none⟩) (Nat.lt_of_lt_of_le hbl2 HB.out.size)).trans c22
        have c13 : wr.cell? ⟨b1, off1 + k * 12 + 3, none⟩ = some (.int .i64 pbtk) := (HB.out.cell (p := ⟨b1, off1 + k * 12 + 3, none⟩) hbl1).trans K13.out
        have c23 : wr.cell? ⟨b2, off2 + k * 12 + 3, none⟩ = some (.int .i64 qbtk) := (HB.out.cell (p := ⟨b2, off2 + k * 12 + 3, none⟩) hbl2).trans K23.out
        have m23 : (wr.alloc (.cells #[.int .i64 pbk, .string pbnm, .int .i64 pbm, .int .i64 pbtk, .slice pbta pbtn pbtc, .slice pbsa pbsn pbsc, .int .i64 pck, .string pcnm, .int .i64 pcm, .int .i64 pctk, .slice pcta pctn pctc, .slice pcsa pcsn pcsc] 85)).cell? ⟨b2, off2 + k * 12 + 3, none⟩ = some (.int .i64 qbtk) := ((below_alloc wr _).cell (p := ⟨b2, off2 + k * 12 + 3, none⟩) (Nat.lt_of_lt_of_le hbl2 HB.out.size)).trans c23
        have c14 : wr.cell? ⟨b1, off1 + k * 12 + 4, none⟩ = some (.slice pbta pbtn pbtc) := (HB.out.cell (p := ⟨b1, off1 + k * 12 + 4, none⟩) hbl1).trans K14.out
        have c24 : wr.cell? ⟨b2, off2 + k * 12 + 4, none⟩ = some (.slice qbta qbtn qbtc) := (HB.out.cell (p := ⟨b2, off2 + k * 12 + 4, none⟩) hbl2).trans K24.out
        have m24 : (wr.alloc (.cells #[.int .i64 pbk, .string pbnm, .int .i64 pbm, .int .i64 pbtk, .slice pbta pbtn pbtc, .slice pbsa pbsn pbsc, .int .i64 pck, .string pcnm, .int .i64 pcm, .int .i64 pctk, .slice pcta pctn pctc, .slice pcsa pcsn pcsc] 85)).cell? ⟨b2, off2 + k * 12 + 4, none⟩ = some (.slice qbta qbtn qbtc) := ((below_alloc wr _).cell (p := ⟨b2, off2 + k * 12 + 4, none⟩) (Nat.lt_of_lt_of_le hbl2 HB.out.size)).trans c24
        have c15 : wr.cell? ⟨b1, off1 + k * 12 + 5, none⟩ = some (.slice pbsa pbsn pbsc) := (HB.out.cell (p := ⟨b1, off1 + k * 12 + 5, none⟩) hbl1).trans K15.out
        have c25 : wr.cell? ⟨b2, off2 + k * 12 + 5, none⟩ = some (.slice qbsa qbsn qbsc) := (HB.out.cell (p := ⟨b2, off2 + k * 12 + 5, none⟩) hbl2).trans K25.out
        have m25 : (wr.alloc (.cells #[.int .i64 pbk, .string pbnm, .int .i64 pbm, .int .i64 pbtk, .slice pbta pbtn pbtc, .slice pbsa pbsn pbsc, .int .i64 pck, .string pcnm, .int .i64 pcm, .int .i64 pctk, .slice pcta pctn pctc, .slice pcsa pcsn pcsc] 85)).cell? ⟨b2, off2 + k * 12 + 5, none⟩ = some (.slice qbsa qbsn qbsc) := ((below_alloc wr _).cell (p := ⟨b2, off2 + k * 12 + 5, none⟩) (Nat.lt_of_lt_of_le hbl2 HB.out.size)).trans c25
        have c16 : wr.cell? ⟨b1, off1 + k * 12 + 6, none⟩ = some (.int .i64 pck) := (HB.out.cell (p := ⟨b1, off1 + k * 12 + 6, none⟩) hbl1).trans K16.out
        have c26 : wr.cell? ⟨b2, off2 + k * 12 + 6, none⟩ = some (.int .i64 qck) := (HB.out.cell (p := ⟨b2, off2 + k * 12 + 6, none⟩) hbl2).trans K26.out
        have m26 : (wr.alloc (.cells #[.int .i64 pbk, .string pbnm, .int .i64 pbm, .int .i64 pbtk, .slice pbta pbtn pbtc, .slice pbsa pbsn pbsc, .int .i64 pck, .string pcnm, .int .i64 pcm, .int .i64 pctk, .slice pcta pctn pctc, .slice pcsa pcsn pcsc] 85)).cell? ⟨b2, off2 + k * 12 + 6, none⟩ = some (.int .i64 qck) := ((below_alloc wr _).cell (p := ⟨b2, off2 + k * 12 + 6, none⟩) (Nat.lt_of_lt_of_le hbl2 HB.out.size)).trans c26
        have c17 : wr.cell? ⟨b1, off1 + k * 12 + 7, none⟩ = some (.string pcnm) := (HB.out.cell (p := ⟨b1, off1 + k * 12 + 7, none⟩) hbl1).trans K17.out
        have c27 : wr.cell? ⟨b2, off2 + k * 12 + 7, none⟩ = some (.string qcnm) := (HB.out.cell (p := ⟨b2, off2 + k * 12 + 7, none⟩) hbl2).trans K27.out
        have m27 : (wr.alloc (.cells #[.int .i64 pbk, .string pbnm, .int .i64 pbm, .int .i64 pbtk, .slice pbta pbtn pbtc, .slice pbsa pbsn pbsc, .int .i64 pck, .string pcnm, .int .i64 pcm, .int .i64 pctk, .slice pcta pctn pctc, .slice pcsa pcsn pcsc] 85)).cell? ⟨b2, off2 + k * 12 + 7, none⟩ = some (.string qcnm) := ((below_alloc wr _).cell (p := ⟨b2, off2 + k * 12 + 7, none⟩) (Nat.lt_of_lt_of_le hbl2 HB.out.size)).trans c27
        have c18 : wr.cell? ⟨b1, off1 + k * 12 + 8, none⟩ = some (.int .i64 pcm) := (HB.out.cell (p := ⟨b1, off1 + k * 12 + 8, none⟩) hbl1).trans K18.out
        have c28 : wr.cell? ⟨b2, off2 + k * 12 + 8, none⟩ = some (.int .i64 qcm) := (HB.out.cell (p := ⟨b2, off2 + k * 12 + 8, none⟩) hbl2).trans K28.out
        have m28 : (wr.alloc (.cells #[.int .i64 pbk, .string pbnm, .int .i64 pbm, .int .i64 pbtk, .slice pbta pbtn pbtc, .slice pbsa pbsn pbsc, .int .i64 pck, .string pcnm, .int .i64 pcm, .int .i64 pctk, .slice pcta pctn pctc, .slice pcsa pcsn pcsc] 85)).cell? ⟨b2, off2 + k * 12 + 8, none⟩ = some (.int .i64 qcm) := ((below_alloc wr _).cell (p := ⟨b2, off2 + k * 12 + 8, none⟩) (Nat.lt_of_lt_of_le hbl2 HB.out.size)).trans c28
        have c19 : wr.cell? ⟨b1, off1 + k * 12 + 9, none⟩ = some (.int .i64 pctk) := (HB.out.cell (p := ⟨b1, off1 + k * 12 + 9, none⟩) hbl1).trans K19.out
        have c29 : wr.cell? ⟨b2, off2 + k * 12 + 9, none⟩ = some (.int .i64 qctk) := (HB.out.cell (p := ⟨b2, off2 + k * 12 + 9, none⟩) hbl2).trans K29.out
        have m29 : (wr.alloc (.cells #[.int .i64 pbk, .string pbnm, .int .i64 pbm, .int .i64 pbtk, .slice pbta pbtn pbtc, .slice pbsa pbsn pbsc, .int .i64 pck, .string pcnm, .int .i64 pcm, .int .i64 pctk, .slice pcta pctn pctc, .slice pcsa pcsn pcsc] 85)).cell? ⟨b2, off2 + k * 12 + 9, none⟩ = some (.int .i64 qctk) := ((below_alloc wr _).cell (p := ⟨b2, off2 + k * 12 + 9, none⟩) (Nat.lt_of_lt_of_le hbl2 HB.out.size)).trans c29
        have c110 : wr.cell? ⟨b1, off1 + k * 12 + 10, none⟩ = some (.slice pcta pctn pctc) := (HB.out.cell (p := ⟨b1, off1 + k * 12 + 10, none⟩) hbl1).trans K110.out
        have c210 : wr.cell? ⟨b2, off2 + k * 12 + 10, none⟩ = some (.slice qcta qctn qctc) := (HB.out.cell (p := ⟨b2, off2 + k * 12 + 10, none⟩) hbl2).trans K210.out
        have m210 : (wr.alloc (.cells #[.int .i64 pbk, .string pbnm, .int .i64 pbm, .int .i64 pbtk, .slice pbta pbtn pbtc, .slice pbsa pbsn pbsc, .int .i64 pck, .string pcnm, .int .i64 pcm, .int .i64 pctk, .slice pcta pctn pctc, .slice pcsa pcsn pcsc] 85)).cell? ⟨b2, off2 + k * 12 + 10, none⟩ = some (.slice qcta qctn qctc) := ((below_alloc wr _).cell (p := ⟨b2, off2 + k * 12 + 10, none⟩) (Nat.lt_of_lt_of_le hbl2 HB.out.size)).trans c210
        have c111 : wr.cell? ⟨b1, off1 + k * 12 + 11, none⟩ = some (.slice pcsa pcsn pcsc) := (HB.out.cell (p := ⟨b1, off1 + k * 12 + 11, none⟩) hbl1).trans K111.out
        have c211 : wr.cell? ⟨b2, off2 + k * 12 + 11, none⟩ = some (.slice qcsa qcsn qcsc) := (HB.out.cell (p := ⟨b2, off2 + k * 12 + 11, none⟩) hbl2).trans K211.out
        have m211 : (wr.alloc (.cells #[.int .i64 pbk, .string pbnm, .int .i64 pbm, .int .i64 pbtk, .slice pbta pbtn pbtc, .slice pbsa pbsn pbsc, .int .i64 pck, .string pcnm, .int .i64 pcm, .int .i64 pctk, .slice pcta pctn pctc, .slice pcsa pcsn pcsc] 85)).cell? ⟨b2, off2 + k * 12 + 11, none⟩ = some (.slice qcsa qcsn qcsc) := ((below_alloc wr _).cell (p := ⟨b2, off2 + k * 12 + 11, none⟩) (Nat.lt_of_lt_of_le hbl2 HB.out.size)).trans c211
        have hb2 : Below wr.heap.size wr ((wr.alloc (.cells #[.int .i64 pbk, .string pbnm, .int .i64 pbm, .int .i64 pbtk, .slice pbta pbtn pbtc, .slice pbsa pbsn pbsc, .int .i64 pck, .string pcnm, .int .i64 pcm, .int .i64 pctk, .slice pcta pctn pctc, .slice pcsa pcsn pcsc] 85)).alloc (.cells #[.int .i64 qbk, .string qbnm, .int .i64 qbm, .int .i64 qbtk, .slice qbta qbtn qbtc, .slice qbsa qbsn qbsc, .int .i64 qck, .string qcnm, .int .i64 qcm, .int .i64 qctk, .slice qcta qctn qctc, .slice qcsa qcsn qcsc] 85)) := ((Below.refl _ _).alloc (Nat.le_refl _) _).alloc (by simp) _
        have HB2 := Lib.hid (HB.out.trans (hb2.mono HB.out.size))
        replace HR1 := Lib.hid (HR1.out.below HB2.out)
        replace HR2 := Lib.hid (HR2.out.below HB2.out)
        clear hb2
        go_wp2_with fail
        clear c10 c20 m20 c11 c21 m21 c12 c22 m22 c13 c23 m23 c14 c24 m24 c15 c25 m25 c16 c26 m26 c17 c27 m27 c18 c28 m28 c19 c29 m29 c110 c210 m210 c111 c211 m211
        refine (implTst d _ _ c b _ HR1.out HR2.out hg1 hg2).mono ?_
        rintro e w1 ⟨rfl, hb⟩
        replace HB := Lib.hid (below_thru HB2.out (Nat.le_refl _) hb)
        clear hb HB2
        cases hq : c.beq b with
        | true =>
          have HK : Hid (Tst.beqs (cs.take (k + 1)) (bs.take (k + 1)) = true) := by show _ = _; rw [HTK.out, HF.out, hq]; rfl
          clear hq
          go_wp2_with fail
          exact ⟨⟨k + 1, by omega, by go_num, HK.out, HB.out⟩, by simp [intOf]; omega⟩
        | false =>
          have HK := Lib.hid (HBAD.out hq)
          clear hq
          go_wp2_with fail
          go_ret
          exact ⟨by rw [HK.out]; rfl, HB.out⟩
      · obtain rfl : k = cs.length := by omega
        have HK : Hid (Tst.beqs cs bs = true) := by
          have := HF.out
          rw [List.take_length, HL.out, List.take_length] at this; exact this
        go_wp2_with fail
        go_ret
        exact ⟨by rw [HK.out]; rfl, HB.out⟩
end Go.Proofs.Ytmmnjdhmankieaa
/-
  Proved: impl.EqualSession says whether two values are equal; it leaves the memory that was there as it was.
-/
namespace Go.Proofs.Ytmmnjdhmankieaa
open Go.RowKit

set_option maxRecDepth 100000 in
set_option maxHeartbeats 4000000 in
theorem implSes (d : Nat) (v1 v2 : Value) (t1 t2 : Ses) (w : World) (h1 : SesAt w d v1 t1) (h2 : SesAt w d v2 t2) (hn1 : t1.bulk ≤ 1048576) (hn2 : t2.bulk ≤ 1048576) :
    Calls Try.prog 14 #[v1, v2] w fun e w' => e = .returned (.bool (t1.beq t2)) ∧ Below w.heap.size w w' := by
  cases t1 with
  | mk x1 x2 x3 x4 =>
  cases t2 with
  | mk y1 y2 y3 y4 =>
    obtain ⟨pbba, pbbn, pbbc, pbcbk, pbcbnm, pbcbm, pbcbtk, pbcbta, pbcbtn, pbcbtc, pbcbsa, pbcbsn, pbcbsc, pbcca, pbccn, pbccc, pbda, pbdn, pbdc, pca, pcn, pcc, pdk, pdnm, pdm, pdtk, pdta, pdtn, pdtc, pdsa, pdsn, pdsc, pek, penm, pem, petk, peta, petn, petc, pesa, pesn, pesc, rfl, ph1, ph2, ph3, ph4⟩ := h1
    obtain ⟨ubba, ubbn, ubbc, ubcbk, ubcbnm, ubcbm, ubcbtk, ubcbta, ubcbtn, ubcbtc, ubcbsa, ubcbsn, ubcbsc, ubcca, ubccn, ubccc, ubda, ubdn, ubdc, uca, ucn, ucc, udk, udnm, udm, udtk, udta, udtn, udtc, udsa, udsn, udsc, uek, uenm, uem, uetk, ueta, uetn, uetc, uesa, uesn, uesc, rfl, pk1, pk2, pk3, pk4⟩ := h2
    dsimp only at ph1 ph2 ph3 ph4 pk1 pk2 pk3 pk4 ⊢
    have hb1 : (Ses.mk x1 x2 x3 x4).bulk = x1.bulk + Tst.bulks x2 + x3.bulk + x4.bulk := rfl
    have b11 : x1.bulk ≤ 1048576 := by omega
    have b12 : Tst.bulks x2 ≤ 1048576 := by omega
    have b13 : x3.bulk ≤ 1048576 := by omega
    have b14 : x4.bulk ≤ 1048576 := by omega
    have hb2 : (Ses.mk y1 y2 y3 y4).bulk = y1.bulk + Tst.bulks y2 + y3.bulk + y4.bulk := rfl
    have b21 : y1.bulk ≤ 1048576 := by omega
    have b22 : Tst.bulks y2 ≤ 1048576 := by omega
    have b23 : y3.bulk ≤ 1048576 := by omega
    have b24 : y4.bulk ≤ 1048576 := by omega
    have hq : Hid ((Ses.mk x1 x2 x3 x4).beq (Ses.mk y1 y2 y3 y4) = ((His.beq x1 y1) && (Tst.beqs x2 y2) && (Ex.beq x3 y3) && (Ex.beq x4 y4))) := rfl
    clear hn1 hn2 hb1 hb2
    have e3 : Below w.heap.size w ((w.alloc (.cells #[.slice pbba pbbn pbbc, .int .i64 pbcbk, .string pbcbnm, .int .i64 pbcbm, .int .i64 pbcbtk, .slice pbcbta pbcbtn pbcbtc, .slice pbcbsa pbcbsn pbcbsc, .slice pbcca pbccn pbccc, .slice pbda pbdn pbdc, .slice pca pcn pcc, .int .i64 pdk, .string pdnm, .int .i64 pdm, .int .i64 pdtk, .slice pdta pdtn pdtc, .slice pdsa pdsn pdsc, .int .i64 pek, .string penm, .int .i64 pem, .int .i64 petk, .slice peta petn petc, .slice pesa pesn pesc] 52)).alloc (.cells #[.slice ubba ubbn ubbc, .int .i64 ubcbk, .string ubcbnm, .int .i64 ubcbm, .int .i64 ubcbtk, .slice ubcbta ubcbtn ubcbtc, .slice ubcbsa ubcbsn ubcbsc, .slice ubcca ubccn ubccc, .slice ubda ubdn ubdc, .slice uca ucn ucc, .int .i64 udk, .string udnm, .int .i64 udm, .int .i64 udtk, .slice udta udtn udtc, .slice udsa udsn udsc, .int .i64 uek, .string uenm, .int .i64 uem, .int .i64 uetk, .slice ueta uetn uetc, .slice uesa uesn uesc] 52)) := ((Below.refl _ _).alloc (Nat.le_refl _) _).alloc (by simp) _
    have H1 := Lib.hid (ph1.below e3)
    have J1 := Lib.hid (pk1.below e3)
    have H2 := Lib.hid (ph2.below e3)
    have J2 := Lib.hid (pk2.below e3)
    have H3 := Lib.hid (ph3.below e3)
    have J3 := Lib.hid (pk3.below e3)
    have H4 := Lib.hid (ph4.below e3)
    have J4 := Lib.hid (pk4.below e3)
    clear e3 ph1 pk1 ph2 pk2 ph3 pk3 ph4 pk4
    go_enter Try.func14, Try.ntmps14
    go_wp2_with fail
    refine (implHis d _ _ x1 y1 _ H1.out J1.out b11 b21).mono ?_
    rintro e' w1 ⟨rfl, hb⟩
    have HB := Lib.hid (two_on (Below.refl _ _) hb)
    replace H2 := Lib.hid (H2.out.below hb)
    replace J2 := Lib.hid (J2.out.below hb)
    replace H3 := Lib.hid (H3.out.below hb)
    replace J3 := Lib.hid (J3.out.below hb)
    replace H4 := Lib.hid (H4.out.below hb)
    replace J4 := Lib.hid (J4.out.below hb)
    clear hb H1 J1
    cases hv : His.beq x1 y1 with
    | false =>
      have HK : Hid ((Ses.mk x1 x2 x3 x4).beq (Ses.mk y1 y2 y3 y4) = false) := by show _ = _; rw [hq.out, hv]; simp
      clear hv
      go_wp2_with fail
      go_ret
      exact ⟨by rw [HK.out]; rfl, two_below HB.out⟩
    | true =>
      rw [hv] at hq
      clear hv
      have c9 := two_first HB.out 9
      have u9 := two_next HB.out 9
      go_wp2_with fail
      clear c9 u9
      refine (libTsts d _ _ x2 y2 _ H2.out J2.out b12 b22).mono ?_
      rintro e' w2 ⟨rfl, hb⟩
      replace HB := Lib.hid (two_on HB.out hb)
      replace H3 := Lib.hid (H3.out.below hb)
      replace J3 := Lib.hid (J3.out.below hb)
      replace H4 := Lib.hid (H4.out.below hb)
      replace J4 := Lib.hid (J4.out.below hb)
      clear hb H2 J2
      cases hv : Tst.beqs x2 y2 with
      | false =>
        have HK : Hid ((Ses.mk x1 x2 x3 x4).beq (Ses.mk y1 y2 y3 y4) = false) := by show _ = _; rw [hq.out, hv]; simp
        clear hv
        go_wp2_with fail
        go_ret
        exact ⟨by rw [HK.out]; rfl, two_below HB.out⟩
      | true =>
        rw [hv] at hq
        clear hv
        have c10 := two_first HB.out 10
        have u10 := two_next HB.out 10
        have c11 := two_first HB.out 11
        have u11 := two_next HB.out 11
        have c12 := two_first HB.out 12
        have u12 := two_next HB.out 12
        have c13 := two_first HB.out 13
        have u13 := two_next HB.out 13
        have c14 := two_first HB.out 14
        have u14 := two_next HB.out 14
        have c15 := two_first HB.out 15
        have u15 := two_next HB.out 15
        go_wp2_with fail
        clear c10 u10 c11 u11 c12 u12 c13 u13 c14 u14 c15 u15
        refine (implExEqual d _ _ x3 y3 _ H3.out J3.out).mono ?_
        rintro e' w3 ⟨rfl, hb⟩
        replace HB := Lib.hid (two_on HB.out hb)
        replace H4 := Lib.hid (H4.out.below hb)
        replace J4 := Lib.hid (J4.out.below hb)
        clear hb H3 J3
        cases hv : Ex.beq x3 y3 with
        | false =>
          have HK : Hid ((Ses.mk x1 x2 x3 x4).beq (Ses.mk y1 y2 y3 y4) = false) := by show _ = _; rw [hq.out, hv]; simp
          clear hv
          go_wp2_with fail
          go_ret
          exact ⟨by rw [HK.out]; rfl, two_below HB.out⟩
        | true =>
          rw [hv] at hq
          clear hv
          have c16 := two_first HB.out 16
          have u16 := two_next HB.out 16
          have c17 := two_first HB.out 17
          have u17 := two_next HB.out 17
          have c18 := two_first HB.out 18
          have u18 := two_next HB.out 18
          have c19 := two_first HB.out 19
          have u19 := two_next HB.out 19
          have c20 := two_first HB.out 20
          have u20 := two_next HB.out 20
          have c21 := two_first HB.out 21
          have u21 := two_next HB.out 21
          go_wp2_with fail
          clear c16 u16 c17 u17 c18 u18 c19 u19 c20 u20 c21 u21
          refine (implExEqual d _ _ x4 y4 _ H4.out J4.out).mono ?_
          rintro e' w4 ⟨rfl, hb⟩
          replace HB := Lib.hid (two_on HB.out hb)
          clear hb H4 J4
          have HK : Hid ((Ses.mk x1 x2 x3 x4).beq (Ses.mk y1 y2 y3 y4) = Ex.beq x4 y4) := by show _ = _; rw [hq.out]; simp
          go_wp2_with fail
          go_ret
          exact ⟨by rw [HK.out]; rfl, two_below HB.out⟩
end Go.Proofs.Ytmmnjdhmankieaa
/-
  Proved: the law FnExactEqualSession answers true for every argument, and leaves the memory that was there as it was.
-/
namespace Go.Proofs.Ytmmnjdhmankieaa
open Go.RowKit

set_option maxRecDepth 100000 in
set_option maxHeartbeats 8000000 in
theorem equalSessionWalk (d : Nat) (v1 : Value) (t1 : Ses) (v2 : Value) (t2 : Ses) (w : World) (h1 : SesAt w d v1 t1) (h2 : SesAt w d v2 t2) :
    Calls Try.prog 3 #[v1, v2] w fun e w' => e = .returned (.bool true) ∧ Below w.heap.size w w' := by
  obtain ⟨a1bba, a1bbn, a1bbc, a1bcbk, a1bcbnm, a1bcbm, a1bcbtk, a1bcbta, a1bcbtn, a1bcbtc, a1bcbsa, a1bcbsn, a1bcbsc, a1bcca, a1bccn, a1bccc, a1bda, a1bdn, a1bdc, a1ca, a1cn, a1cc, a1dk, a1dnm, a1dm, a1dtk, a1dta, a1dtn, a1dtc, a1dsa, a1dsn, a1dsc, a1ek, a1enm, a1em, a1etk, a1eta, a1etn, a1etc, a1esa, a1esn, a1esc, rfl⟩ := ses_parts h1
  obtain ⟨a2bba, a2bbn, a2bbc, a2bcbk, a2bcbnm, a2bcbm, a2bcbtk, a2bcbta, a2bcbtn, a2bcbtc, a2bcbsa, a2bcbsn, a2bcbsc, a2bcca, a2bccn, a2bccc, a2bda, a2bdn, a2bdc, a2ca, a2cn, a2cc, a2dk, a2dnm, a2dm, a2dtk, a2dta, a2dtn, a2dtc, a2dsa, a2dsn, a2dsc, a2ek, a2enm, a2em, a2etk, a2eta, a2etn, a2etc, a2esa, a2esn, a2esc, rfl⟩ := ses_parts h2
  have B : Hid (Below w.heap.size w ((w.alloc (.cells #[.slice a1bba a1bbn a1bbc, .int .i64 a1bcbk, .string a1bcbnm, .int .i64 a1bcbm, .int .i64 a1bcbtk, .slice a1bcbta a1bcbtn a1bcbtc, .slice a1bcbsa a1bcbsn a1bcbsc, .slice a1bcca a1bccn a1bccc, .slice a1bda a1bdn a1bdc, .slice a1ca a1cn a1cc, .int .i64 a1dk, .string a1dnm, .int .i64 a1dm, .int .i64 a1dtk, .slice a1dta a1dtn a1dtc, .slice a1dsa a1dsn a1dsc, .int .i64 a1ek, .string a1enm, .int .i64 a1em, .int .i64 a1etk, .slice a1eta a1etn a1etc, .slice a1esa a1esn a1esc] 36)).alloc (.cells #[.slice a2bba a2bbn a2bbc, .int .i64 a2bcbk, .string a2bcbnm, .int .i64 a2bcbm, .int .i64 a2bcbtk, .slice a2bcbta a2bcbtn a2bcbtc, .slice a2bcbsa a2bcbsn a2bcbsc, .slice a2bcca a2bccn a2bccc, .slice a2bda a2bdn a2bdc, .slice a2ca a2cn a2cc, .int .i64 a2dk, .string a2dnm, .int .i64 a2dm, .int .i64 a2dtk, .slice a2dta a2dtn a2dtc, .slice a2dsa a2dsn a2dsc, .int .i64 a2ek, .string a2enm, .int .i64 a2em, .int .i64 a2etk, .slice a2eta a2etn a2etc, .slice a2esa a2esn a2esc] 36))) := ((Below.refl _ _).alloc (Nat.le_refl _) _).alloc (by simp) _
  have HA1 := Lib.hid (h1.below B.out)
  have HA2 := Lib.hid (h2.below B.out)
  have XA1 : Hid (BoxAt ((w.alloc (.cells #[.slice a1bba a1bbn a1bbc, .int .i64 a1bcbk, .string a1bcbnm, .int .i64 a1bcbm, .int .i64 a1bcbtk, .slice a1bcbta a1bcbtn a1bcbtc, .slice a1bcbsa a1bcbsn a1bcbsc, .slice a1bcca a1bccn a1bccc, .slice a1bda a1bdn a1bdc, .slice a1ca a1cn a1cc, .int .i64 a1dk, .string a1dnm, .int .i64 a1dm, .int .i64 a1dtk, .slice a1dta a1dtn a1dtc, .slice a1dsa a1dsn a1dsc, .int .i64 a1ek, .string a1enm, .int .i64 a1em, .int .i64 a1etk, .slice a1eta a1etn a1etc, .slice a1esa a1esn a1esc] 36)).alloc (.cells #[.slice a2bba a2bbn a2bbc, .int .i64 a2bcbk, .string a2bcbnm, .int .i64 a2bcbm, .int .i64 a2bcbtk, .slice a2bcbta a2bcbtn a2bcbtc, .slice a2bcbsa a2bcbsn a2bcbsc, .slice a2bcca a2bccn a2bccc, .slice a2bda a2bdn a2bdc, .slice a2ca a2cn a2cc, .int .i64 a2dk, .string a2dnm, .int .i64 a2dm, .int .i64 a2dtk, .slice a2dta a2dtn a2dtc, .slice a2dsa a2dsn a2dsc, .int .i64 a2ek, .string a2enm, .int .i64 a2em, .int .i64 a2etk, .slice a2eta a2etn a2etc, .slice a2esa a2esn a2esc] 36)) (w.heap.size) #[.slice a1bba a1bbn a1bbc, .int .i64 a1bcbk, .string a1bcbnm, .int .i64 a1bcbm, .int .i64 a1bcbtk, .slice a1bcbta a1bcbtn a1bcbtc, .slice a1bcbsa a1bcbsn a1bcbsc, .slice a1bcca a1bccn a1bccc, .slice a1bda a1bdn a1bdc, .slice a1ca a1cn a1cc, .int .i64 a1dk, .string a1dnm, .int .i64 a1dm, .int .i64 a1dtk, .slice a1dta a1dtn a1dtc, .slice a1dsa a1dsn a1dsc, .int .i64 a1ek, .string a1enm, .int .i64 a1em, .int .i64 a1etk, .slice a1eta a1etn a1etc, .slice a1esa a1esn a1esc]) := (BoxAt.new _ _ _).below (below_alloc _ _)
  have XA2 : Hid (BoxAt ((w.alloc (.cells #[.slice a1bba a1bbn a1bbc, .int .i64 a1bcbk, .string a1bcbnm, .int .i64 a1bcbm, .int .i64 a1bcbtk, .slice a1bcbta a1bcbtn a1bcbtc, .slice a1bcbsa a1bcbsn a1bcbsc, .slice a1bcca a1bccn a1bccc, .slice a1bda a1bdn a1bdc, .slice a1ca a1cn a1cc, .int .i64 a1dk, .string a1dnm, .int .i64 a1dm, .int .i64 a1dtk, .slice a1dta a1dtn a1dtc, .slice a1dsa a1dsn a1dsc, .int .i64 a1ek, .string a1enm, .int .i64 a1em, .int .i64 a1etk, .slice a1eta a1etn a1etc, .slice a1esa a1esn a1esc] 36)).alloc (.cells #[.slice a2bba a2bbn a2bbc, .int .i64 a2bcbk, .string a2bcbnm, .int .i64 a2bcbm, .int .i64 a2bcbtk, .slice a2bcbta a2bcbtn a2bcbtc, .slice a2bcbsa a2bcbsn a2bcbsc, .slice a2bcca a2bccn a2bccc, .slice a2bda a2bdn a2bdc, .slice a2ca a2cn a2cc, .int .i64 a2dk, .string a2dnm, .int .i64 a2dm, .int .i64 a2dtk, .slice a2dta a2dtn a2dtc, .slice a2dsa a2dsn a2dsc, .int .i64 a2ek, .string a2enm, .int .i64 a2em, .int .i64 a2etk, .slice a2eta a2etn a2etc, .slice a2esa a2esn a2esc] 36)) (w.heap.size + 1) #[.slice a2bba a2bbn a2bbc, .int .i64 a2bcbk, .string a2bcbnm, .int .i64 a2bcbm, .int .i64 a2bcbtk, .slice a2bcbta a2bcbtn a2bcbtc, .slice a2bcbsa a2bcbsn a2bcbsc, .slice a2bcca a2bccn a2bccc, .slice a2bda a2bdn a2bdc, .slice a2ca a2cn a2cc, .int .i64 a2dk, .string a2dnm, .int .i64 a2dm, .int .i64 a2dtk, .slice a2dta a2dtn a2dtc, .slice a2dsa a2dsn a2dsc, .int .i64 a2ek, .string a2enm, .int .i64 a2em, .int .i64 a2etk, .slice a2eta a2etn a2etc, .slice a2esa a2esn a2esc]) := by
    have := BoxAt.new (w.alloc (.cells #[.slice a1bba a1bbn a1bbc, .int .i64 a1bcbk, .string a1bcbnm, .int .i64 a1bcbm, .int .i64 a1bcbtk, .slice a1bcbta a1bcbtn a1bcbtc, .slice a1bcbsa a1bcbsn a1bcbsc, .slice a1bcca a1bccn a1bccc, .slice a1bda a1bdn a1bdc, .slice a1ca a1cn a1cc, .int .i64 a1dk, .string a1dnm, .int .i64 a1dm, .int .i64 a1dtk, .slice a1dta a1dtn a1dtc, .slice a1dsa a1dsn a1dsc, .int .i64 a1ek, .string a1enm, .int .i64 a1em, .int .i64 a1etk, .slice a1eta a1etn a1etc, .slice a1esa a1esn a1esc] 36)) #[.slice a2bba a2bbn a2bbc, .int .i64 a2bcbk, .string a2bcbnm, .int .i64 a2bcbm, .int .i64 a2bcbtk, .slice a2bcbta a2bcbtn a2bcbtc, .slice a2bcbsa a2bcbsn a2bcbsc, .slice a2bcca a2bccn a2bccc, .slice a2bda a2bdn a2bdc, .slice a2ca a2cn a2cc, .int .i64 a2dk, .string a2dnm, .int .i64 a2dm, .int .i64 a2dtk, .slice a2dta a2dtn a2dtc, .slice a2dsa a2dsn a2dsc, .int .i64 a2ek, .string a2enm, .int .i64 a2em, .int .i64 a2etk, .slice a2eta a2etn a2etc, .slice a2esa a2esn a2esc] 36
    rw [show (w.alloc (.cells #[.slice a1bba a1bbn a1bbc, .int .i64 a1bcbk, .string a1bcbnm, .int .i64 a1bcbm, .int .i64 a1bcbtk, .slice a1bcbta a1bcbtn a1bcbtc, .slice a1bcbsa a1bcbsn a1bcbsc, .slice a1bcca a1bccn a1bccc, .slice a1bda a1bdn a1bdc, .slice a1ca a1cn a1cc, .int .i64 a1dk, .string a1dnm, .int .i64 a1dm, .int .i64 a1dtk, .slice a1dta a1dtn a1dtc, .slice a1dsa a1dsn a1dsc, .int .i64 a1ek, .string a1enm, .int .i64 a1em, .int .i64 a1etk, .slice a1eta a1etn a1etc, .slice a1esa a1esn a1esc] 36)).heap.size = w.heap.size + 1 from by simp] at this
    exact this
  clear h1 h2
  go_enter Try.func3, Try.ntmps3
  go_upto_region 2 with fail
  generalize ((w.alloc (.cells #[.slice a1bba a1bbn a1bbc, .int .i64 a1bcbk, .string a1bcbnm, .int .i64 a1bcbm, .int .i64 a1bcbtk, .slice a1bcbta a1bcbtn a1bcbtc, .slice a1bcbsa a1bcbsn a1bcbsc, .slice a1bcca a1bccn a1bccc, .slice a1bda a1bdn a1bdc, .slice a1ca a1cn a1cc, .int .i64 a1dk, .string a1dnm, .int .i64 a1dm, .int .i64 a1dtk, .slice a1dta a1dtn a1dtc, .slice a1dsa a1dsn a1dsc, .int .i64 a1ek, .string a1enm, .int .i64 a1em, .int .i64 a1etk, .slice a1eta a1etn a1etc, .slice a1esa a1esn a1esc] 36)).alloc (.cells #[.slice a2bba a2bbn a2bbc, .int .i64 a2bcbk, .string a2bcbnm, .int .i64 a2bcbm, .int .i64 a2bcbtk, .slice a2bcbta a2bcbtn a2bcbtc, .slice a2bcbsa a2bcbsn a2bcbsc, .slice a2bcca a2bccn a2bccc, .slice a2bda a2bdn a2bdc, .slice a2ca a2cn a2cc, .int .i64 a2dk, .string a2dnm, .int .i64 a2dm, .int .i64 a2dtk, .slice a2dta a2dtn a2dtc, .slice a2dsa a2dsn a2dsc, .int .i64 a2ek, .string a2enm, .int .i64 a2em, .int .i64 a2etk, .slice a2eta a2etn a2etc, .slice a2esa a2esn a2esc] 36)) = wA at B HA1 HA2 XA1 XA2 ⊢
  go_wp2_with (first | refine wpList_load_box rfl _ _ rfl (w.heap.size) [.slice a1bba a1bbn a1bbc, .int .i64 a1bcbk, .string a1bcbnm, .int .i64 a1bcbm, .int .i64 a1bcbtk, .slice a1bcbta a1bcbtn a1bcbtc, .slice a1bcbsa a1bcbsn a1bcbsc, .slice a1bcca a1bccn a1bccc, .slice a1bda a1bdn a1bdc, .slice a1ca a1cn a1cc, .int .i64 a1dk, .string a1dnm, .int .i64 a1dm, .int .i64 a1dtk, .slice a1dta a1dtn a1dtc, .slice a1dsa a1dsn a1dsc, .int .i64 a1ek, .string a1enm, .int .i64 a1em, .int .i64 a1etk, .slice a1eta a1etn a1etc, .slice a1esa a1esn a1esc] rfl XA1.out Try.underlying36 rfl (by kernel_rfl) ?_ | refine wpList_load_box rfl _ _ rfl (w.heap.size + 1) [.slice a2bba a2bbn a2bbc, .int .i64 a2bcbk, .string a2bcbnm, .int .i64 a2bcbm, .int .i64 a2bcbtk, .slice a2bcbta a2bcbtn a2bcbtc, .slice a2bcbsa a2bcbsn a2bcbsc, .slice a2bcca a2bccn a2bccc, .slice a2bda a2bdn a2bdc, .slice a2ca a2cn a2cc, .int .i64 a2dk, .string a2dnm, .int .i64 a2dm, .int .i64 a2dtk, .slice a2dta a2dtn a2dtc, .slice a2dsa a2dsn a2dsc, .int .i64 a2ek, .string a2enm, .int .i64 a2em, .int .i64 a2etk, .slice a2eta a2etn a2etc, .slice a2esa a2esn a2esc] rfl XA2.out Try.underlying36 rfl (by kernel_rfl) ?_)
  refine (szSes d _ t1 1048576 _ (by omega) (by omega) HA1.out).mono ?_
  rintro e w1 ⟨r1, rfl, hb, hr1⟩
  replace B := Lib.hid (below_thru B.out (Nat.le_refl _) hb)
  replace HA1 := Lib.hid (HA1.out.below hb)
  replace HA2 := Lib.hid (HA2.out.below hb)
  replace XA1 := Lib.hid (XA1.out.below hb)
  replace XA2 := Lib.hid (XA2.out.below hb)
  clear hb
  rcases hr1 with ⟨hr1, hs1⟩ | ⟨hr1, hs1⟩
  · go_wp2_with fail
    go_ret
    exact ⟨rfl, B.out⟩
  have hq1 : r1 ≤ 1048576 := by omega
  have hn1 : t1.bulk ≤ 1048576 := by omega
  go_wp2_with (first | refine wpList_load_box rfl _ _ rfl (w.heap.size) [.slice a1bba a1bbn a1bbc, .int .i64 a1bcbk, .string a1bcbnm, .int .i64 a1bcbm, .int .i64 a1bcbtk, .slice a1bcbta a1bcbtn a1bcbtc, .slice a1bcbsa a1bcbsn a1bcbsc, .slice a1bcca a1bccn a1bccc, .slice a1bda a1bdn a1bdc, .slice a1ca a1cn a1cc, .int .i64 a1dk, .string a1dnm, .int .i64 a1dm, .int .i64 a1dtk, .slice a1dta a1dtn a1dtc, .slice a1dsa a1dsn a1dsc, .int .i64 a1ek, .string a1enm, .int .i64 a1em, .int .i64 a1etk, .slice a1eta a1etn a1etc, .slice a1esa a1esn a1esc] rfl XA1.out Try.underlying36 rfl (by kernel_rfl) ?_ | refine wpList_load_box rfl _ _ rfl (w.heap.size + 1) [.slice a2bba a2bbn a2bbc, .int .i64 a2bcbk, .string a2bcbnm, .int .i64 a2bcbm, .int .i64 a2bcbtk, .slice a2bcbta a2bcbtn a2bcbtc, .slice a2bcbsa a2bcbsn a2bcbsc, .slice a2bcca a2bccn a2bccc, .slice a2bda a2bdn a2bdc, .slice a2ca a2cn a2cc, .int .i64 a2dk, .string a2dnm, .int .i64 a2dm, .int .i64 a2dtk, .slice a2dta a2dtn a2dtc, .slice a2dsa a2dsn a2dsc, .int .i64 a2ek, .string a2enm, .int .i64 a2em, .int .i64 a2etk, .slice a2eta a2etn a2etc, .slice a2esa a2esn a2esc] rfl XA2.out Try.underlying36 rfl (by kernel_rfl) ?_)
  refine (szSes d _ t2 r1 _ hr1 hq1 HA2.out).mono ?_
  rintro e w2 ⟨r2, rfl, hb, hr2⟩
  replace B := Lib.hid (below_thru B.out (Nat.le_refl _) hb)
  replace HA1 := Lib.hid (HA1.out.below hb)
  replace HA2 := Lib.hid (HA2.out.below hb)
  replace XA1 := Lib.hid (XA1.out.below hb)
  replace XA2 := Lib.hid (XA2.out.below hb)
  clear hb
  rcases hr2 with ⟨hr2, hs2⟩ | ⟨hr2, hs2⟩
  · go_wp2_with fail
    go_ret
    exact ⟨rfl, B.out⟩
  have hq2 : r2 ≤ 1048576 := by omega
  have hn2 : t2.bulk ≤ 1048576 := by omega
  clear hs1 hs2
  go_wp2_with (first | refine wpList_load_box rfl _ _ rfl (w.heap.size) [.slice a1bba a1bbn a1bbc, .int .i64 a1bcbk, .string a1bcbnm, .int .i64 a1bcbm, .int .i64 a1bcbtk, .slice a1bcbta a1bcbtn a1bcbtc, .slice a1bcbsa a1bcbsn a1bcbsc, .slice a1bcca a1bccn a1bccc, .slice a1bda a1bdn a1bdc, .slice a1ca a1cn a1cc, .int .i64 a1dk, .string a1dnm, .int .i64 a1dm, .int .i64 a1dtk, .slice a1dta a1dtn a1dtc, .slice a1dsa a1dsn a1dsc, .int .i64 a1ek, .string a1enm, .int .i64 a1em, .int .i64 a1etk, .slice a1eta a1etn a1etc, .slice a1esa a1esn a1esc] rfl XA1.out Try.underlying36 rfl (by kernel_rfl) ?_ | refine wpList_load_box rfl _ _ rfl (w.heap.size + 1) [.slice a2bba a2bbn a2bbc, .int .i64 a2bcbk, .string a2bcbnm, .int .i64 a2bcbm, .int .i64 a2bcbtk, .slice a2bcbta a2bcbtn a2bcbtc, .slice a2bcbsa a2bcbsn a2bcbsc, .slice a2bcca a2bccn a2bccc, .slice a2bda a2bdn a2bdc, .slice a2ca a2cn a2cc, .int .i64 a2dk, .string a2dnm, .int .i64 a2dm, .int .i64 a2dtk, .slice a2dta a2dtn a2dtc, .slice a2dsa a2dsn a2dsc, .int .i64 a2ek, .string a2enm, .int .i64 a2em, .int .i64 a2etk, .slice a2eta a2etn a2etc, .slice a2esa a2esn a2esc] rfl XA2.out Try.underlying36 rfl (by kernel_rfl) ?_)
  have hb := below_drew w2
  replace B := Lib.hid (below_thru B.out (Nat.le_refl _) hb)
  replace HA1 := Lib.hid (HA1.out.below hb)
  replace HA2 := Lib.hid (HA2.out.below hb)
  replace XA1 := Lib.hid (XA1.out.below hb)
  replace XA2 := Lib.hid (XA2.out.below hb)
  clear hb
  obtain ⟨S1, hS1⟩ : ∃ S : World → Prop, S = fun w' => BoxAt w' (w.heap.size) #[.slice a1bba a1bbn a1bbc, .int .i64 a1bcbk, .string a1bcbnm, .int .i64 a1bcbm, .int .i64 a1bcbtk, .slice a1bcbta a1bcbtn a1bcbtc, .slice a1bcbsa a1bcbsn a1bcbsc, .slice a1bcca a1bccn a1bccc, .slice a1bda a1bdn a1bdc, .slice a1ca a1cn a1cc, .int .i64 a1dk, .string a1dnm, .int .i64 a1dm, .int .i64 a1dtk, .slice a1dta a1dtn a1dtc, .slice a1dsa a1dsn a1dsc, .int .i64 a1ek, .string a1enm, .int .i64 a1em, .int .i64 a1etk, .slice a1eta a1etn a1etc, .slice a1esa a1esn a1esc] ∧ BoxAt w' (w.heap.size + 1) #[.slice a2bba a2bbn a2bbc, .int .i64 a2bcbk, .string a2bcbnm, .int .i64 a2bcbm, .int .i64 a2bcbtk, .slice a2bcbta a2bcbtn a2bcbtc, .slice a2bcbsa a2bcbsn a2bcbsc, .slice a2bcca a2bccn a2bccc, .slice a2bda a2bdn a2bdc, .slice a2ca a2cn a2cc, .int .i64 a2dk, .string a2dnm, .int .i64 a2dm, .int .i64 a2dtk, .slice a2dta a2dtn a2dtc, .slice a2dsa a2dsn a2dsc, .int .i64 a2ek, .string a2enm, .int .i64 a2em, .int .i64 a2etk, .slice a2eta a2etn a2etc, .slice a2esa a2esn a2esc] := ⟨_, rfl⟩
  have HS1 := Lib.hid hS1
  clear hS1
  refine wp_region_held_drew (S := S1) (by kernel_rfl) (by rw [HS1.out]; exact ⟨XA1.out, XA2.out⟩) (fun hHeld => ?_)
  refine wpAnyH_take (i := 0) (v := .agg #[.slice a1bba a1bbn a1bbc, .int .i64 a1bcbk, .string a1bcbnm, .int .i64 a1bcbm, .int .i64 a1bcbtk, .slice a1bcbta a1bcbtn a1bcbtc, .slice a1bcbsa a1bcbsn a1bcbsc, .slice a1bcca a1bccn a1bccc, .slice a1bda a1bdn a1bdc, .slice a1ca a1cn a1cc, .int .i64 a1dk, .string a1dnm, .int .i64 a1dm, .int .i64 a1dtk, .slice a1dta a1dtn a1dtc, .slice a1dsa a1dsn a1dsc, .int .i64 a1ek, .string a1enm, .int .i64 a1em, .int .i64 a1etk, .slice a1eta a1etn a1etc, .slice a1esa a1esn a1esc]) rfl (by kernel_rfl) (by kernel_rfl) (by kernel_rfl) (fun _ _ _ h => h) (yieldsIf_load_mid (by rfl) 36 _ rfl (w.heap.size) 0 rfl [.slice a1bba a1bbn a1bbc, .int .i64 a1bcbk, .string a1bcbnm, .int .i64 a1bcbm, .int .i64 a1bcbtk, .slice a1bcbta a1bcbtn a1bcbtc, .slice a1bcbsa a1bcbsn a1bcbsc, .slice a1bcca a1bccn a1bccc, .slice a1bda a1bdn a1bdc, .slice a1ca a1cn a1cc, .int .i64 a1dk, .string a1dnm, .int .i64 a1dm, .int .i64 a1dtk, .slice a1dta a1dtn a1dtc, .slice a1dsa a1dsn a1dsc, .int .i64 a1ek, .string a1enm, .int .i64 a1em, .int .i64 a1etk, .slice a1eta a1etn a1etc, .slice a1esa a1esn a1esc] _ (fun w' h => by rw [HS1.out] at h; exact BoxAt.range h.1) Try.underlying36 rfl (by kernel_rfl)) hHeld ?_
  try simp only [Act.put]
  try simp only [List.setIfInBounds_toArray]
  try simp only [List.set_cons_succ]
  try simp only [List.set_cons_zero]
  refine wpAnyH_take (i := 2) (v := .agg #[.slice a2bba a2bbn a2bbc, .int .i64 a2bcbk, .string a2bcbnm, .int .i64 a2bcbm, .int .i64 a2bcbtk, .slice a2bcbta a2bcbtn a2bcbtc, .slice a2bcbsa a2bcbsn a2bcbsc, .slice a2bcca a2bccn a2bccc, .slice a2bda a2bdn a2bdc, .slice a2ca a2cn a2cc, .int .i64 a2dk, .string a2dnm, .int .i64 a2dm, .int .i64 a2dtk, .slice a2dta a2dtn a2dtc, .slice a2dsa a2dsn a2dsc, .int .i64 a2ek, .string a2enm, .int .i64 a2em, .int .i64 a2etk, .slice a2eta a2etn a2etc, .slice a2esa a2esn a2esc]) rfl (by kernel_rfl) (by kernel_rfl) (by kernel_rfl) (fun _ _ _ h => h) (yieldsIf_load_mid (by rfl) 36 _ rfl (w.heap.size + 1) 0 rfl [.slice a2bba a2bbn a2bbc, .int .i64 a2bcbk, .string a2bcbnm, .int .i64 a2bcbm, .int .i64 a2bcbtk, .slice a2bcbta a2bcbtn a2bcbtc, .slice a2bcbsa a2bcbsn a2bcbsc, .slice a2bcca a2bccn a2bccc, .slice a2bda a2bdn a2bdc, .slice a2ca a2cn a2cc, .int .i64 a2dk, .string a2dnm, .int .i64 a2dm, .int .i64 a2dtk, .slice a2dta a2dtn a2dtc, .slice a2dsa a2dsn a2dsc, .int .i64 a2ek, .string a2enm, .int .i64 a2em, .int .i64 a2etk, .slice a2eta a2etn a2etc, .slice a2esa a2esn a2esc] _ (fun w' h => by rw [HS1.out] at h; exact BoxAt.range h.2) Try.underlying36 rfl (by kernel_rfl)) hHeld ?_
  try simp only [Act.put]
  try simp only [List.setIfInBounds_toArray]
  try simp only [List.set_cons_succ]
  try simp only [List.set_cons_zero]
  refine wpAnyH_ready (rs := [1]) (by kernel_rfl) (by simp) ?_
  refine AllReadyH.cons rfl (fun K hK => ?_) AllReadyH.nil
  go_simp
  go_at_call_of 13 (Value.agg #[Value.slice a1bba a1bbn a1bbc, Value.int IntKind.i64 a1bcbk, Value.string a1bcbnm, Value.int IntKind.i64 a1bcbm, Value.int IntKind.i64 a1bcbtk, Value.slice a1bcbta a1bcbtn a1bcbtc, Value.slice a1bcbsa a1bcbsn a1bcbsc, Value.slice a1bcca a1bccn a1bccc, Value.slice a1bda a1bdn a1bdc, Value.slice a1ca a1cn a1cc, Value.int IntKind.i64 a1dk, Value.string a1dnm, Value.int IntKind.i64 a1dm, Value.int IntKind.i64 a1dtk, Value.slice a1dta a1dtn a1dtc, Value.slice a1dsa a1dsn a1dsc, Value.int IntKind.i64 a1ek, Value.string a1enm, Value.int IntKind.i64 a1em, Value.int IntKind.i64 a1etk, Value.slice a1eta a1etn a1etc, Value.slice a1esa a1esn a1esc])
  refine (toSes d _ t1 _ hn1 HA1.out).mono ?_
  rintro e w3 ⟨s1, fp, rfl, ht, hf, hb⟩
  replace B := Lib.hid (below_thru B.out (Nat.le_refl _) hb)
  replace HA1 := Lib.hid (HA1.out.below hb)
  replace HA2 := Lib.hid (HA2.out.below hb)
  replace XA1 := Lib.hid (XA1.out.below hb)
  replace XA2 := Lib.hid (XA2.out.below hb)
  clear hb
  have Hs1 := Lib.hid ht.at_
  clear ht hf
  clear hHeld
  try go_wp2_with fail
  refine hK.out _ _ (by rw [HS1.out]; exact ⟨XA1.out, XA2.out⟩) (fun hHeld => ?_)
  clear hK K
  try simp only [Act.put]
  try simp only [List.setIfInBounds_toArray]
  try simp only [List.set_cons_succ]
  try simp only [List.set_cons_zero]
  refine wpAnyH_ready (rs := [3]) (by kernel_rfl) (by simp) ?_
  refine AllReadyH.cons rfl (fun K hK => ?_) AllReadyH.nil
  go_simp
  go_at_call_of 13 (Value.agg #[Value.slice a2bba a2bbn a2bbc, Value.int IntKind.i64 a2bcbk, Value.string a2bcbnm, Value.int IntKind.i64 a2bcbm, Value.int IntKind.i64 a2bcbtk, Value.slice a2bcbta a2bcbtn a2bcbtc, Value.slice a2bcbsa a2bcbsn a2bcbsc, Value.slice a2bcca a2bccn a2bccc, Value.slice a2bda a2bdn a2bdc, Value.slice a2ca a2cn a2cc, Value.int IntKind.i64 a2dk, Value.string a2dnm, Value.int IntKind.i64 a2dm, Value.int IntKind.i64 a2dtk, Value.slice a2dta a2dtn a2dtc, Value.slice a2dsa a2dsn a2dsc, Value.int IntKind.i64 a2ek, Value.string a2enm, Value.int IntKind.i64 a2em, Value.int IntKind.i64 a2etk, Value.slice a2eta a2etn a2etc, Value.slice a2esa a2esn a2esc])
  refine (toSes d _ t2 _ hn2 HA2.out).mono ?_
  rintro e w4 ⟨s2, fp, rfl, ht, hf, hb⟩
  replace B := Lib.hid (below_thru B.out (Nat.le_refl _) hb)
  replace HA1 := Lib.hid (HA1.out.below hb)
  replace HA2 := Lib.hid (HA2.out.below hb)
  replace XA1 := Lib.hid (XA1.out.below hb)
  replace XA2 := Lib.hid (XA2.out.below hb)
  replace Hs1 := Lib.hid (Hs1.out.below hb)
  clear hb
  have Hs2 := Lib.hid ht.at_
  clear ht hf
  clear hHeld
  try go_wp2_with fail
  refine hK.out _ _ (by rw [HS1.out]; exact ⟨XA1.out, XA2.out⟩) (fun hHeld => ?_)
  clear hK K
  try simp only [Act.put]
  try simp only [List.setIfInBounds_toArray]
  try simp only [List.set_cons_succ]
  try simp only [List.set_cons_zero]
  refine wpAnyH_ready (rs := [4]) (by kernel_rfl) (by simp) ?_
  refine AllReadyH.cons rfl (fun K hK => ?_) AllReadyH.nil
  go_simp
  go_at_call 12
  refine (specSes d s1 s2 t1 t2 _ Hs1.out Hs2.out hn1 hn2).mono ?_
  rintro e w5 ⟨rfl, hb⟩
  replace B := Lib.hid (below_thru B.out (Nat.le_refl _) hb)
  replace HA1 := Lib.hid (HA1.out.below hb)
  replace HA2 := Lib.hid (HA2.out.below hb)
  replace XA1 := Lib.hid (XA1.out.below hb)
  replace XA2 := Lib.hid (XA2.out.below hb)
  clear hb
  clear Hs1 Hs2
  clear hHeld
  try go_wp2_with fail
  refine hK.out _ _ (by rw [HS1.out]; exact ⟨XA1.out, XA2.out⟩) (fun hHeld => ?_)
  clear hK K
  try simp only [Act.put]
  try simp only [List.setIfInBounds_toArray]
  try simp only [List.set_cons_succ]
  try simp only [List.set_cons_zero]
  refine wpAnyH_ready (rs := [5]) (by kernel_rfl) (by simp) ?_
  refine AllReadyH.cons rfl (fun K hK => ?_) AllReadyH.nil
  go_simp
  refine hK.out _ _ hHeld (fun hHeld => ?_)
  clear hK K
  try simp only [Act.put]
  try simp only [List.setIfInBounds_toArray]
  try simp only [List.set_cons_succ]
  try simp only [List.set_cons_zero]
  refine wpAnyH_done (by kernel_rfl) ?_ _
  try simp only [List.getElem_toArray]
  try simp only [List.getElem_cons_succ]
  try simp only [List.getElem_cons_zero]
  try simp only [Act.put]
  try simp only [List.setIfInBounds_toArray]
  try simp only [List.set_cons_succ]
  try simp only [List.set_cons_zero]
  clear HS1
  go_wp2_with (first | refine wpList_load_box rfl _ _ rfl (w.heap.size) [.slice a1bba a1bbn a1bbc, .int .i64 a1bcbk, .string a1bcbnm, .int .i64 a1bcbm, .int .i64 a1bcbtk, .slice a1bcbta a1bcbtn a1bcbtc, .slice a1bcbsa a1bcbsn a1bcbsc, .slice a1bcca a1bccn a1bccc, .slice a1bda a1bdn a1bdc, .slice a1ca a1cn a1cc, .int .i64 a1dk, .string a1dnm, .int .i64 a1dm, .int .i64 a1dtk, .slice a1dta a1dtn a1dtc, .slice a1dsa a1dsn a1dsc, .int .i64 a1ek, .string a1enm, .int .i64 a1em, .int .i64 a1etk, .slice a1eta a1etn a1etc, .slice a1esa a1esn a1esc] rfl XA1.out Try.underlying36 rfl (by kernel_rfl) ?_ | refine wpList_load_box rfl _ _ rfl (w.heap.size + 1) [.slice a2bba a2bbn a2bbc, .int .i64 a2bcbk, .string a2bcbnm, .int .i64 a2bcbm, .int .i64 a2bcbtk, .slice a2bcbta a2bcbtn a2bcbtc, .slice a2bcbsa a2bcbsn a2bcbsc, .slice a2bcca a2bccn a2bccc, .slice a2bda a2bdn a2bdc, .slice a2ca a2cn a2cc, .int .i64 a2dk, .string a2dnm, .int .i64 a2dm, .int .i64 a2dtk, .slice a2dta a2dtn a2dtc, .slice a2dsa a2dsn a2dsc, .int .i64 a2ek, .string a2enm, .int .i64 a2em, .int .i64 a2etk, .slice a2eta a2etn a2etc, .slice a2esa a2esn a2esc] rfl XA2.out Try.underlying36 rfl (by kernel_rfl) ?_)
  refine (toSes d _ t1 _ hn1 HA1.out).mono ?_
  rintro e w6 ⟨x1, fp, rfl, ht, hf, hb⟩
  replace B := Lib.hid (below_thru B.out (Nat.le_refl _) hb)
  replace HA1 := Lib.hid (HA1.out.below hb)
  replace HA2 := Lib.hid (HA2.out.below hb)
  replace XA1 := Lib.hid (XA1.out.below hb)
  replace XA2 := Lib.hid (XA2.out.below hb)
  clear hb
  obtain ⟨x1bba, x1bbn, x1bbc, x1bcbk, x1bcbnm, x1bcbm, x1bcbtk, x1bcbta, x1bcbtn, x1bcbtc, x1bcbsa, x1bcbsn, x1bcbsc, x1bcca, x1bccn, x1bccc, x1bda, x1bdn, x1bdc, x1ca, x1cn, x1cc, x1dk, x1dnm, x1dm, x1dtk, x1dta, x1dtn, x1dtc, x1dsa, x1dsn, x1dsc, x1ek, x1enm, x1em, x1etk, x1eta, x1etn, x1etc, x1esa, x1esn, x1esc, rfl⟩ := ses_parts ht.at_
  have HX1 := Lib.hid ht.at_
  clear ht hf
  have XX1 : Hid (BoxAt (w6.alloc (.cells #[.slice x1bba x1bbn x1bbc, .int .i64 x1bcbk, .string x1bcbnm, .int .i64 x1bcbm, .int .i64 x1bcbtk, .slice x1bcbta x1bcbtn x1bcbtc, .slice x1bcbsa x1bcbsn x1bcbsc, .slice x1bcca x1bccn x1bccc, .slice x1bda x1bdn x1bdc, .slice x1ca x1cn x1cc, .int .i64 x1dk, .string x1dnm, .int .i64 x1dm, .int .i64 x1dtk, .slice x1dta x1dtn x1dtc, .slice x1dsa x1dsn x1dsc, .int .i64 x1ek, .string x1enm, .int .i64 x1em, .int .i64 x1etk, .slice x1eta x1etn x1etc, .slice x1esa x1esn x1esc] 52)) w6.heap.size #[.slice x1bba x1bbn x1bbc, .int .i64 x1bcbk, .string x1bcbnm, .int .i64 x1bcbm, .int .i64 x1bcbtk, .slice x1bcbta x1bcbtn x1bcbtc, .slice x1bcbsa x1bcbsn x1bcbsc, .slice x1bcca x1bccn x1bccc, .slice x1bda x1bdn x1bdc, .slice x1ca x1cn x1cc, .int .i64 x1dk, .string x1dnm, .int .i64 x1dm, .int .i64 x1dtk, .slice x1dta x1dtn x1dtc, .slice x1dsa x1dsn x1dsc, .int .i64 x1ek, .string x1enm, .int .i64 x1em, .int .i64 x1etk, .slice x1eta x1etn x1etc, .slice x1esa x1esn x1esc]) := BoxAt.new _ _ _
  have hb := below_alloc w6 (.cells #[.slice x1bba x1bbn x1bbc, .int .i64 x1bcbk, .string x1bcbnm, .int .i64 x1bcbm, .int .i64 x1bcbtk, .slice x1bcbta x1bcbtn x1bcbtc, .slice x1bcbsa x1bcbsn x1bcbsc, .slice x1bcca x1bccn x1bccc, .slice x1bda x1bdn x1bdc, .slice x1ca x1cn x1cc, .int .i64 x1dk, .string x1dnm, .int .i64 x1dm, .int .i64 x1dtk, .slice x1dta x1dtn x1dtc, .slice x1dsa x1dsn x1dsc, .int .i64 x1ek, .string x1enm, .int .i64 x1em, .int .i64 x1etk, .slice x1eta x1etn x1etc, .slice x1esa x1esn x1esc] 52)
  replace B := Lib.hid (below_thru B.out (Nat.le_refl _) hb)
  replace HA1 := Lib.hid (HA1.out.below hb)
  replace HA2 := Lib.hid (HA2.out.below hb)
  replace XA1 := Lib.hid (XA1.out.below hb)
  replace XA2 := Lib.hid (XA2.out.below hb)
  replace HX1 := Lib.hid (HX1.out.below hb)
  clear hb
  go_upto_region 10 with (refine wpList_store_last rfl _ _ _ rfl w6 _ [.slice x1bba x1bbn x1bbc, .int .i64 x1bcbk, .string x1bcbnm, .int .i64 x1bcbm, .int .i64 x1bcbtk, .slice x1bcbta x1bcbtn x1bcbtc, .slice x1bcbsa x1bcbsn x1bcbsc, .slice x1bcca x1bccn x1bccc, .slice x1bda x1bdn x1bdc, .slice x1ca x1cn x1cc, .int .i64 x1dk, .string x1dnm, .int .i64 x1dm, .int .i64 x1dtk, .slice x1dta x1dtn x1dtc, .slice x1dsa x1dsn x1dsc, .int .i64 x1ek, .string x1enm, .int .i64 x1em, .int .i64 x1etk, .slice x1eta x1etn x1etc, .slice x1esa x1esn x1esc] rfl rfl (by kernel_rfl) (by simp only [List.size_toArray, List.length_cons, List.length_nil]) (by simp [Value.oneCell']) ?_)
  generalize (w6.alloc (.cells #[.slice x1bba x1bbn x1bbc, .int .i64 x1bcbk, .string x1bcbnm, .int .i64 x1bcbm, .int .i64 x1bcbtk, .slice x1bcbta x1bcbtn x1bcbtc, .slice x1bcbsa x1bcbsn x1bcbsc, .slice x1bcca x1bccn x1bccc, .slice x1bda x1bdn x1bdc, .slice x1ca x1cn x1cc, .int .i64 x1dk, .string x1dnm, .int .i64 x1dm, .int .i64 x1dtk, .slice x1dta x1dtn x1dtc, .slice x1dsa x1dsn x1dsc, .int .i64 x1ek, .string x1enm, .int .i64 x1em, .int .i64 x1etk, .slice x1eta x1etn x1etc, .slice x1esa x1esn x1esc] 52)) = wXX1 at XX1 B HA1 HA2 XA1 XA2 HX1 ⊢
  go_wp2_with (first | refine wpList_load_box rfl _ _ rfl (w.heap.size) [.slice a1bba a1bbn a1bbc, .int .i64 a1bcbk, .string a1bcbnm, .int .i64 a1bcbm, .int .i64 a1bcbtk, .slice a1bcbta a1bcbtn a1bcbtc, .slice a1bcbsa a1bcbsn a1bcbsc, .slice a1bcca a1bccn a1bccc, .slice a1bda a1bdn a1bdc, .slice a1ca a1cn a1cc, .int .i64 a1dk, .string a1dnm, .int .i64 a1dm, .int .i64 a1dtk, .slice a1dta a1dtn a1dtc, .slice a1dsa a1dsn a1dsc, .int .i64 a1ek, .string a1enm, .int .i64 a1em, .int .i64 a1etk, .slice a1eta a1etn a1etc, .slice a1esa a1esn a1esc] rfl XA1.out Try.underlying36 rfl (by kernel_rfl) ?_ | refine wpList_load_box rfl _ _ rfl (w.heap.size + 1) [.slice a2bba a2bbn a2bbc, .int .i64 a2bcbk, .string a2bcbnm, .int .i64 a2bcbm, .int .i64 a2bcbtk, .slice a2bcbta a2bcbtn a2bcbtc, .slice a2bcbsa a2bcbsn a2bcbsc, .slice a2bcca a2bccn a2bccc, .slice a2bda a2bdn a2bdc, .slice a2ca a2cn a2cc, .int .i64 a2dk, .string a2dnm, .int .i64 a2dm, .int .i64 a2dtk, .slice a2dta a2dtn a2dtc, .slice a2dsa a2dsn a2dsc, .int .i64 a2ek, .string a2enm, .int .i64 a2em, .int .i64 a2etk, .slice a2eta a2etn a2etc, .slice a2esa a2esn a2esc] rfl XA2.out Try.underlying36 rfl (by kernel_rfl) ?_ | refine wpList_load_box rfl _ _ rfl (w6.heap.size) [.slice x1bba x1bbn x1bbc, .int .i64 x1bcbk, .string x1bcbnm, .int .i64 x1bcbm, .int .i64 x1bcbtk, .slice x1bcbta x1bcbtn x1bcbtc, .slice x1bcbsa x1bcbsn x1bcbsc, .slice x1bcca x1bccn x1bccc, .slice x1bda x1bdn x1bdc, .slice x1ca x1cn x1cc, .int .i64 x1dk, .string x1dnm, .int .i64 x1dm, .int .i64 x1dtk, .slice x1dta x1dtn x1dtc, .slice x1dsa x1dsn x1dsc, .int .i64 x1ek, .string x1enm, .int .i64 x1em, .int .i64 x1etk, .slice x1eta x1etn x1etc, .slice x1esa x1esn x1esc] rfl XX1.out Try.underlying52 rfl (by kernel_rfl) ?_)
  refine (toSes d _ t2 _ hn2 HA2.out).mono ?_
  rintro e w7 ⟨x2, fp, rfl, ht, hf, hb⟩
  replace B := Lib.hid (below_thru B.out (Nat.le_refl _) hb)
  replace HA1 := Lib.hid (HA1.out.below hb)
  replace HA2 := Lib.hid (HA2.out.below hb)
  replace XA1 := Lib.hid (XA1.out.below hb)
  replace XA2 := Lib.hid (XA2.out.below hb)
  replace HX1 := Lib.hid (HX1.out.below hb)
  replace XX1 := Lib.hid (XX1.out.below hb)
  clear hb
  obtain ⟨x2bba, x2bbn, x2bbc, x2bcbk, x2bcbnm, x2bcbm, x2bcbtk, x2bcbta, x2bcbtn, x2bcbtc, x2bcbsa, x2bcbsn, x2bcbsc, x2bcca, x2bccn, x2bccc, x2bda, x2bdn, x2bdc, x2ca, x2cn, x2cc, x2dk, x2dnm, x2dm, x2dtk, x2dta, x2dtn, x2dtc, x2dsa, x2dsn, x2dsc, x2ek, x2enm, x2em, x2etk, x2eta, x2etn, x2etc, x2esa, x2esn, x2esc, rfl⟩ := ses_parts ht.at_
  have HX2 := Lib.hid ht.at_
  clear ht hf
  have XX2 : Hid (BoxAt (w7.alloc (.cells #[.slice x2bba x2bbn x2bbc, .int .i64 x2bcbk, .string x2bcbnm, .int .i64 x2bcbm, .int .i64 x2bcbtk, .slice x2bcbta x2bcbtn x2bcbtc, .slice x2bcbsa x2bcbsn x2bcbsc, .slice x2bcca x2bccn x2bccc, .slice x2bda x2bdn x2bdc, .slice x2ca x2cn x2cc, .int .i64 x2dk, .string x2dnm, .int .i64 x2dm, .int .i64 x2dtk, .slice x2dta x2dtn x2dtc, .slice x2dsa x2dsn x2dsc, .int .i64 x2ek, .string x2enm, .int .i64 x2em, .int .i64 x2etk, .slice x2eta x2etn x2etc, .slice x2esa x2esn x2esc] 52)) w7.heap.size #[.slice x2bba x2bbn x2bbc, .int .i64 x2bcbk, .string x2bcbnm, .int .i64 x2bcbm, .int .i64 x2bcbtk, .slice x2bcbta x2bcbtn x2bcbtc, .slice x2bcbsa x2bcbsn x2bcbsc, .slice x2bcca x2bccn x2bccc, .slice x2bda x2bdn x2bdc, .slice x2ca x2cn x2cc, .int .i64 x2dk, .string x2dnm, .int .i64 x2dm, .int .i64 x2dtk, .slice x2dta x2dtn x2dtc, .slice x2dsa x2dsn x2dsc, .int .i64 x2ek, .string x2enm, .int .i64 x2em, .int .i64 x2etk, .slice x2eta x2etn x2etc, .slice x2esa x2esn x2esc]) := BoxAt.new _ _ _
  have hb := below_alloc w7 (.cells #[.slice x2bba x2bbn x2bbc, .int .i64 x2bcbk, .string x2bcbnm, .int .i64 x2bcbm, .int .i64 x2bcbtk, .slice x2bcbta x2bcbtn x2bcbtc, .slice x2bcbsa x2bcbsn x2bcbsc, .slice x2bcca x2bccn x2bccc, .slice x2bda x2bdn x2bdc, .slice x2ca x2cn x2cc, .int .i64 x2dk, .string x2dnm, .int .i64 x2dm, .int .i64 x2dtk, .slice x2dta x2dtn x2dtc, .slice x2dsa x2dsn x2dsc, .int .i64 x2ek, .string x2enm, .int .i64 x2em, .int .i64 x2etk, .slice x2eta x2etn x2etc, .slice x2esa x2esn x2esc] 52)
  replace B := Lib.hid (below_thru B.out (Nat.le_refl _) hb)
  replace HA1 := Lib.hid (HA1.out.below hb)
  replace HA2 := Lib.hid (HA2.out.below hb)
  replace XA1 := Lib.hid (XA1.out.below hb)
  replace XA2 := Lib.hid (XA2.out.below hb)
  replace HX1 := Lib.hid (HX1.out.below hb)
  replace XX1 := Lib.hid (XX1.out.below hb)
  replace HX2 := Lib.hid (HX2.out.below hb)
  clear hb
  go_upto_region 11 with (refine wpList_store_last rfl _ _ _ rfl w7 _ [.slice x2bba x2bbn x2bbc, .int .i64 x2bcbk, .string x2bcbnm, .int .i64 x2bcbm, .int .i64 x2bcbtk, .slice x2bcbta x2bcbtn x2bcbtc, .slice x2bcbsa x2bcbsn x2bcbsc, .slice x2bcca x2bccn x2bccc, .slice x2bda x2bdn x2bdc, .slice x2ca x2cn x2cc, .int .i64 x2dk, .string x2dnm, .int .i64 x2dm, .int .i64 x2dtk, .slice x2dta x2dtn x2dtc, .slice x2dsa x2dsn x2dsc, .int .i64 x2ek, .string x2enm, .int .i64 x2em, .int .i64 x2etk, .slice x2eta x2etn x2etc, .slice x2esa x2esn x2esc] rfl rfl (by kernel_rfl) (by simp only [List.size_toArray, List.length_cons, List.length_nil]) (by simp [Value.oneCell']) ?_)
  generalize (w7.alloc (.cells #[.slice x2bba x2bbn x2bbc, .int .i64 x2bcbk, .string x2bcbnm, .int .i64 x2bcbm, .int .i64 x2bcbtk, .slice x2bcbta x2bcbtn x2bcbtc, .slice x2bcbsa x2bcbsn x2bcbsc, .slice x2bcca x2bccn x2bccc, .slice x2bda x2bdn x2bdc, .slice x2ca x2cn x2cc, .int .i64 x2dk, .string x2dnm, .int .i64 x2dm, .int .i64 x2dtk, .slice x2dta x2dtn x2dtc, .slice x2dsa x2dsn x2dsc, .int .i64 x2ek, .string x2enm, .int .i64 x2em, .int .i64 x2etk, .slice x2eta x2etn x2etc, .slice x2esa x2esn x2esc] 52)) = wXX2 at XX2 B HA1 HA2 XA1 XA2 HX1 XX1 HX2 ⊢
  go_wp2_with (first | refine wpList_load_box rfl _ _ rfl (w.heap.size) [.slice a1bba a1bbn a1bbc, .int .i64 a1bcbk, .string a1bcbnm, .int .i64 a1bcbm, .int .i64 a1bcbtk, .slice a1bcbta a1bcbtn a1bcbtc, .slice a1bcbsa a1bcbsn a1bcbsc, .slice a1bcca a1bccn a1bccc, .slice a1bda a1bdn a1bdc, .slice a1ca a1cn a1cc, .int .i64 a1dk, .string a1dnm, .int .i64 a1dm, .int .i64 a1dtk, .slice a1dta a1dtn a1dtc, .slice a1dsa a1dsn a1dsc, .int .i64 a1ek, .string a1enm, .int .i64 a1em, .int .i64 a1etk, .slice a1eta a1etn a1etc, .slice a1esa a1esn a1esc] rfl XA1.out Try.underlying36 rfl (by kernel_rfl) ?_ | refine wpList_load_box rfl _ _ rfl (w.heap.size + 1) [.slice a2bba a2bbn a2bbc, .int .i64 a2bcbk, .string a2bcbnm, .int .i64 a2bcbm, .int .i64 a2bcbtk, .slice a2bcbta a2bcbtn a2bcbtc, .slice a2bcbsa a2bcbsn a2bcbsc, .slice a2bcca a2bccn a2bccc, .slice a2bda a2bdn a2bdc, .slice a2ca a2cn a2cc, .int .i64 a2dk, .string a2dnm, .int .i64 a2dm, .int .i64 a2dtk, .slice a2dta a2dtn a2dtc, .slice a2dsa a2dsn a2dsc, .int .i64 a2ek, .string a2enm, .int .i64 a2em, .int .i64 a2etk, .slice a2eta a2etn a2etc, .slice a2esa a2esn a2esc] rfl XA2.out Try.underlying36 rfl (by kernel_rfl) ?_ | refine wpList_load_box rfl _ _ rfl (w6.heap.size) [.slice x1bba x1bbn x1bbc, .int .i64 x1bcbk, .string x1bcbnm, .int .i64 x1bcbm, .int .i64 x1bcbtk, .slice x1bcbta x1bcbtn x1bcbtc, .slice x1bcbsa x1bcbsn x1bcbsc, .slice x1bcca x1bccn x1bccc, .slice x1bda x1bdn x1bdc, .slice x1ca x1cn x1cc, .int .i64 x1dk, .string x1dnm, .int .i64 x1dm, .int .i64 x1dtk, .slice x1dta x1dtn x1dtc, .slice x1dsa x1dsn x1dsc, .int .i64 x1ek, .string x1enm, .int .i64 x1em, .int .i64 x1etk, .slice x1eta x1etn x1etc, .slice x1esa x1esn x1esc] rfl XX1.out Try.underlying52 rfl (by kernel_rfl) ?_ | refine wpList_load_box rfl _ _ rfl (w7.heap.size) [.slice x2bba x2bbn x2bbc, .int .i64 x2bcbk, .string x2bcbnm, .int .i64 x2bcbm, .int .i64 x2bcbtk, .slice x2bcbta x2bcbtn x2bcbtc, .slice x2bcbsa x2bcbsn x2bcbsc, .slice x2bcca x2bccn x2bccc, .slice x2bda x2bdn x2bdc, .slice x2ca x2cn x2cc, .int .i64 x2dk, .string x2dnm, .int .i64 x2dm, .int .i64 x2dtk, .slice x2dta x2dtn x2dtc, .slice x2dsa x2dsn x2dsc, .int .i64 x2ek, .string x2enm, .int .i64 x2em, .int .i64 x2etk, .slice x2eta x2etn x2etc, .slice x2esa x2esn x2esc] rfl XX2.out Try.underlying52 rfl (by kernel_rfl) ?_)
  refine (implSes d _ _ t1 t2 _ HX1.out HX2.out hn1 hn2).mono ?_
  rintro e w8 ⟨rfl, hb⟩
  replace B := Lib.hid (below_thru B.out (Nat.le_refl _) hb)
  replace HA1 := Lib.hid (HA1.out.below hb)
  replace HA2 := Lib.hid (HA2.out.below hb)
  replace XA1 := Lib.hid (XA1.out.below hb)
  replace XA2 := Lib.hid (XA2.out.below hb)
  replace HX1 := Lib.hid (HX1.out.below hb)
  replace XX1 := Lib.hid (XX1.out.below hb)
  replace HX2 := Lib.hid (HX2.out.below hb)
  replace XX2 := Lib.hid (XX2.out.below hb)
  clear hb
  go_wp2_with (first | refine wpList_load_box rfl _ _ rfl (w.heap.size) [.slice a1bba a1bbn a1bbc, .int .i64 a1bcbk, .string a1bcbnm, .int .i64 a1bcbm, .int .i64 a1bcbtk, .slice a1bcbta a1bcbtn a1bcbtc, .slice a1bcbsa a1bcbsn a1bcbsc, .slice a1bcca a1bccn a1bccc, .slice a1bda a1bdn a1bdc, .slice a1ca a1cn a1cc, .int .i64 a1dk, .string a1dnm, .int .i64 a1dm, .int .i64 a1dtk, .slice a1dta a1dtn a1dtc, .slice a1dsa a1dsn a1dsc, .int .i64 a1ek, .string a1enm, .int .i64 a1em, .int .i64 a1etk, .slice a1eta a1etn a1etc, .slice a1esa a1esn a1esc] rfl XA1.out Try.underlying36 rfl (by kernel_rfl) ?_ | refine wpList_load_box rfl _ _ rfl (w.heap.size + 1) [.slice a2bba a2bbn a2bbc, .int .i64 a2bcbk, .string a2bcbnm, .int .i64 a2bcbm, .int .i64 a2bcbtk, .slice a2bcbta a2bcbtn a2bcbtc, .slice a2bcbsa a2bcbsn a2bcbsc, .slice a2bcca a2bccn a2bccc, .slice a2bda a2bdn a2bdc, .slice a2ca a2cn a2cc, .int .i64 a2dk, .string a2dnm, .int .i64 a2dm, .int .i64 a2dtk, .slice a2dta a2dtn a2dtc, .slice a2dsa a2dsn a2dsc, .int .i64 a2ek, .string a2enm, .int .i64 a2em, .int .i64 a2etk, .slice a2eta a2etn a2etc, .slice a2esa a2esn a2esc] rfl XA2.out Try.underlying36 rfl (by kernel_rfl) ?_ | refine wpList_load_box rfl _ _ rfl (w6.heap.size) [.slice x1bba x1bbn x1bbc, .int .i64 x1bcbk, .string x1bcbnm, .int .i64 x1bcbm, .int .i64 x1bcbtk, .slice x1bcbta x1bcbtn x1bcbtc, .slice x1bcbsa x1bcbsn x1bcbsc, .slice x1bcca x1bccn x1bccc, .slice x1bda x1bdn x1bdc, .slice x1ca x1cn x1cc, .int .i64 x1dk, .string x1dnm, .int .i64 x1dm, .int .i64 x1dtk, .slice x1dta x1dtn x1dtc, .slice x1dsa x1dsn x1dsc, .int .i64 x1ek, .string x1enm, .int .i64 x1em, .int .i64 x1etk, .slice x1eta x1etn x1etc, .slice x1esa x1esn x1esc] rfl XX1.out Try.underlying52 rfl (by kernel_rfl) ?_ | refine wpList_load_box rfl _ _ rfl (w7.heap.size) [.slice x2bba x2bbn x2bbc, .int .i64 x2bcbk, .string x2bcbnm, .int .i64 x2bcbm, .int .i64 x2bcbtk, .slice x2bcbta x2bcbtn x2bcbtc, .slice x2bcbsa x2bcbsn x2bcbsc, .slice x2bcca x2bccn x2bccc, .slice x2bda x2bdn x2bdc, .slice x2ca x2cn x2cc, .int .i64 x2dk, .string x2dnm, .int .i64 x2dm, .int .i64 x2dtk, .slice x2dta x2dtn x2dtc, .slice x2dsa x2dsn x2dsc, .int .i64 x2ek, .string x2enm, .int .i64 x2em, .int .i64 x2etk, .slice x2eta x2etn x2etc, .slice x2esa x2esn x2esc] rfl XX2.out Try.underlying52 rfl (by kernel_rfl) ?_)
  have hb := below_drew w8
  replace B := Lib.hid (below_thru B.out (Nat.le_refl _) hb)
  replace HA1 := Lib.hid (HA1.out.below hb)
  replace HA2 := Lib.hid (HA2.out.below hb)
  replace XA1 := Lib.hid (XA1.out.below hb)
  replace XA2 := Lib.hid (XA2.out.below hb)
  replace HX1 := Lib.hid (HX1.out.below hb)
  replace XX1 := Lib.hid (XX1.out.below hb)
  replace HX2 := Lib.hid (HX2.out.below hb)
  replace XX2 := Lib.hid (XX2.out.below hb)
  clear hb
  obtain ⟨S2, hS2⟩ : ∃ S : World → Prop, S = fun w' => BoxAt w' (w.heap.size) #[.slice a1bba a1bbn a1bbc, .int .i64 a1bcbk, .string a1bcbnm, .int .i64 a1bcbm, .int .i64 a1bcbtk, .slice a1bcbta a1bcbtn a1bcbtc, .slice a1bcbsa a1bcbsn a1bcbsc, .slice a1bcca a1bccn a1bccc, .slice a1bda a1bdn a1bdc, .slice a1ca a1cn a1cc, .int .i64 a1dk, .string a1dnm, .int .i64 a1dm, .int .i64 a1dtk, .slice a1dta a1dtn a1dtc, .slice a1dsa a1dsn a1dsc, .int .i64 a1ek, .string a1enm, .int .i64 a1em, .int .i64 a1etk, .slice a1eta a1etn a1etc, .slice a1esa a1esn a1esc] ∧ BoxAt w' (w.heap.size + 1) #[.slice a2bba a2bbn a2bbc, .int .i64 a2bcbk, .string a2bcbnm, .int .i64 a2bcbm, .int .i64 a2bcbtk, .slice a2bcbta a2bcbtn a2bcbtc, .slice a2bcbsa a2bcbsn a2bcbsc, .slice a2bcca a2bccn a2bccc, .slice a2bda a2bdn a2bdc, .slice a2ca a2cn a2cc, .int .i64 a2dk, .string a2dnm, .int .i64 a2dm, .int .i64 a2dtk, .slice a2dta a2dtn a2dtc, .slice a2dsa a2dsn a2dsc, .int .i64 a2ek, .string a2enm, .int .i64 a2em, .int .i64 a2etk, .slice a2eta a2etn a2etc, .slice a2esa a2esn a2esc] ∧ BoxAt w' (w6.heap.size) #[.slice x1bba x1bbn x1bbc, .int .i64 x1bcbk, .string x1bcbnm, .int .i64 x1bcbm, .int .i64 x1bcbtk, .slice x1bcbta x1bcbtn x1bcbtc, .slice x1bcbsa x1bcbsn x1bcbsc, .slice x1bcca x1bccn x1bccc, .slice x1bda x1bdn x1bdc, .slice x1ca x1cn x1cc, .int .i64 x1dk, .string x1dnm, .int .i64 x1dm, .int .i64 x1dtk, .slice x1dta x1dtn x1dtc, .slice x1dsa x1dsn x1dsc, .int .i64 x1ek, .string x1enm, .int .i64 x1em, .int .i64 x1etk, .slice x1eta x1etn x1etc, .slice x1esa x1esn x1esc] ∧ BoxAt w' (w7.heap.size) #[.slice x2bba x2bbn x2bbc, .int .i64 x2bcbk, .string x2bcbnm, .int .i64 x2bcbm, .int .i64 x2bcbtk, .slice x2bcbta x2bcbtn x2bcbtc, .slice x2bcbsa x2bcbsn x2bcbsc, .slice x2bcca x2bccn x2bccc, .slice x2bda x2bdn x2bdc, .slice x2ca x2cn x2cc, .int .i64 x2dk, .string x2dnm, .int .i64 x2dm, .int .i64 x2dtk, .slice x2dta x2dtn x2dtc, .slice x2dsa x2dsn x2dsc, .int .i64 x2ek, .string x2enm, .int .i64 x2em, .int .i64 x2etk, .slice x2eta x2etn x2etc, .slice x2esa x2esn x2esc] := ⟨_, rfl⟩
  have HS2 := Lib.hid hS2
  clear hS2
  refine wp_region_held_drew (S := S2) (by kernel_rfl) (by rw [HS2.out]; exact ⟨XA1.out, XA2.out, XX1.out, XX2.out⟩) (fun hHeld => ?_)
  refine wpAnyH_take (i := 0) (v := .agg #[.slice x1bba x1bbn x1bbc, .int .i64 x1bcbk, .string x1bcbnm, .int .i64 x1bcbm, .int .i64 x1bcbtk, .slice x1bcbta x1bcbtn x1bcbtc, .slice x1bcbsa x1bcbsn x1bcbsc, .slice x1bcca x1bccn x1bccc, .slice x1bda x1bdn x1bdc, .slice x1ca x1cn x1cc, .int .i64 x1dk, .string x1dnm, .int .i64 x1dm, .int .i64 x1dtk, .slice x1dta x1dtn x1dtc, .slice x1dsa x1dsn x1dsc, .int .i64 x1ek, .string x1enm, .int .i64 x1em, .int .i64 x1etk, .slice x1eta x1etn x1etc, .slice x1esa x1esn x1esc]) rfl (by kernel_rfl) (by kernel_rfl) (by kernel_rfl) (fun _ _ _ h => h) (yieldsIf_load_mid (by rfl) 52 _ rfl (w6.heap.size) 0 rfl [.slice x1bba x1bbn x1bbc, .int .i64 x1bcbk, .string x1bcbnm, .int .i64 x1bcbm, .int .i64 x1bcbtk, .slice x1bcbta x1bcbtn x1bcbtc, .slice x1bcbsa x1bcbsn x1bcbsc, .slice x1bcca x1bccn x1bccc, .slice x1bda x1bdn x1bdc, .slice x1ca x1cn x1cc, .int .i64 x1dk, .string x1dnm, .int .i64 x1dm, .int .i64 x1dtk, .slice x1dta x1dtn x1dtc, .slice x1dsa x1dsn x1dsc, .int .i64 x1ek, .string x1enm, .int .i64 x1em, .int .i64 x1etk, .slice x1eta x1etn x1etc, .slice x1esa x1esn x1esc] _ (fun w' h => by rw [HS2.out] at h; exact BoxAt.range h.2.2.1) Try.underlying52 rfl (by kernel_rfl)) hHeld ?_
  try simp only [Act.put]
  try simp only [List.setIfInBounds_toArray]
  try simp only [List.set_cons_succ]
  try simp only [List.set_cons_zero]
  refine wpAnyH_take (i := 1) (v := .agg #[.slice a1bba a1bbn a1bbc, .int .i64 a1bcbk, .string a1bcbnm, .int .i64 a1bcbm, .int .i64 a1bcbtk, .slice a1bcbta a1bcbtn a1bcbtc, .slice a1bcbsa a1bcbsn a1bcbsc, .slice a1bcca a1bccn a1bccc, .slice a1bda a1bdn a1bdc, .slice a1ca a1cn a1cc, .int .i64 a1dk, .string a1dnm, .int .i64 a1dm, .int .i64 a1dtk, .slice a1dta a1dtn a1dtc, .slice a1dsa a1dsn a1dsc, .int .i64 a1ek, .string a1enm, .int .i64 a1em, .int .i64 a1etk, .slice a1eta a1etn a1etc, .slice a1esa a1esn a1esc]) rfl (by kernel_rfl) (by kernel_rfl) (by kernel_rfl) (fun _ _ _ h => h) (yieldsIf_load_mid (by rfl) 36 _ rfl (w.heap.size) 0 rfl [.slice a1bba a1bbn a1bbc, .int .i64 a1bcbk, .string a1bcbnm, .int .i64 a1bcbm, .int .i64 a1bcbtk, .slice a1bcbta a1bcbtn a1bcbtc, .slice a1bcbsa a1bcbsn a1bcbsc, .slice a1bcca a1bccn a1bccc, .slice a1bda a1bdn a1bdc, .slice a1ca a1cn a1cc, .int .i64 a1dk, .string a1dnm, .int .i64 a1dm, .int .i64 a1dtk, .slice a1dta a1dtn a1dtc, .slice a1dsa a1dsn a1dsc, .int .i64 a1ek, .string a1enm, .int .i64 a1em, .int .i64 a1etk, .slice a1eta a1etn a1etc, .slice a1esa a1esn a1esc] _ (fun w' h => by rw [HS2.out] at h; exact BoxAt.range h.1) Try.underlying36 rfl (by kernel_rfl)) hHeld ?_
  try simp only [Act.put]
  try simp only [List.setIfInBounds_toArray]
  try simp only [List.set_cons_succ]
  try simp only [List.set_cons_zero]
  refine wpAnyH_ready (rs := [2]) (by kernel_rfl) (by simp) ?_
  refine AllReadyH.cons rfl (fun K hK => ?_) AllReadyH.nil
  go_simp
  go_at_call_of 13 (Value.agg #[Value.slice a1bba a1bbn a1bbc, Value.int IntKind.i64 a1bcbk, Value.string a1bcbnm, Value.int IntKind.i64 a1bcbm, Value.int IntKind.i64 a1bcbtk, Value.slice a1bcbta a1bcbtn a1bcbtc, Value.slice a1bcbsa a1bcbsn a1bcbsc, Value.slice a1bcca a1bccn a1bccc, Value.slice a1bda a1bdn a1bdc, Value.slice a1ca a1cn a1cc, Value.int IntKind.i64 a1dk, Value.string a1dnm, Value.int IntKind.i64 a1dm, Value.int IntKind.i64 a1dtk, Value.slice a1dta a1dtn a1dtc, Value.slice a1dsa a1dsn a1dsc, Value.int IntKind.i64 a1ek, Value.string a1enm, Value.int IntKind.i64 a1em, Value.int IntKind.i64 a1etk, Value.slice a1eta a1etn a1etc, Value.slice a1esa a1esn a1esc])
  refine (toSes d _ t1 _ hn1 HA1.out).mono ?_
  rintro e w9 ⟨y1, fp, rfl, ht, hf, hb⟩
  replace B := Lib.hid (below_thru B.out (Nat.le_refl _) hb)
  replace HA1 := Lib.hid (HA1.out.below hb)
  replace HA2 := Lib.hid (HA2.out.below hb)
  replace XA1 := Lib.hid (XA1.out.below hb)
  replace XA2 := Lib.hid (XA2.out.below hb)
  replace HX1 := Lib.hid (HX1.out.below hb)
  replace XX1 := Lib.hid (XX1.out.below hb)
  replace HX2 := Lib.hid (HX2.out.below hb)
  replace XX2 := Lib.hid (XX2.out.below hb)
  clear hb
  have Hy1 := Lib.hid ht.at_
  clear ht hf
  clear hHeld
  try go_wp2_with fail
  refine hK.out _ _ (by rw [HS2.out]; exact ⟨XA1.out, XA2.out, XX1.out, XX2.out⟩) (fun hHeld => ?_)
  clear hK K
  try simp only [Act.put]
  try simp only [List.setIfInBounds_toArray]
  try simp only [List.set_cons_succ]
  try simp only [List.set_cons_zero]
  refine wpAnyH_ready (rs := [3]) (by kernel_rfl) (by simp) ?_
  refine AllReadyH.cons rfl (fun K hK => ?_) AllReadyH.nil
  go_simp
  go_at_call 15
  refine (eqSes d _ y1 t1 _ HX1.out Hy1.out).mono ?_
  rintro e w10 ⟨rfl, hb⟩
  replace B := Lib.hid (below_thru B.out (Nat.le_refl _) hb)
  replace HA1 := Lib.hid (HA1.out.below hb)
  replace HA2 := Lib.hid (HA2.out.below hb)
  replace XA1 := Lib.hid (XA1.out.below hb)
  replace XA2 := Lib.hid (XA2.out.below hb)
  replace HX1 := Lib.hid (HX1.out.below hb)
  replace XX1 := Lib.hid (XX1.out.below hb)
  replace HX2 := Lib.hid (HX2.out.below hb)
  replace XX2 := Lib.hid (XX2.out.below hb)
  clear hb
  clear Hy1
  clear hHeld
  try go_wp2_with fail
  refine hK.out _ _ (by rw [HS2.out]; exact ⟨XA1.out, XA2.out, XX1.out, XX2.out⟩) (fun hHeld => ?_)
  clear hK K
  try simp only [Act.put]
  try simp only [List.setIfInBounds_toArray]
  try simp only [List.set_cons_succ]
  try simp only [List.set_cons_zero]
  refine wpAnyH_ready (rs := [4]) (by kernel_rfl) (by simp) ?_
  refine AllReadyH.cons rfl (fun K hK => ?_) AllReadyH.nil
  go_simp
  refine hK.out _ _ hHeld (fun hHeld => ?_)
  clear hK K
  try simp only [Act.put]
  try simp only [List.setIfInBounds_toArray]
  try simp only [List.set_cons_succ]
  try simp only [List.set_cons_zero]
  refine wpAnyH_done (by kernel_rfl) ?_ _
  try simp only [List.getElem_toArray]
  try simp only [List.getElem_cons_succ]
  try simp only [List.getElem_cons_zero]
  try simp only [Act.put]
  try simp only [List.setIfInBounds_toArray]
  try simp only [List.set_cons_succ]
  try simp only [List.set_cons_zero]
  clear HS2
  go_wp2_with (first | refine wpList_load_box rfl _ _ rfl (w.heap.size) [.slice a1bba a1bbn a1bbc, .int .i64 a1bcbk, .string a1bcbnm, .int .i64 a1bcbm, .int .i64 a1bcbtk, .slice a1bcbta a1bcbtn a1bcbtc, .slice a1bcbsa a1bcbsn a1bcbsc, .slice a1bcca a1bccn a1bccc, .slice a1bda a1bdn a1bdc, .slice a1ca a1cn a1cc, .int .i64 a1dk, .string a1dnm, .int .i64 a1dm, .int .i64 a1dtk, .slice a1dta a1dtn a1dtc, .slice a1dsa a1dsn a1dsc, .int .i64 a1ek, .string a1enm, .int .i64 a1em, .int .i64 a1etk, .slice a1eta a1etn a1etc, .slice a1esa a1esn a1esc] rfl XA1.out Try.underlying36 rfl (by kernel_rfl) ?_ | refine wpList_load_box rfl _ _ rfl (w.heap.size + 1) [.slice a2bba a2bbn a2bbc, .int .i64 a2bcbk, .string a2bcbnm, .int .i64 a2bcbm, .int .i64 a2bcbtk, .slice a2bcbta a2bcbtn a2bcbtc, .slice a2bcbsa a2bcbsn a2bcbsc, .slice a2bcca a2bccn a2bccc, .slice a2bda a2bdn a2bdc, .slice a2ca a2cn a2cc, .int .i64 a2dk, .string a2dnm, .int .i64 a2dm, .int .i64 a2dtk, .slice a2dta a2dtn a2dtc, .slice a2dsa a2dsn a2dsc, .int .i64 a2ek, .string a2enm, .int .i64 a2em, .int .i64 a2etk, .slice a2eta a2etn a2etc, .slice a2esa a2esn a2esc] rfl XA2.out Try.underlying36 rfl (by kernel_rfl) ?_ | refine wpList_load_box rfl _ _ rfl (w6.heap.size) [.slice x1bba x1bbn x1bbc, .int .i64 x1bcbk, .string x1bcbnm, .int .i64 x1bcbm, .int .i64 x1bcbtk, .slice x1bcbta x1bcbtn x1bcbtc, .slice x1bcbsa x1bcbsn x1bcbsc, .slice x1bcca x1bccn x1bccc, .slice x1bda x1bdn x1bdc, .slice x1ca x1cn x1cc, .int .i64 x1dk, .string x1dnm, .int .i64 x1dm, .int .i64 x1dtk, .slice x1dta x1dtn x1dtc, .slice x1dsa x1dsn x1dsc, .int .i64 x1ek, .string x1enm, .int .i64 x1em, .int .i64 x1etk, .slice x1eta x1etn x1etc, .slice x1esa x1esn x1esc] rfl XX1.out Try.underlying52 rfl (by kernel_rfl) ?_ | refine wpList_load_box rfl _ _ rfl (w7.heap.size) [.slice x2bba x2bbn x2bbc, .int .i64 x2bcbk, .string x2bcbnm, .int .i64 x2bcbm, .int .i64 x2bcbtk, .slice x2bcbta x2bcbtn x2bcbtc, .slice x2bcbsa x2bcbsn x2bcbsc, .slice x2bcca x2bccn x2bccc, .slice x2bda x2bdn x2bdc, .slice x2ca x2cn x2cc, .int .i64 x2dk, .string x2dnm, .int .i64 x2dm, .int .i64 x2dtk, .slice x2dta x2dtn x2dtc, .slice x2dsa x2dsn x2dsc, .int .i64 x2ek, .string x2enm, .int .i64 x2em, .int .i64 x2etk, .slice x2eta x2etn x2etc, .slice x2esa x2esn x2esc] rfl XX2.out Try.underlying52 rfl (by kernel_rfl) ?_)
  have hb := below_drew w10
  replace B := Lib.hid (below_thru B.out (Nat.le_refl _) hb)
  replace HA1 := Lib.hid (HA1.out.below hb)
  replace HA2 := Lib.hid (HA2.out.below hb)
  replace XA1 := Lib.hid (XA1.out.below hb)
  replace XA2 := Lib.hid (XA2.out.below hb)
  replace HX1 := Lib.hid (HX1.out.below hb)
  replace XX1 := Lib.hid (XX1.out.below hb)
  replace HX2 := Lib.hid (HX2.out.below hb)
  replace XX2 := Lib.hid (XX2.out.below hb)
  clear hb
  obtain ⟨S3, hS3⟩ : ∃ S : World → Prop, S = fun w' => BoxAt w' (w.heap.size) #[.slice a1bba a1bbn a1bbc, .int .i64 a1bcbk, .string a1bcbnm, .int .i64 a1bcbm, .int .i64 a1bcbtk, .slice a1bcbta a1bcbtn a1bcbtc, .slice a1bcbsa a1bcbsn a1bcbsc, .slice a1bcca a1bccn a1bccc, .slice a1bda a1bdn a1bdc, .slice a1ca a1cn a1cc, .int .i64 a1dk, .string a1dnm, .int .i64 a1dm, .int .i64 a1dtk, .slice a1dta a1dtn a1dtc, .slice a1dsa a1dsn a1dsc, .int .i64 a1ek, .string a1enm, .int .i64 a1em, .int .i64 a1etk, .slice a1eta a1etn a1etc, .slice a1esa a1esn a1esc] ∧ BoxAt w' (w.heap.size + 1) #[.slice a2bba a2bbn a2bbc, .int .i64 a2bcbk, .string a2bcbnm, .int .i64 a2bcbm, .int .i64 a2bcbtk, .slice a2bcbta a2bcbtn a2bcbtc, .slice a2bcbsa a2bcbsn a2bcbsc, .slice a2bcca a2bccn a2bccc, .slice a2bda a2bdn a2bdc, .slice a2ca a2cn a2cc, .int .i64 a2dk, .string a2dnm, .int .i64 a2dm, .int .i64 a2dtk, .slice a2dta a2dtn a2dtc, .slice a2dsa a2dsn a2dsc, .int .i64 a2ek, .string a2enm, .int .i64 a2em, .int .i64 a2etk, .slice a2eta a2etn a2etc, .slice a2esa a2esn a2esc] ∧ BoxAt w' (w6.heap.size) #[.slice x1bba x1bbn x1bbc, .int .i64 x1bcbk, .string x1bcbnm, .int .i64 x1bcbm, .int .i64 x1bcbtk, .slice x1bcbta x1bcbtn x1bcbtc, .slice x1bcbsa x1bcbsn x1bcbsc, .slice x1bcca x1bccn x1bccc, .slice x1bda x1bdn x1bdc, .slice x1ca x1cn x1cc, .int .i64 x1dk, .string x1dnm, .int .i64 x1dm, .int .i64 x1dtk, .slice x1dta x1dtn x1dtc, .slice x1dsa x1dsn x1dsc, .int .i64 x1ek, .string x1enm, .int .i64 x1em, .int .i64 x1etk, .slice x1eta x1etn x1etc, .slice x1esa x1esn x1esc] ∧ BoxAt w' (w7.heap.size) #[.slice x2bba x2bbn x2bbc, .int .i64 x2bcbk, .string x2bcbnm, .int .i64 x2bcbm, .int .i64 x2bcbtk, .slice x2bcbta x2bcbtn x2bcbtc, .slice x2bcbsa x2bcbsn x2bcbsc, .slice x2bcca x2bccn x2bccc, .slice x2bda x2bdn x2bdc, .slice x2ca x2cn x2cc, .int .i64 x2dk, .string x2dnm, .int .i64 x2dm, .int .i64 x2dtk, .slice x2dta x2dtn x2dtc, .slice x2dsa x2dsn x2dsc, .int .i64 x2ek, .string x2enm, .int .i64 x2em, .int .i64 x2etk, .slice x2eta x2etn x2etc, .slice x2esa x2esn x2esc] := ⟨_, rfl⟩
  have HS3 := Lib.hid hS3
  clear hS3
  refine wp_region_held_drew (S := S3) (by kernel_rfl) (by rw [HS3.out]; exact ⟨XA1.out, XA2.out, XX1.out, XX2.out⟩) (fun hHeld => ?_)
  refine wpAnyH_take (i := 0) (v := .agg #[.slice x2bba x2bbn x2bbc, .int .i64 x2bcbk, .string x2bcbnm, .int .i64 x2bcbm, .int .i64 x2bcbtk, .slice x2bcbta x2bcbtn x2bcbtc, .slice x2bcbsa x2bcbsn x2bcbsc, .slice x2bcca x2bccn x2bccc, .slice x2bda x2bdn x2bdc, .slice x2ca x2cn x2cc, .int .i64 x2dk, .string x2dnm, .int .i64 x2dm, .int .i64 x2dtk, .slice x2dta x2dtn x2dtc, .slice x2dsa x2dsn x2dsc, .int .i64 x2ek, .string x2enm, .int .i64 x2em, .int .i64 x2etk, .slice x2eta x2etn x2etc, .slice x2esa x2esn x2esc]) rfl (by kernel_rfl) (by kernel_rfl) (by kernel_rfl) (fun _ _ _ h => h) (yieldsIf_load_mid (by rfl) 52 _ rfl (w7.heap.size) 0 rfl [.slice x2bba x2bbn x2bbc, .int .i64 x2bcbk, .string x2bcbnm, .int .i64 x2bcbm, .int .i64 x2bcbtk, .slice x2bcbta x2bcbtn x2bcbtc, .slice x2bcbsa x2bcbsn x2bcbsc, .slice x2bcca x2bccn x2bccc, .slice x2bda x2bdn x2bdc, .slice x2ca x2cn x2cc, .int .i64 x2dk, .string x2dnm, .int .i64 x2dm, .int .i64 x2dtk, .slice x2dta x2dtn x2dtc, .slice x2dsa x2dsn x2dsc, .int .i64 x2ek, .string x2enm, .int .i64 x2em, .int .i64 x2etk, .slice x2eta x2etn x2etc, .slice x2esa x2esn x2esc] _ (fun w' h => by rw [HS3.out] at h; exact BoxAt.range h.2.2.2) Try.underlying52 rfl (by kernel_rfl)) hHeld ?_
  try simp only [Act.put]
  try simp only [List.setIfInBounds_toArray]
  try simp only [List.set_cons_succ]
  try simp only [List.set_cons_zero]
  refine wpAnyH_take (i := 1) (v := .agg #[.slice a2bba a2bbn a2bbc, .int .i64 a2bcbk, .string a2bcbnm, .int .i64 a2bcbm, .int .i64 a2bcbtk, .slice a2bcbta a2bcbtn a2bcbtc, .slice a2bcbsa a2bcbsn a2bcbsc, .slice a2bcca a2bccn a2bccc, .slice a2bda a2bdn a2bdc, .slice a2ca a2cn a2cc, .int .i64 a2dk, .string a2dnm, .int .i64 a2dm, .int .i64 a2dtk, .slice a2dta a2dtn a2dtc, .slice a2dsa a2dsn a2dsc, .int .i64 a2ek, .string a2enm, .int .i64 a2em, .int .i64 a2etk, .slice a2eta a2etn a2etc, .slice a2esa a2esn a2esc]) rfl (by kernel_rfl) (by kernel_rfl) (by kernel_rfl) (fun _ _ _ h => h) (yieldsIf_load_mid (by rfl) 36 _ rfl (w.heap.size + 1) 0 rfl [.slice a2bba a2bbn a2bbc, .int .i64 a2bcbk, .string a2bcbnm, .int .i64 a2bcbm, .int .i64 a2bcbtk, .slice a2bcbta a2bcbtn a2bcbtc, .slice a2bcbsa a2bcbsn a2bcbsc, .slice a2bcca a2bccn a2bccc, .slice a2bda a2bdn a2bdc, .slice a2ca a2cn a2cc, .int .i64 a2dk, .string a2dnm, .int .i64 a2dm, .int .i64 a2dtk, .slice a2dta a2dtn a2dtc, .slice a2dsa a2dsn a2dsc, .int .i64 a2ek, .string a2enm, .int .i64 a2em, .int .i64 a2etk, .slice a2eta a2etn a2etc, .slice a2esa a2esn a2esc] _ (fun w' h => by rw [HS3.out] at h; exact BoxAt.range h.2.1) Try.underlying36 rfl (by kernel_rfl)) hHeld ?_
  try simp only [Act.put]
  try simp only [List.setIfInBounds_toArray]
  try simp only [List.set_cons_succ]
  try simp only [List.set_cons_zero]
  refine wpAnyH_ready (rs := [2]) (by kernel_rfl) (by simp) ?_
  refine AllReadyH.cons rfl (fun K hK => ?_) AllReadyH.nil
  go_simp
  go_at_call_of 13 (Value.agg #[Value.slice a2bba a2bbn a2bbc, Value.int IntKind.i64 a2bcbk, Value.string a2bcbnm, Value.int IntKind.i64 a2bcbm, Value.int IntKind.i64 a2bcbtk, Value.slice a2bcbta a2bcbtn a2bcbtc, Value.slice a2bcbsa a2bcbsn a2bcbsc, Value.slice a2bcca a2bccn a2bccc, Value.slice a2bda a2bdn a2bdc, Value.slice a2ca a2cn a2cc, Value.int IntKind.i64 a2dk, Value.string a2dnm, Value.int IntKind.i64 a2dm, Value.int IntKind.i64 a2dtk, Value.slice a2dta a2dtn a2dtc, Value.slice a2dsa a2dsn a2dsc, Value.int IntKind.i64 a2ek, Value.string a2enm, Value.int IntKind.i64 a2em, Value.int IntKind.i64 a2etk, Value.slice a2eta a2etn a2etc, Value.slice a2esa a2esn a2esc])
  refine (toSes d _ t2 _ hn2 HA2.out).mono ?_
  rintro e w11 ⟨y2, fp, rfl, ht, hf, hb⟩
  replace B := Lib.hid (below_thru B.out (Nat.le_refl _) hb)
  replace HA1 := Lib.hid (HA1.out.below hb)
  replace HA2 := Lib.hid (HA2.out.below hb)
  replace XA1 := Lib.hid (XA1.out.below hb)
  replace XA2 := Lib.hid (XA2.out.below hb)
  replace HX1 := Lib.hid (HX1.out.below hb)
  replace XX1 := Lib.hid (XX1.out.below hb)
  replace HX2 := Lib.hid (HX2.out.below hb)
  replace XX2 := Lib.hid (XX2.out.below hb)
  clear hb
  have Hy2 := Lib.hid ht.at_
  clear ht hf
  clear hHeld
  try go_wp2_with fail
  refine hK.out _ _ (by rw [HS3.out]; exact ⟨XA1.out, XA2.out, XX1.out, XX2.out⟩) (fun hHeld => ?_)
  clear hK K
  try simp only [Act.put]
  try simp only [List.setIfInBounds_toArray]
  try simp only [List.set_cons_succ]
  try simp only [List.set_cons_zero]
  refine wpAnyH_ready (rs := [3]) (by kernel_rfl) (by simp) ?_
  refine AllReadyH.cons rfl (fun K hK => ?_) AllReadyH.nil
  go_simp
  go_at_call 15
  refine (eqSes d _ y2 t2 _ HX2.out Hy2.out).mono ?_
  rintro e w12 ⟨rfl, hb⟩
  replace B := Lib.hid (below_thru B.out (Nat.le_refl _) hb)
  replace HA1 := Lib.hid (HA1.out.below hb)
  replace HA2 := Lib.hid (HA2.out.below hb)
  replace XA1 := Lib.hid (XA1.out.below hb)
  replace XA2 := Lib.hid (XA2.out.below hb)
  replace HX1 := Lib.hid (HX1.out.below hb)
  replace XX1 := Lib.hid (XX1.out.below hb)
  replace HX2 := Lib.hid (HX2.out.below hb)
  replace XX2 := Lib.hid (XX2.out.below hb)
  clear hb
  clear Hy2
  clear hHeld
  try go_wp2_with fail
  refine hK.out _ _ (by rw [HS3.out]; exact ⟨XA1.out, XA2.out, XX1.out, XX2.out⟩) (fun hHeld => ?_)
  clear hK K
  try simp only [Act.put]
  try simp only [List.setIfInBounds_toArray]
  try simp only [List.set_cons_succ]
  try simp only [List.set_cons_zero]
  refine wpAnyH_ready (rs := [4]) (by kernel_rfl) (by simp) ?_
  refine AllReadyH.cons rfl (fun K hK => ?_) AllReadyH.nil
  go_simp
  refine hK.out _ _ hHeld (fun hHeld => ?_)
  clear hK K
  try simp only [Act.put]
  try simp only [List.setIfInBounds_toArray]
  try simp only [List.set_cons_succ]
  try simp only [List.set_cons_zero]
  refine wpAnyH_done (by kernel_rfl) ?_ _
  try simp only [List.getElem_toArray]
  try simp only [List.getElem_cons_succ]
  try simp only [List.getElem_cons_zero]
  try simp only [Act.put]
  try simp only [List.setIfInBounds_toArray]
  try simp only [List.set_cons_succ]
  try simp only [List.set_cons_zero]
  clear HS3
  go_wp2_with (first | refine wpList_load_box rfl _ _ rfl (w.heap.size) [.slice a1bba a1bbn a1bbc, .int .i64 a1bcbk, .string a1bcbnm, .int .i64 a1bcbm, .int .i64 a1bcbtk, .slice a1bcbta a1bcbtn a1bcbtc, .slice a1bcbsa a1bcbsn a1bcbsc, .slice a1bcca a1bccn a1bccc, .slice a1bda a1bdn a1bdc, .slice a1ca a1cn a1cc, .int .i64 a1dk, .string a1dnm, .int .i64 a1dm, .int .i64 a1dtk, .slice a1dta a1dtn a1dtc, .slice a1dsa a1dsn a1dsc, .int .i64 a1ek, .string a1enm, .int .i64 a1em, .int .i64 a1etk, .slice a1eta a1etn a1etc, .slice a1esa a1esn a1esc] rfl XA1.out Try.underlying36 rfl (by kernel_rfl) ?_ | refine wpList_load_box rfl _ _ rfl (w.heap.size + 1) [.slice a2bba a2bbn a2bbc, .int .i64 a2bcbk, .string a2bcbnm, .int .i64 a2bcbm, .int .i64 a2bcbtk, .slice a2bcbta a2bcbtn a2bcbtc, .slice a2bcbsa a2bcbsn a2bcbsc, .slice a2bcca a2bccn a2bccc, .slice a2bda a2bdn a2bdc, .slice a2ca a2cn a2cc, .int .i64 a2dk, .string a2dnm, .int .i64 a2dm, .int .i64 a2dtk, .slice a2dta a2dtn a2dtc, .slice a2dsa a2dsn a2dsc, .int .i64 a2ek, .string a2enm, .int .i64 a2em, .int .i64 a2etk, .slice a2eta a2etn a2etc, .slice a2esa a2esn a2esc] rfl XA2.out Try.underlying36 rfl (by kernel_rfl) ?_ | refine wpList_load_box rfl _ _ rfl (w6.heap.size) [.slice x1bba x1bbn x1bbc, .int .i64 x1bcbk, .string x1bcbnm, .int .i64 x1bcbm, .int .i64 x1bcbtk, .slice x1bcbta x1bcbtn x1bcbtc, .slice x1bcbsa x1bcbsn x1bcbsc, .slice x1bcca x1bccn x1bccc, .slice x1bda x1bdn x1bdc, .slice x1ca x1cn x1cc, .int .i64 x1dk, .string x1dnm, .int .i64 x1dm, .int .i64 x1dtk, .slice x1dta x1dtn x1dtc, .slice x1dsa x1dsn x1dsc, .int .i64 x1ek, .string x1enm, .int .i64 x1em, .int .i64 x1etk, .slice x1eta x1etn x1etc, .slice x1esa x1esn x1esc] rfl XX1.out Try.underlying52 rfl (by kernel_rfl) ?_ | refine wpList_load_box rfl _ _ rfl (w7.heap.size) [.slice x2bba x2bbn x2bbc, .int .i64 x2bcbk, .string x2bcbnm, .int .i64 x2bcbm, .int .i64 x2bcbtk, .slice x2bcbta x2bcbtn x2bcbtc, .slice x2bcbsa x2bcbsn x2bcbsc, .slice x2bcca x2bccn x2bccc, .slice x2bda x2bdn x2bdc, .slice x2ca x2cn x2cc, .int .i64 x2dk, .string x2dnm, .int .i64 x2dm, .int .i64 x2dtk, .slice x2dta x2dtn x2dtc, .slice x2dsa x2dsn x2dsc, .int .i64 x2ek, .string x2enm, .int .i64 x2em, .int .i64 x2etk, .slice x2eta x2etn x2etc, .slice x2esa x2esn x2esc] rfl XX2.out Try.underlying52 rfl (by kernel_rfl) ?_)
  go_ret
  exact ⟨rfl, B.out⟩
end Go.Proofs.Ytmmnjdhmankieaa
namespace Go.Proofs.Ytmmnjdhmankieaa.ExactEqualSession
open Go.ChangeShapes Go.WideShapes Go.ChangeAt Go.RowKit Go.WideMaps Go.WideElems
open Go.ChangeMaps (setBlock shut_map_nil open_string shut_string keptBut_setBlock frozen?_setBlock heap_setBlock_same)
set_option maxRecDepth 100000 in
theorem contract (H : Type) (enc : TypeId × Value → H) (W : World) (base : Nat) (args : Array Value) (ds gs : List (DataW H)) (before : List MemPlace)
    (hval : ∀ (j : Nat) t v, Try.f3.params[j]? = some t → args[j]? = some v → Value.okWide Try.prog W .any base t v)
    (hW : DataW.Whole enc Try.prog Try.f3.params.toList Rows.fnExactEqualSessionSpec.vars false W args.toList ds gs before) 
    (_hsz : (DataW.weightsEach Try.prog (Try.f3.params.toList ++ (OpenSpec.ofChange Rows.fnExactEqualSessionSpec).bare.plain.varTypes Try.prog) (ds ++ gs)).all (· ≤ reachBytes) = true) (_hsh : W.ShapedOpen Try.prog) :
    Calls Try.prog 3 args W fun e W' => ∃ v, e = .returned v ∧ Rows.fnExactEqualSessionSpec.post enc Try.prog Try.f3 false true false false W args v W' := by
  have hW' := hW
  obtain ⟨p, q, hA0, hV, rfl, hfz, hnd⟩ := hW
  have hA : DataW.TrodAll enc Try.prog W 0 (fun _ => true) true Try.f3.params.toList args.toList ds p := hA0
  rw [Try.params3] at hA hval
  obtain ⟨v0, vs0, d0, ds0, p0, q0, hargs, rfl, rfl, h0, r0⟩ := trodAll_cons hA
  obtain ⟨v1, vs1, d1, ds1, p1, q1, rfl, rfl, rfl, h1, r1⟩ := trodAll_cons r0
  obtain ⟨rfl, rfl, rfl⟩ := trodAll_nil r1
  obtain rfl : args = #[v0, v1] := by cases args; simp_all
  obtain ⟨rfl, rfl⟩ := trodVars_none hV
  obtain ⟨e0, t0, ht0⟩ := ses_of_arg (hval 0 36 v0 rfl rfl) h0
  obtain ⟨e1, t1, ht1⟩ := ses_of_arg (hval 1 36 v1 rfl rfl) h1
  have hd0 := ht0.mono (Nat.le_max_left e0 e1)
  have hd1 := ht1.mono (Nat.le_max_right e0 e1)
  refine Calls.mono (equalSessionWalk (max e0 e1) v0 t0 v1 t1 W hd0 hd1) fun e W' ⟨he, hg⟩ => ?_
  subst he
  exact ⟨_, rfl, Law.law_post hW' rfl (by kernel_rfl) Try.underlying4 (by kernel_rfl) (by kernel_rfl) (fun _ => rfl) hg⟩
set_option maxRecDepth 100000 in
theorem laid_met (os : Os) : laidMet Try.prog Rows.fnExactEqualSessionRow.laid (((World.holding Try.prog os ⟨#[], #[], []⟩)).forCall (fun _ _ => 0) ⟨#[], #[.agg #[.slice none 0 0, .int .i64 0, .string ⟨#[]⟩, .int .i64 0, .int .i64 0, .slice none 0 0, .slice none 0 0, .slice none 0 0, .slice none 0 0, .slice none 0 0, .int .i64 0, .string ⟨#[]⟩, .int .i64 0, .int .i64 0, .slice none 0 0, .slice none 0 0, .int .i64 0, .string ⟨#[]⟩, .int .i64 0, .int .i64 0, .slice none 0 0, .slice none 0 0], .agg #[.slice none 0 0, .int .i64 0, .string ⟨#[]⟩, .int .i64 0, .int .i64 0, .slice none 0 0, .slice none 0 0, .slice none 0 0, .slice none 0 0, .slice none 0 0, .int .i64 0, .string ⟨#[]⟩, .int .i64 0, .int .i64 0, .slice none 0 0, .slice none 0 0, .int .i64 0, .string ⟨#[]⟩, .int .i64 0, .int .i64 0, .slice none 0 0, .slice none 0 0]], []⟩).memory :=
  laidMet_of_run' 8 (by kernel_rfl) (by kernel_rfl)
theorem reads (os : Os) {H : Type} (enc : TypeId × Value → H) : ∃ places, DataW.whole enc Try.prog (((World.holding Try.prog os ⟨#[], #[], []⟩)).forCall (fun _ _ => 0) ⟨#[], #[.agg #[.slice none 0 0, .int .i64 0, .string ⟨#[]⟩, .int .i64 0, .int .i64 0, .slice none 0 0, .slice none 0 0, .slice none 0 0, .slice none 0 0, .slice none 0 0, .int .i64 0, .string ⟨#[]⟩, .int .i64 0, .int .i64 0, .slice none 0 0, .slice none 0 0, .int .i64 0, .string ⟨#[]⟩, .int .i64 0, .int .i64 0, .slice none 0 0, .slice none 0 0], .agg #[.slice none 0 0, .int .i64 0, .string ⟨#[]⟩, .int .i64 0, .int .i64 0, .slice none 0 0, .slice none 0 0, .slice none 0 0, .slice none 0 0, .slice none 0 0, .int .i64 0, .string ⟨#[]⟩, .int .i64 0, .int .i64 0, .slice none 0 0, .slice none 0 0, .int .i64 0, .string ⟨#[]⟩, .int .i64 0, .int .i64 0, .slice none 0 0, .slice none 0 0]], []⟩).memory Try.f3.params.toList Rows.fnExactEqualSessionSpec.vars false (#[.agg #[.slice none 0 0, .int .i64 0, .string ⟨#[]⟩, .int .i64 0, .int .i64 0, .slice none 0 0, .slice none 0 0, .slice none 0 0, .slice none 0 0, .slice none 0 0, .int .i64 0, .string ⟨#[]⟩, .int .i64 0, .int .i64 0, .slice none 0 0, .slice none 0 0, .int .i64 0, .string ⟨#[]⟩, .int .i64 0, .int .i64 0, .slice none 0 0, .slice none 0 0], .agg #[.slice none 0 0, .int .i64 0, .string ⟨#[]⟩, .int .i64 0, .int .i64 0, .slice none 0 0, .slice none 0 0, .slice none 0 0, .slice none 0 0, .slice none 0 0, .int .i64 0, .string ⟨#[]⟩, .int .i64 0, .int .i64 0, .slice none 0 0, .slice none 0 0, .int .i64 0, .string ⟨#[]⟩, .int .i64 0, .int .i64 0, .slice none 0 0, .slice none 0 0]] : Array Value).toList 8 = some ([.agg [.agg [.nil, .agg [.agg [.lit (.int .i64 0), .lit (.string []), .lit (.int .i64 0), .agg [.lit (.int .i64 0), .nil], .nil], .nil], .nil], .nil, .agg [.lit (.int .i64 0), .lit (.string []), .lit (.int .i64 0), .agg [.lit (.int .i64 0), .nil], .nil], .agg [.lit (.int .i64 0), .lit (.string []), .lit (.int .i64 0), .agg [.lit (.int .i64 0), .nil], .nil]], .agg [.agg [.nil, .agg [.agg [.lit (.int .i64 0), .lit (.string []), .lit (.int .i64 0), .agg [.lit (.int .i64 0), .nil], .nil], .nil], .nil], .nil, .agg [.lit (.int .i64 0), .lit (.string []), .lit (.int .i64 0), .agg [.lit (.int .i64 0), .nil], .nil], .agg [.lit (.int .i64 0), .lit (.string []), .lit (.int .i64 0), .agg [.lit (.int .i64 0), .nil], .nil]]], [], places) :=
  ⟨[], by kernel_rfl⟩
set_option maxRecDepth 100000 in
theorem lifted (os : Os) (started : os.Started) (H : Type) (enc : TypeId × Value → H) (F : Stop.Interp) :
    ReturnsInHanded {} Try.checked os 3 .any ((OpenSpec.ofChange Rows.fnExactEqualSessionSpec).preRow enc Try.prog Try.f3 Rows.fnExactEqualSessionRow.domain false Rows.fnExactEqualSessionRow.laid) (((OpenSpec.ofChange Rows.fnExactEqualSessionSpec).at F).post enc Try.prog Try.f3 false true false false) := by
  obtain ⟨places, hx⟩ := reads os enc
  refine returnsInHanded_of_row (C := Try.checked) (s := OpenSpec.ofChange Rows.fnExactEqualSessionSpec) (by kernel_rfl) started (by kernel_rfl) Try.func3
    (witness_row_atRef (enc := enc) (C := Try.checked) false (World.holding Try.prog os ⟨#[], #[], []⟩) #[.agg #[.slice none 0 0, .int .i64 0, .string ⟨#[]⟩, .int .i64 0, .int .i64 0, .slice none 0 0, .slice none 0 0, .slice none 0 0, .slice none 0 0, .slice none 0 0, .int .i64 0, .string ⟨#[]⟩, .int .i64 0, .int .i64 0, .slice none 0 0, .slice none 0 0, .int .i64 0, .string ⟨#[]⟩, .int .i64 0, .int .i64 0, .slice none 0 0, .slice none 0 0], .agg #[.slice none 0 0, .int .i64 0, .string ⟨#[]⟩, .int .i64 0, .int .i64 0, .slice none 0 0, .slice none 0 0, .slice none 0 0, .slice none 0 0, .slice none 0 0, .int .i64 0, .string ⟨#[]⟩, .int .i64 0, .int .i64 0, .slice none 0 0, .slice none 0 0, .int .i64 0, .string ⟨#[]⟩, .int .i64 0, .int .i64 0, .slice none 0 0, .slice none 0 0]] rfl (by kernel_rfl) (by kernel_rfl) (by kernel_rfl)
      (OpenSpec.preRow_of_cond 8 hx (by kernel_rfl) (fun k hk => by cases hk) (by kernel_rfl) (laid_met os))) ?_
  intro W base args ds gs before hval hW _ _ hsz _ hsh _
  exact contract H enc W base args ds gs before hval hW hsz hsh
theorem said : Rows.FnExactEqualSessionSaid :=
  OpenClaim.holds_of_cond 3 Try.f3 rfl rfl rfl rfl rfl rfl rfl ⟨rfl, rfl, rfl, rfl, rfl⟩ rfl rfl rfl rfl rfl (by kernel_rfl) Try.func3 (by kernel_rfl)
    (of_decide_eq_true (by kernel_rfl)) (by unfold Func.isWrapper; first | (rw [if_pos (by decide +kernel)]; kernel_rfl) | (rw [if_neg (by decide +kernel)]; exact ⟨rfl, rfl⟩))
    (fun os started H enc _ F => by rw [OpenClaim.pre_eq_preRow]; exact lifted os started H enc F)
end Go.Proofs.Ytmmnjdhmankieaa.ExactEqualSession
