/-
  Proved: laws.toSession copies the value into new memory of its own; it leaves the memory that was there as it was.
-/
import Derived.Test.YtmmnjdhmankieaaAtSes
import Derived.Test.YtmmnjdhmankieaaBox22
import Derived.Test.YtmmnjdhmankieaaLoadBox
import Derived.Test.YtmmnjdhmankieaaToHis
import Derived.Test.YtmmnjdhmankieaaToTsts
import Derived.Test.YtmmnjdhmankieaaRecBase
import Derived.Deep.DeepCutAuto
namespace Go.Proofs.Ytmmnjdhmankieaa
open Go.RowKit

set_option maxRecDepth 100000 in
set_option maxHeartbeats 4000000 in
theorem toSes (d : Nat) (v : Value) (x : Ses) (w : World) (hn : x.bulk ≤ 1048576) (h : SesAt w d v x) :
    Calls Try.prog 13 #[v] w fun e w' => ∃ v' fp, e = .returned v' ∧ SesIn w' d v' x w.heap.size w'.heap.size ∧ fp = ([] : List Nat) ∧ Below w.heap.size w w' := by
  cases x with
  | mk x1 x2 x3 x4 =>
    obtain ⟨pbba, pbbn, pbbc, pbcbk, pbcbnm, pbcbm, pbcbtk, pbcbta, pbcbtn, pbcbtc, pbcbsa, pbcbsn, pbcbsc, pbcca, pbccn, pbccc, pbda, pbdn, pbdc, pca, pcn, pcc, pdk, pdnm, pdm, pdtk, pdta, pdtn, pdtc, pdsa, pdsn, pdsc, pek, penm, pem, petk, peta, petn, petc, pesa, pesn, pesc, rfl, h1, h2, h3, h4⟩ := h
    dsimp only at h1 h2 h3 h4 ⊢
    have hbk : (Ses.mk x1 x2 x3 x4).bulk = x1.bulk + Tst.bulks x2 + x3.bulk + x4.bulk := rfl
    have hn1 : x1.bulk ≤ 1048576 := by omega
    have hn2 : Tst.bulks x2 ≤ 1048576 := by omega
    have hn3 : x3.bulk ≤ 1048576 := by omega
    have hn4 : x4.bulk ≤ 1048576 := by omega
    clear hn hbk
    have HP1 := Lib.hid h1
    have HP2 := Lib.hid h2
    have HP3 := Lib.hid h3
    have HP4 := Lib.hid h4
    have B : Hid (Below w.heap.size w (((w.alloc (.cells #[.slice pbba pbbn pbbc, .int .i64 pbcbk, .string pbcbnm, .int .i64 pbcbm, .int .i64 pbcbtk, .slice pbcbta pbcbtn pbcbtc, .slice pbcbsa pbcbsn pbcbsc, .slice pbcca pbccn pbccc, .slice pbda pbdn pbdc, .slice pca pcn pcc, .int .i64 pdk, .string pdnm, .int .i64 pdm, .int .i64 pdtk, .slice pdta pdtn pdtc, .slice pdsa pdsn pdsc, .int .i64 pek, .string penm, .int .i64 pem, .int .i64 petk, .slice peta petn petc, .slice pesa pesn pesc] 36)).alloc (.cells #[.slice none 0 0, .int .i64 0, .string ⟨#[]⟩, .int .i64 0, .int .i64 0, .slice none 0 0, .slice none 0 0, .slice none 0 0, .slice none 0 0, .slice none 0 0, .int .i64 0, .string ⟨#[]⟩, .int .i64 0, .int .i64 0, .slice none 0 0, .slice none 0 0, .int .i64 0, .string ⟨#[]⟩, .int .i64 0, .int .i64 0, .slice none 0 0, .slice none 0 0] 52)).alloc (.cells #[.slice none 0 0, .int .i64 0, .string ⟨#[]⟩, .int .i64 0, .int .i64 0, .slice none 0 0, .slice none 0 0, .slice none 0 0, .slice none 0 0, .slice none 0 0, .int .i64 0, .string ⟨#[]⟩, .int .i64 0, .int .i64 0, .slice none 0 0, .slice none 0 0, .int .i64 0, .string ⟨#[]⟩, .int .i64 0, .int .i64 0, .slice none 0 0, .slice none 0 0] 52))) := (((Below.refl _ _).alloc (Nat.le_refl _) _).alloc (by simp) _).alloc (by simp; omega) _
    have XA : Hid (BoxAt (((w.alloc (.cells #[.slice pbba pbbn pbbc, .int .i64 pbcbk, .string pbcbnm, .int .i64 pbcbm, .int .i64 pbcbtk, .slice pbcbta pbcbtn pbcbtc, .slice pbcbsa pbcbsn pbcbsc, .slice pbcca pbccn pbccc, .slice pbda pbdn pbdc, .slice pca pcn pcc, .int .i64 pdk, .string pdnm, .int .i64 pdm, .int .i64 pdtk, .slice pdta pdtn pdtc, .slice pdsa pdsn pdsc, .int .i64 pek, .string penm, .int .i64 pem, .int .i64 petk, .slice peta petn petc, .slice pesa pesn pesc] 36)).alloc (.cells #[.slice none 0 0, .int .i64 0, .string ⟨#[]⟩, .int .i64 0, .int .i64 0, .slice none 0 0, .slice none 0 0, .slice none 0 0, .slice none 0 0, .slice none 0 0, .int .i64 0, .string ⟨#[]⟩, .int .i64 0, .int .i64 0, .slice none 0 0, .slice none 0 0, .int .i64 0, .string ⟨#[]⟩, .int .i64 0, .int .i64 0, .slice none 0 0, .slice none 0 0] 52)).alloc (.cells #[.slice none 0 0, .int .i64 0, .string ⟨#[]⟩, .int .i64 0, .int .i64 0, .slice none 0 0, .slice none 0 0, .slice none 0 0, .slice none 0 0, .slice none 0 0, .int .i64 0, .string ⟨#[]⟩, .int .i64 0, .int .i64 0, .slice none 0 0, .slice none 0 0, .int .i64 0, .string ⟨#[]⟩, .int .i64 0, .int .i64 0, .slice none 0 0, .slice none 0 0] 52)) w.heap.size #[.slice pbba pbbn pbbc, .int .i64 pbcbk, .string pbcbnm, .int .i64 pbcbm, .int .i64 pbcbtk, .slice pbcbta pbcbtn pbcbtc, .slice pbcbsa pbcbsn pbcbsc, .slice pbcca pbccn pbccc, .slice pbda pbdn pbdc, .slice pca pcn pcc, .int .i64 pdk, .string pdnm, .int .i64 pdm, .int .i64 pdtk, .slice pdta pdtn pdtc, .slice pdsa pdsn pdsc, .int .i64 pek, .string penm, .int .i64 pem, .int .i64 petk, .slice peta petn petc, .slice pesa pesn pesc]) := ((BoxAt.new _ _ _).below (below_alloc _ _)).below (below_alloc _ _)
    have XR : Hid (BoxAt (((w.alloc (.cells #[.slice pbba pbbn pbbc, .int .i64 pbcbk, .string pbcbnm, .int .i64 pbcbm, .int .i64 pbcbtk, .slice pbcbta pbcbtn pbcbtc, .slice pbcbsa pbcbsn pbcbsc, .slice pbcca pbccn pbccc, .slice pbda pbdn pbdc, .slice pca pcn pcc, .int .i64 pdk, .string pdnm, .int .i64 pdm, .int .i64 pdtk, .slice pdta pdtn pdtc, .slice pdsa pdsn pdsc, .int .i64 pek, .string penm, .int .i64 pem, .int .i64 petk, .slice peta petn petc, .slice pesa pesn pesc] 36)).alloc (.cells #[.slice none 0 0, .int .i64 0, .string ⟨#[]⟩, .int .i64 0, .int .i64 0, .slice none 0 0, .slice none 0 0, .slice none 0 0, .slice none 0 0, .slice none 0 0, .int .i64 0, .string ⟨#[]⟩, .int .i64 0, .int .i64 0, .slice none 0 0, .slice none 0 0, .int .i64 0, .string ⟨#[]⟩, .int .i64 0, .int .i64 0, .slice none 0 0, .slice none 0 0] 52)).alloc (.cells #[.slice none 0 0, .int .i64 0, .string ⟨#[]⟩, .int .i64 0, .int .i64 0, .slice none 0 0, .slice none 0 0, .slice none 0 0, .slice none 0 0, .slice none 0 0, .int .i64 0, .string ⟨#[]⟩, .int .i64 0, .int .i64 0, .slice none 0 0, .slice none 0 0, .int .i64 0, .string ⟨#[]⟩, .int .i64 0, .int .i64 0, .slice none 0 0, .slice none 0 0] 52)) (w.heap.size + 1) #[.slice none 0 0, .int .i64 0, .string ⟨#[]⟩, .int .i64 0, .int .i64 0, .slice none 0 0, .slice none 0 0, .slice none 0 0, .slice none 0 0, .slice none 0 0, .int .i64 0, .string ⟨#[]⟩, .int .i64 0, .int .i64 0, .slice none 0 0, .slice none 0 0, .int .i64 0, .string ⟨#[]⟩, .int .i64 0, .int .i64 0, .slice none 0 0, .slice none 0 0]) := (box_at (BoxAt.new _ _ _) (by simp)).below (below_alloc _ _)
    have XO : Hid (BoxAt (((w.alloc (.cells #[.slice pbba pbbn pbbc, .int .i64 pbcbk, .string pbcbnm, .int .i64 pbcbm, .int .i64 pbcbtk, .slice pbcbta pbcbtn pbcbtc, .slice pbcbsa pbcbsn pbcbsc, .slice pbcca pbccn pbccc, .slice pbda pbdn pbdc, .slice pca pcn pcc, .int .i64 pdk, .string pdnm, .int .i64 pdm, .int .i64 pdtk, .slice pdta pdtn pdtc, .slice pdsa pdsn pdsc, .int .i64 pek, .string penm, .int .i64 pem, .int .i64 petk, .slice peta petn petc, .slice pesa pesn pesc] 36)).alloc (.cells #[.slice none 0 0, .int .i64 0, .string ⟨#[]⟩, .int .i64 0, .int .i64 0, .slice none 0 0, .slice none 0 0, .slice none 0 0, .slice none 0 0, .slice none 0 0, .int .i64 0, .string ⟨#[]⟩, .int .i64 0, .int .i64 0, .slice none 0 0, .slice none 0 0, .int .i64 0, .string ⟨#[]⟩, .int .i64 0, .int .i64 0, .slice none 0 0, .slice none 0 0] 52)).alloc (.cells #[.slice none 0 0, .int .i64 0, .string ⟨#[]⟩, .int .i64 0, .int .i64 0, .slice none 0 0, .slice none 0 0, .slice none 0 0, .slice none 0 0, .slice none 0 0, .int .i64 0, .string ⟨#[]⟩, .int .i64 0, .int .i64 0, .slice none 0 0, .slice none 0 0, .int .i64 0, .string ⟨#[]⟩, .int .i64 0, .int .i64 0, .slice none 0 0, .slice none 0 0] 52)) (w.heap.size + 1 + 1) #[.slice none 0 0, .int .i64 0, .string ⟨#[]⟩, .int .i64 0, .int .i64 0, .slice none 0 0, .slice none 0 0, .slice none 0 0, .slice none 0 0, .slice none 0 0, .int .i64 0, .string ⟨#[]⟩, .int .i64 0, .int .i64 0, .slice none 0 0, .slice none 0 0, .int .i64 0, .string ⟨#[]⟩, .int .i64 0, .int .i64 0, .slice none 0 0, .slice none 0 0]) := box_at (BoxAt.new _ _ _) (by simp)
    have FR : Hid (FreeAt (((w.alloc (.cells #[.slice pbba pbbn pbbc, .int .i64 pbcbk, .string pbcbnm, .int .i64 pbcbm, .int .i64 pbcbtk, .slice pbcbta pbcbtn pbcbtc, .slice pbcbsa pbcbsn pbcbsc, .slice pbcca pbccn pbccc, .slice pbda pbdn pbdc, .slice pca pcn pcc, .int .i64 pdk, .string pdnm, .int .i64 pdm, .int .i64 pdtk, .slice pdta pdtn pdtc, .slice pdsa pdsn pdsc, .int .i64 pek, .string penm, .int .i64 pem, .int .i64 petk, .slice peta petn petc, .slice pesa pesn pesc] 36)).alloc (.cells #[.slice none 0 0, .int .i64 0, .string ⟨#[]⟩, .int .i64 0, .int .i64 0, .slice none 0 0, .slice none 0 0, .slice none 0 0, .slice none 0 0, .slice none 0 0, .int .i64 0, .string ⟨#[]⟩, .int .i64 0, .int .i64 0, .slice none 0 0, .slice none 0 0, .int .i64 0, .string ⟨#[]⟩, .int .i64 0, .int .i64 0, .slice none 0 0, .slice none 0 0] 52)).alloc (.cells #[.slice none 0 0, .int .i64 0, .string ⟨#[]⟩, .int .i64 0, .int .i64 0, .slice none 0 0, .slice none 0 0, .slice none 0 0, .slice none 0 0, .slice none 0 0, .int .i64 0, .string ⟨#[]⟩, .int .i64 0, .int .i64 0, .slice none 0 0, .slice none 0 0, .int .i64 0, .string ⟨#[]⟩, .int .i64 0, .int .i64 0, .slice none 0 0, .slice none 0 0] 52)) (w.heap.size + 1)) := (free_at (FreeAt.new _ _ _) (by simp)).below (below_alloc _ _)
    have FO : Hid (FreeAt (((w.alloc (.cells #[.slice pbba pbbn pbbc, .int .i64 pbcbk, .string pbcbnm, .int .i64 pbcbm, .int .i64 pbcbtk, .slice pbcbta pbcbtn pbcbtc, .slice pbcbsa pbcbsn pbcbsc, .slice pbcca pbccn pbccc, .slice pbda pbdn pbdc, .slice pca pcn pcc, .int .i64 pdk, .string pdnm, .int .i64 pdm, .int .i64 pdtk, .slice pdta pdtn pdtc, .slice pdsa pdsn pdsc, .int .i64 pek, .string penm, .int .i64 pem, .int .i64 petk, .slice peta petn petc, .slice pesa pesn pesc] 36)).alloc (.cells #[.slice none 0 0, .int .i64 0, .string ⟨#[]⟩, .int .i64 0, .int .i64 0, .slice none 0 0, .slice none 0 0, .slice none 0 0, .slice none 0 0, .slice none 0 0, .int .i64 0, .string ⟨#[]⟩, .int .i64 0, .int .i64 0, .slice none 0 0, .slice none 0 0, .int .i64 0, .string ⟨#[]⟩, .int .i64 0, .int .i64 0, .slice none 0 0, .slice none 0 0] 52)).alloc (.cells #[.slice none 0 0, .int .i64 0, .string ⟨#[]⟩, .int .i64 0, .int .i64 0, .slice none 0 0, .slice none 0 0, .slice none 0 0, .slice none 0 0, .slice none 0 0, .int .i64 0, .string ⟨#[]⟩, .int .i64 0, .int .i64 0, .slice none 0 0, .slice none 0 0, .int .i64 0, .string ⟨#[]⟩, .int .i64 0, .int .i64 0, .slice none 0 0, .slice none 0 0] 52)) (w.heap.size + 1 + 1)) := free_at (FreeAt.new _ _ _) (by simp)
    have hz0 : (((w.alloc (.cells #[.slice pbba pbbn pbbc, .int .i64 pbcbk, .string pbcbnm, .int .i64 pbcbm, .int .i64 pbcbtk, .slice pbcbta pbcbtn pbcbtc, .slice pbcbsa pbcbsn pbcbsc, .slice pbcca pbccn pbccc, .slice pbda pbdn pbdc, .slice pca pcn pcc, .int .i64 pdk, .string pdnm, .int .i64 pdm, .int .i64 pdtk, .slice pdta pdtn pdtc, .slice pdsa pdsn pdsc, .int .i64 pek, .string penm, .int .i64 pem, .int .i64 petk, .slice peta petn petc, .slice pesa pesn pesc] 36)).alloc (.cells #[.slice none 0 0, .int .i64 0, .string ⟨#[]⟩, .int .i64 0, .int .i64 0, .slice none 0 0, .slice none 0 0, .slice none 0 0, .slice none 0 0, .slice none 0 0, .int .i64 0, .string ⟨#[]⟩, .int .i64 0, .int .i64 0, .slice none 0 0, .slice none 0 0, .int .i64 0, .string ⟨#[]⟩, .int .i64 0, .int .i64 0, .slice none 0 0, .slice none 0 0] 52)).alloc (.cells #[.slice none 0 0, .int .i64 0, .string ⟨#[]⟩, .int .i64 0, .int .i64 0, .slice none 0 0, .slice none 0 0, .slice none 0 0, .slice none 0 0, .slice none 0 0, .int .i64 0, .string ⟨#[]⟩, .int .i64 0, .int .i64 0, .slice none 0 0, .slice none 0 0, .int .i64 0, .string ⟨#[]⟩, .int .i64 0, .int .i64 0, .slice none 0 0, .slice none 0 0] 52)).heap.size = w.heap.size + 3 := by simp
    clear h1 h2 h3 h4
    go_enter Try.func13, Try.ntmps13
    go_wp2_with fail
    have H1 := Lib.hid (HP1.out.below B.out)
    generalize (((w.alloc (.cells #[.slice pbba pbbn pbbc, .int .i64 pbcbk, .string pbcbnm, .int .i64 pbcbm, .int .i64 pbcbtk, .slice pbcbta pbcbtn pbcbtc, .slice pbcbsa pbcbsn pbcbsc, .slice pbcca pbccn pbccc, .slice pbda pbdn pbdc, .slice pca pcn pcc, .int .i64 pdk, .string pdnm, .int .i64 pdm, .int .i64 pdtk, .slice pdta pdtn pdtc, .slice pdsa pdsn pdsc, .int .i64 pek, .string penm, .int .i64 pem, .int .i64 petk, .slice peta petn petc, .slice pesa pesn pesc] 36)).alloc (.cells #[.slice none 0 0, .int .i64 0, .string ⟨#[]⟩, .int .i64 0, .int .i64 0, .slice none 0 0, .slice none 0 0, .slice none 0 0, .slice none 0 0, .slice none 0 0, .int .i64 0, .string ⟨#[]⟩, .int .i64 0, .int .i64 0, .slice none 0 0, .slice none 0 0, .int .i64 0, .string ⟨#[]⟩, .int .i64 0, .int .i64 0, .slice none 0 0, .slice none 0 0] 52)).alloc (.cells #[.slice none 0 0, .int .i64 0, .string ⟨#[]⟩, .int .i64 0, .int .i64 0, .slice none 0 0, .slice none 0 0, .slice none 0 0, .slice none 0 0, .slice none 0 0, .int .i64 0, .string ⟨#[]⟩, .int .i64 0, .int .i64 0, .slice none 0 0, .slice none 0 0, .int .i64 0, .string ⟨#[]⟩, .int .i64 0, .int .i64 0, .slice none 0 0, .slice none 0 0] 52)) = y0 at B H1 XA XR XO FR FO hz0 ⊢
    refine (toHis d _ x1 y0 hn1 H1.out).mono ?_
    rintro e w1 ⟨v1, fp, rfl, ht, hf, hb⟩
    have hz1 := hb.size
    rw [hz0] at hz1
    obtain ⟨gbba, gbbn, gbbc, gbcbk, gbcbnm, gbcbm, gbcbtk, gbcbta, gbcbtn, gbcbtc, gbcbsa, gbcbsn, gbcbsc, gbcca, gbccn, gbccc, gbda, gbdn, gbdc, rfl⟩ := his_parts ht.at_
    have G1 : Hid (Wi (w.heap.size + 3) w1.heap.size (HisIn w1 d (.agg #[.slice gbba gbbn gbbc, .int .i64 gbcbk, .string gbcbnm, .int .i64 gbcbm, .int .i64 gbcbtk, .slice gbcbta gbcbtn gbcbtc, .slice gbcbsa gbcbsn gbcbsc, .slice gbcca gbccn gbccc, .slice gbda gbdn gbdc]) x1)) := ⟨_, _, (by omega), Nat.le_refl _, ht⟩
    replace B := Lib.hid (below_thru B.out (Nat.le_refl _) hb)
    replace XA := Lib.hid (XA.out.below hb)
    replace XR := Lib.hid (XR.out.below hb)
    replace XO := Lib.hid (XO.out.below hb)
    replace FR := Lib.hid (FR.out.below hb)
    replace FO := Lib.hid (FO.out.below hb)
    clear ht hf hb H1
    have B' : Hid (Below w.heap.size w (((((((((w1.setCell ⟨w.heap.size + 1 + 1, 0, none⟩ (.slice gbba gbbn gbbc)).setCell ⟨w.heap.size + 1 + 1, 1, none⟩ (.int .i64 gbcbk)).setCell ⟨w.heap.size + 1 + 1, 2, none⟩ (.string gbcbnm)).setCell ⟨w.heap.size + 1 + 1, 3, none⟩ (.int .i64 gbcbm)).setCell ⟨w.heap.size + 1 + 1, 4, none⟩ (.int .i64 gbcbtk)).setCell ⟨w.heap.size + 1 + 1, 5, none⟩ (.slice gbcbta gbcbtn gbcbtc)).setCell ⟨w.heap.size + 1 + 1, 6, none⟩ (.slice gbcbsa gbcbsn gbcbsc)).setCell ⟨w.heap.size + 1 + 1, 7, none⟩ (.slice gbcca gbccn gbccc)).setCell ⟨w.heap.size + 1 + 1, 8, none⟩ (.slice gbda gbdn gbdc))) := Below.storeAll (p := w.heap.size + 1 + 1) [.slice gbba gbbn gbbc, .int .i64 gbcbk, .string gbcbnm, .int .i64 gbcbm, .int .i64 gbcbtk, .slice gbcbta gbcbtn gbcbtc, .slice gbcbsa gbcbsn gbcbsc, .slice gbcca gbccn gbccc, .slice gbda gbdn gbdc] 0 _ B.out (by omega)
    have KP : Hid (Rest w.heap.size (w.heap.size + 3) w1 (((((((((w1.setCell ⟨w.heap.size + 1 + 1, 0, none⟩ (.slice gbba gbbn gbbc)).setCell ⟨w.heap.size + 1 + 1, 1, none⟩ (.int .i64 gbcbk)).setCell ⟨w.heap.size + 1 + 1, 2, none⟩ (.string gbcbnm)).setCell ⟨w.heap.size + 1 + 1, 3, none⟩ (.int .i64 gbcbm)).setCell ⟨w.heap.size + 1 + 1, 4, none⟩ (.int .i64 gbcbtk)).setCell ⟨w.heap.size + 1 + 1, 5, none⟩ (.slice gbcbta gbcbtn gbcbtc)).setCell ⟨w.heap.size + 1 + 1, 6, none⟩ (.slice gbcbsa gbcbsn gbcbsc)).setCell ⟨w.heap.size + 1 + 1, 7, none⟩ (.slice gbcca gbccn gbccc)).setCell ⟨w.heap.size + 1 + 1, 8, none⟩ (.slice gbda gbdn gbdc))) := Rest.storeAll (p := w.heap.size + 1 + 1) [.slice gbba gbbn gbbc, .int .i64 gbcbk, .string gbcbnm, .int .i64 gbcbm, .int .i64 gbcbtk, .slice gbcbta gbcbtn gbcbtc, .slice gbcbsa gbcbsn gbcbsc, .slice gbcca gbccn gbccc, .slice gbda gbdn gbdc] 0 _ (Rest.refl _ _ _) (by omega) (by omega)
    have XO' : Hid (BoxAt (((((((((w1.setCell ⟨w.heap.size + 1 + 1, 0, none⟩ (.slice gbba gbbn gbbc)).setCell ⟨w.heap.size + 1 + 1, 1, none⟩ (.int .i64 gbcbk)).setCell ⟨w.heap.size + 1 + 1, 2, none⟩ (.string gbcbnm)).setCell ⟨w.heap.size + 1 + 1, 3, none⟩ (.int .i64 gbcbm)).setCell ⟨w.heap.size + 1 + 1, 4, none⟩ (.int .i64 gbcbtk)).setCell ⟨w.heap.size + 1 + 1, 5, none⟩ (.slice gbcbta gbcbtn gbcbtc)).setCell ⟨w.heap.size + 1 + 1, 6, none⟩ (.slice gbcbsa gbcbsn gbcbsc)).setCell ⟨w.heap.size + 1 + 1, 7, none⟩ (.slice gbcca gbccn gbccc)).setCell ⟨w.heap.size + 1 + 1, 8, none⟩ (.slice gbda gbdn gbdc)) (w.heap.size + 1 + 1) #[.slice gbba gbbn gbbc, .int .i64 gbcbk, .string gbcbnm, .int .i64 gbcbm, .int .i64 gbcbtk, .slice gbcbta gbcbtn gbcbtc, .slice gbcbsa gbcbsn gbcbsc, .slice gbcca gbccn gbccc, .slice gbda gbdn gbdc, .slice none 0 0, .int .i64 0, .string ⟨#[]⟩, .int .i64 0, .int .i64 0, .slice none 0 0, .slice none 0 0, .int .i64 0, .string ⟨#[]⟩, .int .i64 0, .int .i64 0, .slice none 0 0, .slice none 0 0]) := st_0_9 XO.out
    have XR' : Hid (BoxAt (((((((((w1.setCell ⟨w.heap.size + 1 + 1, 0, none⟩ (.slice gbba gbbn gbbc)).setCell ⟨w.heap.size + 1 + 1, 1, none⟩ (.int .i64 gbcbk)).setCell ⟨w.heap.size + 1 + 1, 2, none⟩ (.string gbcbnm)).setCell ⟨w.heap.size + 1 + 1, 3, none⟩ (.int .i64 gbcbm)).setCell ⟨w.heap.size + 1 + 1, 4, none⟩ (.int .i64 gbcbtk)).setCell ⟨w.heap.size + 1 + 1, 5, none⟩ (.slice gbcbta gbcbtn gbcbtc)).setCell ⟨w.heap.size + 1 + 1, 6, none⟩ (.slice gbcbsa gbcbsn gbcbsc)).setCell ⟨w.heap.size + 1 + 1, 7, none⟩ (.slice gbcca gbccn gbccc)).setCell ⟨w.heap.size + 1 + 1, 8, none⟩ (.slice gbda gbdn gbdc)) (w.heap.size + 1) #[.slice none 0 0, .int .i64 0, .string ⟨#[]⟩, .int .i64 0, .int .i64 0, .slice none 0 0, .slice none 0 0, .slice none 0 0, .slice none 0 0, .slice none 0 0, .int .i64 0, .string ⟨#[]⟩, .int .i64 0, .int .i64 0, .slice none 0 0, .slice none 0 0, .int .i64 0, .string ⟨#[]⟩, .int .i64 0, .int .i64 0, .slice none 0 0, .slice none 0 0]) := BoxAt.besideAll (p := w.heap.size + 1 + 1) [.slice gbba gbbn gbbc, .int .i64 gbcbk, .string gbcbnm, .int .i64 gbcbm, .int .i64 gbcbtk, .slice gbcbta gbcbtn gbcbtc, .slice gbcbsa gbcbsn gbcbsc, .slice gbcca gbccn gbccc, .slice gbda gbdn gbdc] 0 _ XR.out (by omega)
    have XA' : Hid (BoxAt (((((((((w1.setCell ⟨w.heap.size + 1 + 1, 0, none⟩ (.slice gbba gbbn gbbc)).setCell ⟨w.heap.size + 1 + 1, 1, none⟩ (.int .i64 gbcbk)).setCell ⟨w.heap.size + 1 + 1, 2, none⟩ (.string gbcbnm)).setCell ⟨w.heap.size + 1 + 1, 3, none⟩ (.int .i64 gbcbm)).setCell ⟨w.heap.size + 1 + 1, 4, none⟩ (.int .i64 gbcbtk)).setCell ⟨w.heap.size + 1 + 1, 5, none⟩ (.slice gbcbta gbcbtn gbcbtc)).setCell ⟨w.heap.size + 1 + 1, 6, none⟩ (.slice gbcbsa gbcbsn gbcbsc)).setCell ⟨w.heap.size + 1 + 1, 7, none⟩ (.slice gbcca gbccn gbccc)).setCell ⟨w.heap.size + 1 + 1, 8, none⟩ (.slice gbda gbdn gbdc)) w.heap.size #[.slice pbba pbbn pbbc, .int .i64 pbcbk, .string pbcbnm, .int .i64 pbcbm, .int .i64 pbcbtk, .slice pbcbta pbcbtn pbcbtc, .slice pbcbsa pbcbsn pbcbsc, .slice pbcca pbccn pbccc, .slice pbda pbdn pbdc, .slice pca pcn pcc, .int .i64 pdk, .string pdnm, .int .i64 pdm, .int .i64 pdtk, .slice pdta pdtn pdtc, .slice pdsa pdsn pdsc, .int .i64 pek, .string penm, .int .i64 pem, .int .i64 petk, .slice peta petn petc, .slice pesa pesn pesc]) := BoxAt.besideAll (p := w.heap.size + 1 + 1) [.slice gbba gbbn gbbc, .int .i64 gbcbk, .string gbcbnm, .int .i64 gbcbm, .int .i64 gbcbtk, .slice gbcbta gbcbtn gbcbtc, .slice gbcbsa gbcbsn gbcbsc, .slice gbcca gbccn gbccc, .slice gbda gbdn gbdc] 0 _ XA.out (by omega)
    have FR' : Hid (FreeAt (((((((((w1.setCell ⟨w.heap.size + 1 + 1, 0, none⟩ (.slice gbba gbbn gbbc)).setCell ⟨w.heap.size + 1 + 1, 1, none⟩ (.int .i64 gbcbk)).setCell ⟨w.heap.size + 1 + 1, 2, none⟩ (.string gbcbnm)).setCell ⟨w.heap.size + 1 + 1, 3, none⟩ (.int .i64 gbcbm)).setCell ⟨w.heap.size + 1 + 1, 4, none⟩ (.int .i64 gbcbtk)).setCell ⟨w.heap.size + 1 + 1, 5, none⟩ (.slice gbcbta gbcbtn gbcbtc)).setCell ⟨w.heap.size + 1 + 1, 6, none⟩ (.slice gbcbsa gbcbsn gbcbsc)).setCell ⟨w.heap.size + 1 + 1, 7, none⟩ (.slice gbcca gbccn gbccc)).setCell ⟨w.heap.size + 1 + 1, 8, none⟩ (.slice gbda gbdn gbdc)) (w.heap.size + 1)) := FreeAt.storeAll (p := w.heap.size + 1 + 1) [.slice gbba gbbn gbbc, .int .i64 gbcbk, .string gbcbnm, .int .i64 gbcbm, .int .i64 gbcbtk, .slice gbcbta gbcbtn gbcbtc, .slice gbcbsa gbcbsn gbcbsc, .slice gbcca gbccn gbccc, .slice gbda gbdn gbdc] 0 _ FR.out
    have FO' : Hid (FreeAt (((((((((w1.setCell ⟨w.heap.size + 1 + 1, 0, none⟩ (.slice gbba gbbn gbbc)).setCell ⟨w.heap.size + 1 + 1, 1, none⟩ (.int .i64 gbcbk)).setCell ⟨w.heap.size + 1 + 1, 2, none⟩ (.string gbcbnm)).setCell ⟨w.heap.size + 1 + 1, 3, none⟩ (.int .i64 gbcbm)).setCell ⟨w.heap.size + 1 + 1, 4, none⟩ (.int .i64 gbcbtk)).setCell ⟨w.heap.size + 1 + 1, 5, none⟩ (.slice gbcbta gbcbtn gbcbtc)).setCell ⟨w.heap.size + 1 + 1, 6, none⟩ (.slice gbcbsa gbcbsn gbcbsc)).setCell ⟨w.heap.size + 1 + 1, 7, none⟩ (.slice gbcca gbccn gbccc)).setCell ⟨w.heap.size + 1 + 1, 8, none⟩ (.slice gbda gbdn gbdc)) (w.heap.size + 1 + 1)) := FreeAt.storeAll (p := w.heap.size + 1 + 1) [.slice gbba gbbn gbbc, .int .i64 gbcbk, .string gbcbnm, .int .i64 gbcbm, .int .i64 gbcbtk, .slice gbcbta gbcbtn gbcbtc, .slice gbcbsa gbcbsn gbcbsc, .slice gbcca gbccn gbccc, .slice gbda gbdn gbdc] 0 _ FO.out
    have hs1 : (((((((((w1.setCell ⟨w.heap.size + 1 + 1, 0, none⟩ (.slice gbba gbbn gbbc)).setCell ⟨w.heap.size + 1 + 1, 1, none⟩ (.int .i64 gbcbk)).setCell ⟨w.heap.size + 1 + 1, 2, none⟩ (.string gbcbnm)).setCell ⟨w.heap.size + 1 + 1, 3, none⟩ (.int .i64 gbcbm)).setCell ⟨w.heap.size + 1 + 1, 4, none⟩ (.int .i64 gbcbtk)).setCell ⟨w.heap.size + 1 + 1, 5, none⟩ (.slice gbcbta gbcbtn gbcbtc)).setCell ⟨w.heap.size + 1 + 1, 6, none⟩ (.slice gbcbsa gbcbsn gbcbsc)).setCell ⟨w.heap.size + 1 + 1, 7, none⟩ (.slice gbcca gbccn gbccc)).setCell ⟨w.heap.size + 1 + 1, 8, none⟩ (.slice gbda gbdn gbdc)).heap.size = w1.heap.size := size_storeAll (p := w.heap.size + 1 + 1) [.slice gbba gbbn gbbc, .int .i64 gbcbk, .string gbcbnm, .int .i64 gbcbm, .int .i64 gbcbtk, .slice gbcbta gbcbtn gbcbtc, .slice gbcbsa gbcbsn gbcbsc, .slice gbcca gbccn gbccc, .slice gbda gbdn gbdc] 0 w1
    replace G1 := Lib.hid (G1.out.map fun _ _ ha _ h => h.rest KP.out (Or.inr ha))
    have H2 := Lib.hid (HP2.out.below B'.out)
    have o0 := XO.out.2 0
    have u0 := FO.out.2 0
    have o1 := XO.out.2 1
    have u1 := FO.out.2 1
    have o2 := XO.out.2 2
    have u2 := FO.out.2 2
    have o3 := XO.out.2 3
    have u3 := FO.out.2 3
    have o4 := XO.out.2 4
    have u4 := FO.out.2 4
    have o5 := XO.out.2 5
    have u5 := FO.out.2 5
    have o6 := XO.out.2 6
    have u6 := FO.out.2 6
    have o7 := XO.out.2 7
    have u7 := FO.out.2 7
    have o8 := XO.out.2 8
    have u8 := FO.out.2 8
    have a9 := XA.out.2 9
    have a9' := XA'.out.2 9
    go_wp2_with fail
    clear o0 u0 o1 u1 o2 u2 o3 u3 o4 u4 o5 u5 o6 u6 o7 u7 o8 u8 a9 a9' XA XR XO FR FO B KP
    generalize (((((((((w1.setCell ⟨w.heap.size + 1 + 1, 0, none⟩ (.slice gbba gbbn gbbc)).setCell ⟨w.heap.size + 1 + 1, 1, none⟩ (.int .i64 gbcbk)).setCell ⟨w.heap.size + 1 + 1, 2, none⟩ (.string gbcbnm)).setCell ⟨w.heap.size + 1 + 1, 3, none⟩ (.int .i64 gbcbm)).setCell ⟨w.heap.size + 1 + 1, 4, none⟩ (.int .i64 gbcbtk)).setCell ⟨w.heap.size + 1 + 1, 5, none⟩ (.slice gbcbta gbcbtn gbcbtc)).setCell ⟨w.heap.size + 1 + 1, 6, none⟩ (.slice gbcbsa gbcbsn gbcbsc)).setCell ⟨w.heap.size + 1 + 1, 7, none⟩ (.slice gbcca gbccn gbccc)).setCell ⟨w.heap.size + 1 + 1, 8, none⟩ (.slice gbda gbdn gbdc)) = y1 at B' XO' XR' XA' FR' FO' G1 H2 hs1 ⊢
    have B := B'; clear B'
    have XA := XA'; clear XA'
    have XR := XR'; clear XR'
    have XO := XO'; clear XO'
    have FR := FR'; clear FR'
    have FO := FO'; clear FO'
    refine (toTsts d _ x2 y1 hn2 H2.out).mono ?_
    rintro e w2 ⟨v2, fp, rfl, ht, hf, hb⟩
    have hz2 := hb.size
    rw [hs1] at hz2
    obtain ⟨gca, gcn, gcc, rfl⟩ := tsts_parts ht.at_
    have G2 : Hid (Wi (w.heap.size + 3) w2.heap.size (TstsIn w2 d (.slice gca gcn gcc) x2)) := ⟨_, _, (by omega), Nat.le_refl _, ht⟩
    replace B := Lib.hid (below_thru B.out (Nat.le_refl _) hb)
    replace XA := Lib.hid (XA.out.below hb)
    replace XR := Lib.hid (XR.out.below hb)
    replace XO := Lib.hid (XO.out.below hb)
    replace FR := Lib.hid (FR.out.below hb)
    replace FO := Lib.hid (FO.out.below hb)
    replace G1 := Lib.hid (G1.out.map fun _ _ _ _ h => h.below hb)
    clear ht hf hb H2
    have B' : Hid (Below w.heap.size w (w2.setCell ⟨w.heap.size + 1 + 1, 9, none⟩ (.slice gca gcn gcc))) := Below.storeAll (p := w.heap.size + 1 + 1) [.slice gca gcn gcc] 9 _ B.out (by omega)
    have KP : Hid (Rest w.heap.size (w.heap.size + 3) w2 (w2.setCell ⟨w.heap.size + 1 + 1, 9, none⟩ (.slice gca gcn gcc))) := Rest.storeAll (p := w.heap.size + 1 + 1) [.slice gca gcn gcc] 9 _ (Rest.refl _ _ _) (by omega) (by omega)
    have XO' : Hid (BoxAt (w2.setCell ⟨w.heap.size + 1 + 1, 9, none⟩ (.slice gca gcn gcc)) (w.heap.size + 1 + 1) #[.slice gbba gbbn gbbc, .int .i64 gbcbk, .string gbcbnm, .int .i64 gbcbm, .int .i64 gbcbtk, .slice gbcbta gbcbtn gbcbtc, .slice gbcbsa gbcbsn gbcbsc, .slice gbcca gbccn gbccc, .slice gbda gbdn gbdc, .slice gca gcn gcc, .int .i64 0, .string ⟨#[]⟩, .int .i64 0, .int .i64 0, .slice none 0 0, .slice none 0 0, .int .i64 0, .string ⟨#[]⟩, .int .i64 0, .int .i64 0, .slice none 0 0, .slice none 0 0]) := st_9_1 XO.out
    have XR' : Hid (BoxAt (w2.setCell ⟨w.heap.size + 1 + 1, 9, none⟩ (.slice gca gcn gcc)) (w.heap.size + 1) #[.slice none 0 0, .int .i64 0, .string ⟨#[]⟩, .int .i64 0, .int .i64 0, .slice none 0 0, .slice none 0 0, .slice none 0 0, .slice none 0 0, .slice none 0 0, .int .i64 0, .string ⟨#[]⟩, .int .i64 0, .int .i64 0, .slice none 0 0, .slice none 0 0, .int .i64 0, .string ⟨#[]⟩, .int .i64 0, .int .i64 0, .slice none 0 0, .slice none 0 0]) := BoxAt.besideAll (p := w.heap.size + 1 + 1) [.slice gca gcn gcc] 9 _ XR.out (by omega)
    have XA' : Hid (BoxAt (w2.setCell ⟨w.heap.size + 1 + 1, 9, none⟩ (.slice gca gcn gcc)) w.heap.size #[.slice pbba pbbn pbbc, .int .i64 pbcbk, .string pbcbnm, .int .i64 pbcbm, .int .i64 pbcbtk, .slice pbcbta pbcbtn pbcbtc, .slice pbcbsa pbcbsn pbcbsc, .slice pbcca pbccn pbccc, .slice pbda pbdn pbdc, .slice pca pcn pcc, .int .i64 pdk, .string pdnm, .int .i64 pdm, .int .i64 pdtk, .slice pdta pdtn pdtc, .slice pdsa pdsn pdsc, .int .i64 pek, .string penm, .int .i64 pem, .int .i64 petk, .slice peta petn petc, .slice pesa pesn pesc]) := BoxAt.besideAll (p := w.heap.size + 1 + 1) [.slice gca gcn gcc] 9 _ XA.out (by omega)
    have FR' : Hid (FreeAt (w2.setCell ⟨w.heap.size + 1 + 1, 9, none⟩ (.slice gca gcn gcc)) (w.heap.size + 1)) := FreeAt.storeAll (p := w.heap.size + 1 + 1) [.slice gca gcn gcc] 9 _ FR.out
    have FO' : Hid (FreeAt (w2.setCell ⟨w.heap.size + 1 + 1, 9, none⟩ (.slice gca gcn gcc)) (w.heap.size + 1 + 1)) := FreeAt.storeAll (p := w.heap.size + 1 + 1) [.slice gca gcn gcc] 9 _ FO.out
    have hs2 : (w2.setCell ⟨w.heap.size + 1 + 1, 9, none⟩ (.slice gca gcn gcc)).heap.size = w2.heap.size := size_storeAll (p := w.heap.size + 1 + 1) [.slice gca gcn gcc] 9 w2
    replace G1 := Lib.hid (G1.out.map fun _ _ ha _ h => h.rest KP.out (Or.inr ha))
    replace G2 := Lib.hid (G2.out.map fun _ _ ha _ h => h.rest KP.out (Or.inr ha))
    have H3 := Lib.hid (HP3.out.below B'.out)
    have o9 := XO.out.2 9
    have u9 := FO.out.2 9
    have a10 := XA.out.2 10
    have a10' := XA'.out.2 10
    have a11 := XA.out.2 11
    have a11' := XA'.out.2 11
    have a12 := XA.out.2 12
    have a12' := XA'.out.2 12
    have a13 := XA.out.2 13
    have a13' := XA'.out.2 13
    have a14 := XA.out.2 14
    have a14' := XA'.out.2 14
    have a15 := XA.out.2 15
    have a15' := XA'.out.2 15
    go_wp2_with fail
    clear o9 u9 a10 a10' a11 a11' a12 a12' a13 a13' a14 a14' a15 a15' XA XR XO FR FO B KP
    generalize (w2.setCell ⟨w.heap.size + 1 + 1, 9, none⟩ (.slice gca gcn gcc)) = y2 at B' XO' XR' XA' FR' FO' G1 G2 H3 hs2 ⊢
    have B := B'; clear B'
    have XA := XA'; clear XA'
    have XR := XR'; clear XR'
    have XO := XO'; clear XO'
    have FR := FR'; clear FR'
    have FO := FO'; clear FO'
    refine (toExr d _ x3 y2 hn3 H3.out).mono ?_
    rintro e w3 ⟨v3, fp, rfl, ht, hf, hb⟩
    have hz3 := hb.size
    rw [hs2] at hz3
    obtain ⟨gdk, gdnm, gdm, gdtk, gdta, gdtn, gdtc, gdsa, gdsn, gdsc, rfl⟩ := ex_parts ht.at_
    have G3 : Hid (Wi (w.heap.size + 3) w3.heap.size (ExIn w3 d (.agg #[.int .i64 gdk, .string gdnm, .int .i64 gdm, .int .i64 gdtk, .slice gdta gdtn gdtc, .slice gdsa gdsn gdsc]) x3)) := ⟨_, _, (by omega), Nat.le_refl _, ht⟩
    replace B := Lib.hid (below_thru B.out (Nat.le_refl _) hb)
    replace XA := Lib.hid (XA.out.below hb)
    replace XR := Lib.hid (XR.out.below hb)
    replace XO := Lib.hid (XO.out.below hb)
    replace FR := Lib.hid (FR.out.below hb)
    replace FO := Lib.hid (FO.out.below hb)
    replace G1 := Lib.hid (G1.out.map fun _ _ _ _ h => h.below hb)
    replace G2 := Lib.hid (G2.out.map fun _ _ _ _ h => h.below hb)
    clear ht hf hb H3
    have B' : Hid (Below w.heap.size w ((((((w3.setCell ⟨w.heap.size + 1 + 1, 10, none⟩ (.int .i64 gdk)).setCell ⟨w.heap.size + 1 + 1, 11, none⟩ (.string gdnm)).setCell ⟨w.heap.size + 1 + 1, 12, none⟩ (.int .i64 gdm)).setCell ⟨w.heap.size + 1 + 1, 13, none⟩ (.int .i64 gdtk)).setCell ⟨w.heap.size + 1 + 1, 14, none⟩ (.slice gdta gdtn gdtc)).setCell ⟨w.heap.size + 1 + 1, 15, none⟩ (.slice gdsa gdsn gdsc))) := Below.storeAll (p := w.heap.size + 1 + 1) [.int .i64 gdk, .string gdnm, .int .i64 gdm, .int .i64 gdtk, .slice gdta gdtn gdtc, .slice gdsa gdsn gdsc] 10 _ B.out (by omega)
    have KP : Hid (Rest w.heap.size (w.heap.size + 3) w3 ((((((w3.setCell ⟨w.heap.size + 1 + 1, 10, none⟩ (.int .i64 gdk)).setCell ⟨w.heap.size + 1 + 1, 11, none⟩ (.string gdnm)).setCell ⟨w.heap.size + 1 + 1, 12, none⟩ (.int .i64 gdm)).setCell ⟨w.heap.size + 1 + 1, 13, none⟩ (.int .i64 gdtk)).setCell ⟨w.heap.size + 1 + 1, 14, none⟩ (.slice gdta gdtn gdtc)).setCell ⟨w.heap.size + 1 + 1, 15, none⟩ (.slice gdsa gdsn gdsc))) := Rest.storeAll (p := w.heap.size + 1 + 1) [.int .i64 gdk, .string gdnm, .int .i64 gdm, .int .i64 gdtk, .slice gdta gdtn gdtc, .slice gdsa gdsn gdsc] 10 _ (Rest.refl _ _ _) (by omega) (by omega)
    have XO' : Hid (BoxAt ((((((w3.setCell ⟨w.heap.size + 1 + 1, 10, none⟩ (.int .i64 gdk)).setCell ⟨w.heap.size + 1 + 1, 11, none⟩ (.string gdnm)).setCell ⟨w.heap.size + 1 + 1, 12, none⟩ (.int .i64 gdm)).setCell ⟨w.heap.size + 1 + 1, 13, none⟩ (.int .i64 gdtk)).setCell ⟨w.heap.size + 1 + 1, 14, none⟩ (.slice gdta gdtn gdtc)).setCell ⟨w.heap.size + 1 + 1, 15, none⟩ (.slice gdsa gdsn gdsc)) (w.heap.size + 1 + 1) #[.slice gbba gbbn gbbc, .int .i64 gbcbk, .string gbcbnm, .int .i64 gbcbm, .int .i64 gbcbtk, .slice gbcbta gbcbtn gbcbtc, .slice gbcbsa gbcbsn gbcbsc, .slice gbcca gbccn gbccc, .slice gbda gbdn gbdc, .slice gca gcn gcc, .int .i64 gdk, .string gdnm, .int .i64 gdm, .int .i64 gdtk, .slice gdta gdtn gdtc, .slice gdsa gdsn gdsc, .int .i64 0, .string ⟨#[]⟩, .int .i64 0, .int .i64 0, .slice none 0 0, .slice none 0 0]) := st_10_6 XO.out
    have XR' : Hid (BoxAt ((((((w3.setCell ⟨w.heap.size + 1 + 1, 10, none⟩ (.int .i64 gdk)).setCell ⟨w.heap.size + 1 + 1, 11, none⟩ (.string gdnm)).setCell ⟨w.heap.size + 1 + 1, 12, none⟩ (.int .i64 gdm)).setCell ⟨w.heap.size + 1 + 1, 13, none⟩ (.int .i64 gdtk)).setCell ⟨w.heap.size + 1 + 1, 14, none⟩ (.slice gdta gdtn gdtc)).setCell ⟨w.heap.size + 1 + 1, 15, none⟩ (.slice gdsa gdsn gdsc)) (w.heap.size + 1) #[.slice none 0 0, .int .i64 0, .string ⟨#[]⟩, .int .i64 0, .int .i64 0, .slice none 0 0, .slice none 0 0, .slice none 0 0, .slice none 0 0, .slice none 0 0, .int .i64 0, .string ⟨#[]⟩, .int .i64 0, .int .i64 0, .slice none 0 0, .slice none 0 0, .int .i64 0, .string ⟨#[]⟩, .int .i64 0, .int .i64 0, .slice none 0 0, .slice none 0 0]) := BoxAt.besideAll (p := w.heap.size + 1 + 1) [.int .i64 gdk, .string gdnm, .int .i64 gdm, .int .i64 gdtk, .slice gdta gdtn gdtc, .slice gdsa gdsn gdsc] 10 _ XR.out (by omega)
    have XA' : Hid (BoxAt ((((((w3.setCell ⟨w.heap.size + 1 + 1, 10, none⟩ (.int .i64 gdk)).setCell ⟨w.heap.size + 1 + 1, 11, none⟩ (.string gdnm)).setCell ⟨w.heap.size + 1 + 1, 12, none⟩ (.int .i64 gdm)).setCell ⟨w.heap.size + 1 + 1, 13, none⟩ (.int .i64 gdtk)).setCell ⟨w.heap.size + 1 + 1, 14, none⟩ (.slice gdta gdtn gdtc)).setCell ⟨w.heap.size + 1 + 1, 15, none⟩ (.slice gdsa gdsn gdsc)) w.heap.size #[.slice pbba pbbn pbbc, .int .i64 pbcbk, .string pbcbnm, .int .i64 pbcbm, .int .i64 pbcbtk, .slice pbcbta pbcbtn pbcbtc, .slice pbcbsa pbcbsn pbcbsc, .slice pbcca pbccn pbccc, .slice pbda pbdn pbdc, .slice pca pcn pcc, .int .i64 pdk, .string pdnm, .int .i64 pdm, .int .i64 pdtk, .slice pdta pdtn pdtc, .slice pdsa pdsn pdsc, .int .i64 pek, .string penm, .int .i64 pem, .int .i64 petk, .slice peta petn petc, .slice pesa pesn pesc]) := BoxAt.besideAll (p := w.heap.size + 1 + 1) [.int .i64 gdk, .string gdnm, .int .i64 gdm, .int .i64 gdtk, .slice gdta gdtn gdtc, .slice gdsa gdsn gdsc] 10 _ XA.out (by omega)
    have FR' : Hid (FreeAt ((((((w3.setCell ⟨w.heap.size + 1 + 1, 10, none⟩ (.int .i64 gdk)).setCell ⟨w.heap.size + 1 + 1, 11, none⟩ (.string gdnm)).setCell ⟨w.heap.size + 1 + 1, 12, none⟩ (.int .i64 gdm)).setCell ⟨w.heap.size + 1 + 1, 13, none⟩ (.int .i64 gdtk)).setCell ⟨w.heap.size + 1 + 1, 14, none⟩ (.slice gdta gdtn gdtc)).setCell ⟨w.heap.size + 1 + 1, 15, none⟩ (.slice gdsa gdsn gdsc)) (w.heap.size + 1)) := FreeAt.storeAll (p := w.heap.size + 1 + 1) [.int .i64 gdk, .string gdnm, .int .i64 gdm, .int .i64 gdtk, .slice gdta gdtn gdtc, .slice gdsa gdsn gdsc] 10 _ FR.out
    have FO' : Hid (FreeAt ((((((w3.setCell ⟨w.heap.size + 1 + 1, 10, none⟩ (.int .i64 gdk)).setCell ⟨w.heap.size + 1 + 1, 11, none⟩ (.string gdnm)).setCell ⟨w.heap.size + 1 + 1, 12, none⟩ (.int .i64 gdm)).setCell ⟨w.heap.size + 1 + 1, 13, none⟩ (.int .i64 gdtk)).setCell ⟨w.heap.size + 1 + 1, 14, none⟩ (.slice gdta gdtn gdtc)).setCell ⟨w.heap.size + 1 + 1, 15, none⟩ (.slice gdsa gdsn gdsc)) (w.heap.size + 1 + 1)) := FreeAt.storeAll (p := w.heap.size + 1 + 1) [.int .i64 gdk, .string gdnm, .int .i64 gdm, .int .i64 gdtk, .slice gdta gdtn gdtc, .slice gdsa gdsn gdsc] 10 _ FO.out
    have hs3 : ((((((w3.setCell ⟨w.heap.size + 1 + 1, 10, none⟩ (.int .i64 gdk)).setCell ⟨w.heap.size + 1 + 1, 11, none⟩ (.string gdnm)).setCell ⟨w.heap.size + 1 + 1, 12, none⟩ (.int .i64 gdm)).setCell ⟨w.heap.size + 1 + 1, 13, none⟩ (.int .i64 gdtk)).setCell ⟨w.heap.size + 1 + 1, 14, none⟩ (.slice gdta gdtn gdtc)).setCell ⟨w.heap.size + 1 + 1, 15, none⟩ (.slice gdsa gdsn gdsc)).heap.size = w3.heap.size := size_storeAll (p := w.heap.size + 1 + 1) [.int .i64 gdk, .string gdnm, .int .i64 gdm, .int .i64 gdtk, .slice gdta gdtn gdtc, .slice gdsa gdsn gdsc] 10 w3
    replace G1 := Lib.hid (G1.out.map fun _ _ ha _ h => h.rest KP.out (Or.inr ha))
    replace G2 := Lib.hid (G2.out.map fun _ _ ha _ h => h.rest KP.out (Or.inr ha))
    replace G3 := Lib.hid (G3.out.map fun _ _ ha _ h => h.rest KP.out (Or.inr ha))
    have H4 := Lib.hid (HP4.out.below B'.out)
    have o10 := XO.out.2 10
    have u10 := FO.out.2 10
    have o11 := XO.out.2 11
    have u11 := FO.out.2 11
    have o12 := XO.out.2 12
    have u12 := FO.out.2 12
    have o13 := XO.out.2 13
    have u13 := FO.out.2 13
    have o14 := XO.out.2 14
    have u14 := FO.out.2 14
    have o15 := XO.out.2 15
    have u15 := FO.out.2 15
    have a16 := XA.out.2 16
    have a16' := XA'.out.2 16
    have a17 := XA.out.2 17
    have a17' := XA'.out.2 17
    have a18 := XA.out.2 18
    have a18' := XA'.out.2 18
    have a19 := XA.out.2 19
    have a19' := XA'.out.2 19
    have a20 := XA.out.2 20
    have a20' := XA'.out.2 20
    have a21 := XA.out.2 21
    have a21' := XA'.out.2 21
    go_wp2_with fail
    clear o10 u10 o11 u11 o12 u12 o13 u13 o14 u14 o15 u15 a16 a16' a17 a17' a18 a18' a19 a19' a20 a20' a21 a21' XA XR XO FR FO B KP
    generalize ((((((w3.setCell ⟨w.heap.size + 1 + 1, 10, none⟩ (.int .i64 gdk)).setCell ⟨w.heap.size + 1 + 1, 11, none⟩ (.string gdnm)).setCell ⟨w.heap.size + 1 + 1, 12, none⟩ (.int .i64 gdm)).setCell ⟨w.heap.size + 1 + 1, 13, none⟩ (.int .i64 gdtk)).setCell ⟨w.heap.size + 1 + 1, 14, none⟩ (.slice gdta gdtn gdtc)).setCell ⟨w.heap.size + 1 + 1, 15, none⟩ (.slice gdsa gdsn gdsc)) = y3 at B' XO' XR' XA' FR' FO' G1 G2 G3 H4 hs3 ⊢
    have B := B'; clear B'
    have XA := XA'; clear XA'
    have XR := XR'; clear XR'
    have XO := XO'; clear XO'
    have FR := FR'; clear FR'
    have FO := FO'; clear FO'
    refine (toExr d _ x4 y3 hn4 H4.out).mono ?_
    rintro e w4 ⟨v4, fp, rfl, ht, hf, hb⟩
    have hz4 := hb.size
    rw [hs3] at hz4
    obtain ⟨gek, genm, gem, getk, geta, getn, getc, gesa, gesn, gesc, rfl⟩ := ex_parts ht.at_
    have G4 : Hid (Wi (w.heap.size + 3) w4.heap.size (ExIn w4 d (.agg #[.int .i64 gek, .string genm, .int .i64 gem, .int .i64 getk, .slice geta getn getc, .slice gesa gesn gesc]) x4)) := ⟨_, _, (by omega), Nat.le_refl _, ht⟩
    replace B := Lib.hid (below_thru B.out (Nat.le_refl _) hb)
    replace XA := Lib.hid (XA.out.below hb)
    replace XR := Lib.hid (XR.out.below hb)
    replace XO := Lib.hid (XO.out.below hb)
    replace FR := Lib.hid (FR.out.below hb)
    replace FO := Lib.hid (FO.out.below hb)
    replace G1 := Lib.hid (G1.out.map fun _ _ _ _ h => h.below hb)
    replace G2 := Lib.hid (G2.out.map fun _ _ _ _ h => h.below hb)
    replace G3 := Lib.hid (G3.out.map fun _ _ _ _ h => h.below hb)
    clear ht hf hb H4
    have B' : Hid (Below w.heap.size w ((((((w4.setCell ⟨w.heap.size + 1 + 1, 16, none⟩ (.int .i64 gek)).setCell ⟨w.heap.size + 1 + 1, 17, none⟩ (.string genm)).setCell ⟨w.heap.size + 1 + 1, 18, none⟩ (.int .i64 gem)).setCell ⟨w.heap.size + 1 + 1, 19, none⟩ (.int .i64 getk)).setCell ⟨w.heap.size + 1 + 1, 20, none⟩ (.slice geta getn getc)).setCell ⟨w.heap.size + 1 + 1, 21, none⟩ (.slice gesa gesn gesc))) := Below.storeAll (p := w.heap.size + 1 + 1) [.int .i64 gek, .string genm, .int .i64 gem, .int .i64 getk, .slice geta getn getc, .slice gesa gesn gesc] 16 _ B.out (by omega)
    have KP : Hid (Rest w.heap.size (w.heap.size + 3) w4 ((((((w4.setCell ⟨w.heap.size + 1 + 1, 16, none⟩ (.int .i64 gek)).setCell ⟨w.heap.size + 1 + 1, 17, none⟩ (.string genm)).setCell ⟨w.heap.size + 1 + 1, 18, none⟩ (.int .i64 gem)).setCell ⟨w.heap.size + 1 + 1, 19, none⟩ (.int .i64 getk)).setCell ⟨w.heap.size + 1 + 1, 20, none⟩ (.slice geta getn getc)).setCell ⟨w.heap.size + 1 + 1, 21, none⟩ (.slice gesa gesn gesc))) := Rest.storeAll (p := w.heap.size + 1 + 1) [.int .i64 gek, .string genm, .int .i64 gem, .int .i64 getk, .slice geta getn getc, .slice gesa gesn gesc] 16 _ (Rest.refl _ _ _) (by omega) (by omega)
    have XO' : Hid (BoxAt ((((((w4.setCell ⟨w.heap.size + 1 + 1, 16, none⟩ (.int .i64 gek)).setCell ⟨w.heap.size + 1 + 1, 17, none⟩ (.string genm)).setCell ⟨w.heap.size + 1 + 1, 18, none⟩ (.int .i64 gem)).setCell ⟨w.heap.size + 1 + 1, 19, none⟩ (.int .i64 getk)).setCell ⟨w.heap.size + 1 + 1, 20, none⟩ (.slice geta getn getc)).setCell ⟨w.heap.size + 1 + 1, 21, none⟩ (.slice gesa gesn gesc)) (w.heap.size + 1 + 1) #[.slice gbba gbbn gbbc, .int .i64 gbcbk, .string gbcbnm, .int .i64 gbcbm, .int .i64 gbcbtk, .slice gbcbta gbcbtn gbcbtc, .slice gbcbsa gbcbsn gbcbsc, .slice gbcca gbccn gbccc, .slice gbda gbdn gbdc, .slice gca gcn gcc, .int .i64 gdk, .string gdnm, .int .i64 gdm, .int .i64 gdtk, .slice gdta gdtn gdtc, .slice gdsa gdsn gdsc, .int .i64 gek, .string genm, .int .i64 gem, .int .i64 getk, .slice geta getn getc, .slice gesa gesn gesc]) := st_16_6 XO.out
    have XR' : Hid (BoxAt ((((((w4.setCell ⟨w.heap.size + 1 + 1, 16, none⟩ (.int .i64 gek)).setCell ⟨w.heap.size + 1 + 1, 17, none⟩ (.string genm)).setCell ⟨w.heap.size + 1 + 1, 18, none⟩ (.int .i64 gem)).setCell ⟨w.heap.size + 1 + 1, 19, none⟩ (.int .i64 getk)).setCell ⟨w.heap.size + 1 + 1, 20, none⟩ (.slice geta getn getc)).setCell ⟨w.heap.size + 1 + 1, 21, none⟩ (.slice gesa gesn gesc)) (w.heap.size + 1) #[.slice none 0 0, .int .i64 0, .string ⟨#[]⟩, .int .i64 0, .int .i64 0, .slice none 0 0, .slice none 0 0, .slice none 0 0, .slice none 0 0, .slice none 0 0, .int .i64 0, .string ⟨#[]⟩, .int .i64 0, .int .i64 0, .slice none 0 0, .slice none 0 0, .int .i64 0, .string ⟨#[]⟩, .int .i64 0, .int .i64 0, .slice none 0 0, .slice none 0 0]) := BoxAt.besideAll (p := w.heap.size + 1 + 1) [.int .i64 gek, .string genm, .int .i64 gem, .int .i64 getk, .slice geta getn getc, .slice gesa gesn gesc] 16 _ XR.out (by omega)
    have FR' : Hid (FreeAt ((((((w4.setCell ⟨w.heap.size + 1 + 1, 16, none⟩ (.int .i64 gek)).setCell ⟨w.heap.size + 1 + 1, 17, none⟩ (.string genm)).setCell ⟨w.heap.size + 1 + 1, 18, none⟩ (.int .i64 gem)).setCell ⟨w.heap.size + 1 + 1, 19, none⟩ (.int .i64 getk)).setCell ⟨w.heap.size + 1 + 1, 20, none⟩ (.slice geta getn getc)).setCell ⟨w.heap.size + 1 + 1, 21, none⟩ (.slice gesa gesn gesc)) (w.heap.size + 1)) := FreeAt.storeAll (p := w.heap.size + 1 + 1) [.int .i64 gek, .string genm, .int .i64 gem, .int .i64 getk, .slice geta getn getc, .slice gesa gesn gesc] 16 _ FR.out
    have FO' : Hid (FreeAt ((((((w4.setCell ⟨w.heap.size + 1 + 1, 16, none⟩ (.int .i64 gek)).setCell ⟨w.heap.size + 1 + 1, 17, none⟩ (.string genm)).setCell ⟨w.heap.size + 1 + 1, 18, none⟩ (.int .i64 gem)).setCell ⟨w.heap.size + 1 + 1, 19, none⟩ (.int .i64 getk)).setCell ⟨w.heap.size + 1 + 1, 20, none⟩ (.slice geta getn getc)).setCell ⟨w.heap.size + 1 + 1, 21, none⟩ (.slice gesa gesn gesc)) (w.heap.size + 1 + 1)) := FreeAt.storeAll (p := w.heap.size + 1 + 1) [.int .i64 gek, .string genm, .int .i64 gem, .int .i64 getk, .slice geta getn getc, .slice gesa gesn gesc] 16 _ FO.out
    have hs4 : ((((((w4.setCell ⟨w.heap.size + 1 + 1, 16, none⟩ (.int .i64 gek)).setCell ⟨w.heap.size + 1 + 1, 17, none⟩ (.string genm)).setCell ⟨w.heap.size + 1 + 1, 18, none⟩ (.int .i64 gem)).setCell ⟨w.heap.size + 1 + 1, 19, none⟩ (.int .i64 getk)).setCell ⟨w.heap.size + 1 + 1, 20, none⟩ (.slice geta getn getc)).setCell ⟨w.heap.size + 1 + 1, 21, none⟩ (.slice gesa gesn gesc)).heap.size = w4.heap.size := size_storeAll (p := w.heap.size + 1 + 1) [.int .i64 gek, .string genm, .int .i64 gem, .int .i64 getk, .slice geta getn getc, .slice gesa gesn gesc] 16 w4
    replace G1 := Lib.hid (G1.out.map fun _ _ ha _ h => h.rest KP.out (Or.inr ha))
    replace G2 := Lib.hid (G2.out.map fun _ _ ha _ h => h.rest KP.out (Or.inr ha))
    replace G3 := Lib.hid (G3.out.map fun _ _ ha _ h => h.rest KP.out (Or.inr ha))
    replace G4 := Lib.hid (G4.out.map fun _ _ ha _ h => h.rest KP.out (Or.inr ha))
    have o16 := XO.out.2 16
    have u16 := FO.out.2 16
    have o17 := XO.out.2 17
    have u17 := FO.out.2 17
    have o18 := XO.out.2 18
    have u18 := FO.out.2 18
    have o19 := XO.out.2 19
    have u19 := FO.out.2 19
    have o20 := XO.out.2 20
    have u20 := FO.out.2 20
    have o21 := XO.out.2 21
    have u21 := FO.out.2 21
    go_upto_region 6 with fail
    clear o16 u16 o17 u17 o18 u18 o19 u19 o20 u20 o21 u21 XA XR XO FR FO B KP
    generalize ((((((w4.setCell ⟨w.heap.size + 1 + 1, 16, none⟩ (.int .i64 gek)).setCell ⟨w.heap.size + 1 + 1, 17, none⟩ (.string genm)).setCell ⟨w.heap.size + 1 + 1, 18, none⟩ (.int .i64 gem)).setCell ⟨w.heap.size + 1 + 1, 19, none⟩ (.int .i64 getk)).setCell ⟨w.heap.size + 1 + 1, 20, none⟩ (.slice geta getn getc)).setCell ⟨w.heap.size + 1 + 1, 21, none⟩ (.slice gesa gesn gesc)) = y4 at B' XO' XR' FR' FO' G1 G2 G3 G4 hs4 ⊢
    have B := B'; clear B'
    have XR := XR'; clear XR'
    have XO := XO'; clear XO'
    have FR := FR'; clear FR'
    have FO := FO'; clear FO'
    have XA := hs4
    have hzb : y4.heap.size = w4.heap.size := hs4
    go_wp2_with (first | refine wpList_load_box rfl _ _ rfl (w.heap.size + 1 + 1) [.slice gbba gbbn gbbc, .int .i64 gbcbk, .string gbcbnm, .int .i64 gbcbm, .int .i64 gbcbtk, .slice gbcbta gbcbtn gbcbtc, .slice gbcbsa gbcbsn gbcbsc, .slice gbcca gbccn gbccc, .slice gbda gbdn gbdc, .slice gca gcn gcc, .int .i64 gdk, .string gdnm, .int .i64 gdm, .int .i64 gdtk, .slice gdta gdtn gdtc, .slice gdsa gdsn gdsc, .int .i64 gek, .string genm, .int .i64 gem, .int .i64 getk, .slice geta getn getc, .slice gesa gesn gesc] rfl XO.out Try.underlying52 rfl (by kernel_rfl) ?_ | refine wpList_store_box rfl _ _ _ rfl (w.heap.size + 1) [.slice gbba gbbn gbbc, .int .i64 gbcbk, .string gbcbnm, .int .i64 gbcbm, .int .i64 gbcbtk, .slice gbcbta gbcbtn gbcbtc, .slice gbcbsa gbcbsn gbcbsc, .slice gbcca gbccn gbccc, .slice gbda gbdn gbdc, .slice gca gcn gcc, .int .i64 gdk, .string gdnm, .int .i64 gdm, .int .i64 gdtk, .slice gdta gdtn gdtc, .slice gdsa gdsn gdsc, .int .i64 gek, .string genm, .int .i64 gem, .int .i64 getk, .slice geta getn getc, .slice gesa gesn gesc] [.slice none 0 0, .int .i64 0, .string ⟨#[]⟩, .int .i64 0, .int .i64 0, .slice none 0 0, .slice none 0 0, .slice none 0 0, .slice none 0 0, .slice none 0 0, .int .i64 0, .string ⟨#[]⟩, .int .i64 0, .int .i64 0, .slice none 0 0, .slice none 0 0, .int .i64 0, .string ⟨#[]⟩, .int .i64 0, .int .i64 0, .slice none 0 0, .slice none 0 0] rfl rfl rfl (by kernel_rfl) (by simp [Value.oneCell']) XR.out FR.out rfl ?_)
    have XRF : BoxAt (allStored (w.heap.size + 1) 0 [.slice gbba gbbn gbbc, .int .i64 gbcbk, .string gbcbnm, .int .i64 gbcbm, .int .i64 gbcbtk, .slice gbcbta gbcbtn gbcbtc, .slice gbcbsa gbcbsn gbcbsc, .slice gbcca gbccn gbccc, .slice gbda gbdn gbdc, .slice gca gcn gcc, .int .i64 gdk, .string gdnm, .int .i64 gdm, .int .i64 gdtk, .slice gdta gdtn gdtc, .slice gdsa gdsn gdsc, .int .i64 gek, .string genm, .int .i64 gem, .int .i64 getk, .slice geta getn getc, .slice gesa gesn gesc] y4) (w.heap.size + 1) #[.slice gbba gbbn gbbc, .int .i64 gbcbk, .string gbcbnm, .int .i64 gbcbm, .int .i64 gbcbtk, .slice gbcbta gbcbtn gbcbtc, .slice gbcbsa gbcbsn gbcbsc, .slice gbcca gbccn gbccc, .slice gbda gbdn gbdc, .slice gca gcn gcc, .int .i64 gdk, .string gdnm, .int .i64 gdm, .int .i64 gdtk, .slice gdta gdtn gdtc, .slice gdsa gdsn gdsc, .int .i64 gek, .string genm, .int .i64 gem, .int .i64 getk, .slice geta getn getc, .slice gesa gesn gesc] := box22 XR.out
    have hbF : Below w.heap.size w (allStored (w.heap.size + 1) 0 [.slice gbba gbbn gbbc, .int .i64 gbcbk, .string gbcbnm, .int .i64 gbcbm, .int .i64 gbcbtk, .slice gbcbta gbcbtn gbcbtc, .slice gbcbsa gbcbsn gbcbsc, .slice gbcca gbccn gbccc, .slice gbda gbdn gbdc, .slice gca gcn gcc, .int .i64 gdk, .string gdnm, .int .i64 gdm, .int .i64 gdtk, .slice gdta gdtn gdtc, .slice gdsa gdsn gdsc, .int .i64 gek, .string genm, .int .i64 gem, .int .i64 getk, .slice geta getn getc, .slice gesa gesn gesc] y4) := Below.storeAll [.slice gbba gbbn gbbc, .int .i64 gbcbk, .string gbcbnm, .int .i64 gbcbm, .int .i64 gbcbtk, .slice gbcbta gbcbtn gbcbtc, .slice gbcbsa gbcbsn gbcbsc, .slice gbcca gbccn gbccc, .slice gbda gbdn gbdc, .slice gca gcn gcc, .int .i64 gdk, .string gdnm, .int .i64 gdm, .int .i64 gdtk, .slice gdta gdtn gdtc, .slice gdsa gdsn gdsc, .int .i64 gek, .string genm, .int .i64 gem, .int .i64 getk, .slice geta getn getc, .slice gesa gesn gesc] 0 _ (B.out) (by omega)
    have KP : Rest w.heap.size (w.heap.size + 3) y4 (allStored (w.heap.size + 1) 0 [.slice gbba gbbn gbbc, .int .i64 gbcbk, .string gbcbnm, .int .i64 gbcbm, .int .i64 gbcbtk, .slice gbcbta gbcbtn gbcbtc, .slice gbcbsa gbcbsn gbcbsc, .slice gbcca gbccn gbccc, .slice gbda gbdn gbdc, .slice gca gcn gcc, .int .i64 gdk, .string gdnm, .int .i64 gdm, .int .i64 gdtk, .slice gdta gdtn gdtc, .slice gdsa gdsn gdsc, .int .i64 gek, .string genm, .int .i64 gem, .int .i64 getk, .slice geta getn getc, .slice gesa gesn gesc] y4) := Rest.storeAll [.slice gbba gbbn gbbc, .int .i64 gbcbk, .string gbcbnm, .int .i64 gbcbm, .int .i64 gbcbtk, .slice gbcbta gbcbtn gbcbtc, .slice gbcbsa gbcbsn gbcbsc, .slice gbcca gbccn gbccc, .slice gbda gbdn gbdc, .slice gca gcn gcc, .int .i64 gdk, .string gdnm, .int .i64 gdm, .int .i64 gdtk, .slice gdta gdtn gdtc, .slice gdsa gdsn gdsc, .int .i64 gek, .string genm, .int .i64 gem, .int .i64 getk, .slice geta getn getc, .slice gesa gesn gesc] 0 _ (Rest.refl _ _ _) (by omega) (by omega)
    have hzf : (allStored (w.heap.size + 1) 0 [.slice gbba gbbn gbbc, .int .i64 gbcbk, .string gbcbnm, .int .i64 gbcbm, .int .i64 gbcbtk, .slice gbcbta gbcbtn gbcbtc, .slice gbcbsa gbcbsn gbcbsc, .slice gbcca gbccn gbccc, .slice gbda gbdn gbdc, .slice gca gcn gcc, .int .i64 gdk, .string gdnm, .int .i64 gdm, .int .i64 gdtk, .slice gdta gdtn gdtc, .slice gdsa gdsn gdsc, .int .i64 gek, .string genm, .int .i64 gem, .int .i64 getk, .slice geta getn getc, .slice gesa gesn gesc] y4).heap.size = y4.heap.size := size_storeAll [.slice gbba gbbn gbbc, .int .i64 gbcbk, .string gbcbnm, .int .i64 gbcbm, .int .i64 gbcbtk, .slice gbcbta gbcbtn gbcbtc, .slice gbcbsa gbcbsn gbcbsc, .slice gbcca gbccn gbccc, .slice gbda gbdn gbdc, .slice gca gcn gcc, .int .i64 gdk, .string gdnm, .int .i64 gdm, .int .i64 gdtk, .slice gdta gdtn gdtc, .slice gdsa gdsn gdsc, .int .i64 gek, .string genm, .int .i64 gem, .int .i64 getk, .slice geta getn getc, .slice gesa gesn gesc] 0 _
    replace G1 := Lib.hid (G1.out.map fun _ _ ha _ h => h.rest KP (Or.inr ha))
    replace G2 := Lib.hid (G2.out.map fun _ _ ha _ h => h.rest KP (Or.inr ha))
    replace G3 := Lib.hid (G3.out.map fun _ _ ha _ h => h.rest KP (Or.inr ha))
    replace G4 := Lib.hid (G4.out.map fun _ _ ha _ h => h.rest KP (Or.inr ha))
    clear KP B XA XR XO FR FO
    generalize (allStored (w.heap.size + 1) 0 [.slice gbba gbbn gbbc, .int .i64 gbcbk, .string gbcbnm, .int .i64 gbcbm, .int .i64 gbcbtk, .slice gbcbta gbcbtn gbcbtc, .slice gbcbsa gbcbsn gbcbsc, .slice gbcca gbccn gbccc, .slice gbda gbdn gbdc, .slice gca gcn gcc, .int .i64 gdk, .string gdnm, .int .i64 gdm, .int .i64 gdtk, .slice gdta gdtn gdtc, .slice gdsa gdsn gdsc, .int .i64 gek, .string genm, .int .i64 gem, .int .i64 getk, .slice geta getn getc, .slice gesa gesn gesc] y4) = WX at XRF hzf hbF G1 G2 G3 G4 ⊢
    refine ret_box Try.results13 (w.heap.size + 1) [.slice gbba gbbn gbbc, .int .i64 gbcbk, .string gbcbnm, .int .i64 gbcbm, .int .i64 gbcbtk, .slice gbcbta gbcbtn gbcbtc, .slice gbcbsa gbcbsn gbcbsc, .slice gbcca gbccn gbccc, .slice gbda gbdn gbdc, .slice gca gcn gcc, .int .i64 gdk, .string gdnm, .int .i64 gdm, .int .i64 gdtk, .slice gdta gdtn gdtc, .slice gdsa gdsn gdsc, .int .i64 gek, .string genm, .int .i64 gem, .int .i64 getk, .slice geta getn getc, .slice gesa gesn gesc] rfl XRF Try.underlying52 rfl (by kernel_rfl) rfl ?_
    exact ⟨_, [], rfl, ⟨_, _, _, _, _, _, _, _, _, _, _, _, _, _, _, _, _, _, _, _, _, _, _, _, _, _, _, _, _, _, _, _, _, _, _, _, _, _, _, _, _, _, rfl, G1.out.wide (by omega) (by omega), G2.out.wide (by omega) (by omega), G3.out.wide (by omega) (by omega), G4.out.wide (by omega) (by omega)⟩, rfl, hbF⟩
end Go.Proofs.Ytmmnjdhmankieaa
