/-
  Proved: laws.toHistory copies the value into new memory of its own; it leaves the memory that was there as it was.
-/
import Derived.Test.YtmmnjdhmankieaaAtHis
import Derived.Test.YtmmnjdhmankieaaToEdts
import Derived.Test.YtmmnjdhmankieaaToEdt
namespace Go.Proofs.Ytmmnjdhmankieaa
open Go.RowKit

set_option maxRecDepth 100000 in
set_option maxHeartbeats 4000000 in
theorem toHis (d : Nat) (v : Value) (x : His) (w : World) (hn : x.bulk ≤ 1048576) (h : HisAt w d v x) :
    Calls Try.prog 53 #[v] w fun e w' => ∃ v' fp, e = .returned v' ∧ HisIn w' d v' x w.heap.size w'.heap.size ∧ fp = ([] : List Nat) ∧ Below w.heap.size w w' := by
  cases x with
  | mk x1 x2 x3 =>
    obtain ⟨pba, pbn, pbc, pcbk, pcbnm, pcbm, pcbtk, pcbta, pcbtn, pcbtc, pcbsa, pcbsn, pcbsc, pcca, pccn, pccc, pda, pdn, pdc, rfl, h1, h2, h3⟩ := h
    dsimp only at h1 h2 h3 ⊢
    have hbk : (His.mk x1 x2 x3).bulk = Edt.bulks x1 + x2.bulk + Edt.bulks x3 := rfl
    have hn1 : Edt.bulks x1 ≤ 1048576 := by omega
    have hn2 : x2.bulk ≤ 1048576 := by omega
    have hn3 : Edt.bulks x3 ≤ 1048576 := by omega
    clear hn hbk
    have HP1 := Lib.hid h1
    have HP2 := Lib.hid h2
    have HP3 := Lib.hid h3
    have B : Hid (Below w.heap.size w (((w.alloc (.cells #[.slice pba pbn pbc, .int .i64 pcbk, .string pcbnm, .int .i64 pcbm, .int .i64 pcbtk, .slice pcbta pcbtn pcbtc, .slice pcbsa pcbsn pcbsc, .slice pcca pccn pccc, .slice pda pdn pdc] 33)).alloc (.cells #[.slice none 0 0, .int .i64 0, .string ⟨#[]⟩, .int .i64 0, .int .i64 0, .slice none 0 0, .slice none 0 0, .slice none 0 0, .slice none 0 0] 49)).alloc (.cells #[.slice none 0 0, .int .i64 0, .string ⟨#[]⟩, .int .i64 0, .int .i64 0, .slice none 0 0, .slice none 0 0, .slice none 0 0, .slice none 0 0] 49))) := (((Below.refl _ _).alloc (Nat.le_refl _) _).alloc (by simp) _).alloc (by simp; omega) _
    have XA : Hid (BoxAt (((w.alloc (.cells #[.slice pba pbn pbc, .int .i64 pcbk, .string pcbnm, .int .i64 pcbm, .int .i64 pcbtk, .slice pcbta pcbtn pcbtc, .slice pcbsa pcbsn pcbsc, .slice pcca pccn pccc, .slice pda pdn pdc] 33)).alloc (.cells #[.slice none 0 0, .int .i64 0, .string ⟨#[]⟩, .int .i64 0, .int .i64 0, .slice none 0 0, .slice none 0 0, .slice none 0 0, .slice none 0 0] 49)).alloc (.cells #[.slice none 0 0, .int .i64 0, .string ⟨#[]⟩, .int .i64 0, .int .i64 0, .slice none 0 0, .slice none 0 0, .slice none 0 0, .slice none 0 0] 49)) w.heap.size #[.slice pba pbn pbc, .int .i64 pcbk, .string pcbnm, .int .i64 pcbm, .int .i64 pcbtk, .slice pcbta pcbtn pcbtc, .slice pcbsa pcbsn pcbsc, .slice pcca pccn pccc, .slice pda pdn pdc]) := ((BoxAt.new _ _ _).below (below_alloc _ _)).below (below_alloc _ _)
    have XR : Hid (BoxAt (((w.alloc (.cells #[.slice pba pbn pbc, .int .i64 pcbk, .string pcbnm, .int .i64 pcbm, .int .i64 pcbtk, .slice pcbta pcbtn pcbtc, .slice pcbsa pcbsn pcbsc, .slice pcca pccn pccc, .slice pda pdn pdc] 33)).alloc (.cells #[.slice none 0 0, .int .i64 0, .string ⟨#[]⟩, .int .i64 0, .int .i64 0, .slice none 0 0, .slice none 0 0, .slice none 0 0, .slice none 0 0] 49)).alloc (.cells #[.slice none 0 0, .int .i64 0, .string ⟨#[]⟩, .int .i64 0, .int .i64 0, .slice none 0 0, .slice none 0 0, .slice none 0 0, .slice none 0 0] 49)) (w.heap.size + 1) #[.slice none 0 0, .int .i64 0, .string ⟨#[]⟩, .int .i64 0, .int .i64 0, .slice none 0 0, .slice none 0 0, .slice none 0 0, .slice none 0 0]) := (box_at (BoxAt.new _ _ _) (by simp)).below (below_alloc _ _)
    have XO : Hid (BoxAt (((w.alloc (.cells #[.slice pba pbn pbc, .int .i64 pcbk, .string pcbnm, .int .i64 pcbm, .int .i64 pcbtk, .slice pcbta pcbtn pcbtc, .slice pcbsa pcbsn pcbsc, .slice pcca pccn pccc, .slice pda pdn pdc] 33)).alloc (.cells #[.slice none 0 0, .int .i64 0, .string ⟨#[]⟩, .int .i64 0, .int .i64 0, .slice none 0 0, .slice none 0 0, .slice none 0 0, .slice none 0 0] 49)).alloc (.cells #[.slice none 0 0, .int .i64 0, .string ⟨#[]⟩, .int .i64 0, .int .i64 0, .slice none 0 0, .slice none 0 0, .slice none 0 0, .slice none 0 0] 49)) (w.heap.size + 1 + 1) #[.slice none 0 0, .int .i64 0, .string ⟨#[]⟩, .int .i64 0, .int .i64 0, .slice none 0 0, .slice none 0 0, .slice none 0 0, .slice none 0 0]) := box_at (BoxAt.new _ _ _) (by simp)
    have FR : Hid (FreeAt (((w.alloc (.cells #[.slice pba pbn pbc, .int .i64 pcbk, .string pcbnm, .int .i64 pcbm, .int .i64 pcbtk, .slice pcbta pcbtn pcbtc, .slice pcbsa pcbsn pcbsc, .slice pcca pccn pccc, .slice pda pdn pdc] 33)).alloc (.cells #[.slice none 0 0, .int .i64 0, .string ⟨#[]⟩, .int .i64 0, .int .i64 0, .slice none 0 0, .slice none 0 0, .slice none 0 0, .slice none 0 0] 49)).alloc (.cells #[.slice none 0 0, .int .i64 0, .string ⟨#[]⟩, .int .i64 0, .int .i64 0, .slice none 0 0, .slice none 0 0, .slice none 0 0, .slice none 0 0] 49)) (w.heap.size + 1)) := (free_at (FreeAt.new _ _ _) (by simp)).below (below_alloc _ _)
    have FO : Hid (FreeAt (((w.alloc (.cells #[.slice pba pbn pbc, .int .i64 pcbk, .string pcbnm, .int .i64 pcbm, .int .i64 pcbtk, .slice pcbta pcbtn pcbtc, .slice pcbsa pcbsn pcbsc, .slice pcca pccn pccc, .slice pda pdn pdc] 33)).alloc (.cells #[.slice none 0 0, .int .i64 0, .string ⟨#[]⟩, .int .i64 0, .int .i64 0, .slice none 0 0, .slice none 0 0, .slice none 0 0, .slice none 0 0] 49)).alloc (.cells #[.slice none 0 0, .int .i64 0, .string ⟨#[]⟩, .int .i64 0, .int .i64 0, .slice none 0 0, .slice none 0 0, .slice none 0 0, .slice none 0 0] 49)) (w.heap.size + 1 + 1)) := free_at (FreeAt.new _ _ _) (by simp)
    have hz0 : (((w.alloc (.cells #[.slice pba pbn pbc, .int .i64 pcbk, .string pcbnm, .int .i64 pcbm, .int .i64 pcbtk, .slice pcbta pcbtn pcbtc, .slice pcbsa pcbsn pcbsc, .slice pcca pccn pccc, .slice pda pdn pdc] 33)).alloc (.cells #[.slice none 0 0, .int .i64 0, .string ⟨#[]⟩, .int .i64 0, .int .i64 0, .slice none 0 0, .slice none 0 0, .slice none 0 0, .slice none 0 0] 49)).alloc (.cells #[.slice none 0 0, .int .i64 0, .string ⟨#[]⟩, .int .i64 0, .int .i64 0, .slice none 0 0, .slice none 0 0, .slice none 0 0, .slice none 0 0] 49)).heap.size = w.heap.size + 3 := by simp
    clear h1 h2 h3
    go_enter Try.func53, Try.ntmps53
    go_wp2_with fail
    have H1 := Lib.hid (HP1.out.below B.out)
    generalize (((w.alloc (.cells #[.slice pba pbn pbc, .int .i64 pcbk, .string pcbnm, .int .i64 pcbm, .int .i64 pcbtk, .slice pcbta pcbtn pcbtc, .slice pcbsa pcbsn pcbsc, .slice pcca pccn pccc, .slice pda pdn pdc] 33)).alloc (.cells #[.slice none 0 0, .int .i64 0, .string ⟨#[]⟩, .int .i64 0, .int .i64 0, .slice none 0 0, .slice none 0 0, .slice none 0 0, .slice none 0 0] 49)).alloc (.cells #[.slice none 0 0, .int .i64 0, .string ⟨#[]⟩, .int .i64 0, .int .i64 0, .slice none 0 0, .slice none 0 0, .slice none 0 0, .slice none 0 0] 49)) = y0 at B H1 XA XR XO FR FO hz0 ⊢
    refine (toEdts d _ x1 y0 hn1 H1.out).mono ?_
    rintro e w1 ⟨v1, fp, rfl, ht, hf, hb⟩
    have hz1 := hb.size
    rw [hz0] at hz1
    obtain ⟨gba, gbn, gbc, rfl⟩ := edts_parts ht.at_
    have G1 : Hid (Wi (w.heap.size + 3) w1.heap.size (EdtsIn w1 d (.slice gba gbn gbc) x1)) := ⟨_, _, (by omega), Nat.le_refl _, ht⟩
    replace B := Lib.hid (below_thru B.out (Nat.le_refl _) hb)
    replace XA := Lib.hid (XA.out.below hb)
    replace XR := Lib.hid (XR.out.below hb)
    replace XO := Lib.hid (XO.out.below hb)
    replace FR := Lib.hid (FR.out.below hb)
    replace FO := Lib.hid (FO.out.below hb)
    clear ht hf hb H1
    have B' : Hid (Below w.heap.size w (w1.setCell ⟨w.heap.size + 1 + 1, 0, none⟩ (.slice gba gbn gbc))) := Below.storeAll (p := w.heap.size + 1 + 1) [.slice gba gbn gbc] 0 _ B.out (by omega)
    have KP : Hid (Rest w.heap.size (w.heap.size + 3) w1 (w1.setCell ⟨w.heap.size + 1 + 1, 0, none⟩ (.slice gba gbn gbc))) := Rest.storeAll (p := w.heap.size + 1 + 1) [.slice gba gbn gbc] 0 _ (Rest.refl _ _ _) (by omega) (by omega)
    have XO' : Hid (BoxAt (w1.setCell ⟨w.heap.size + 1 + 1, 0, none⟩ (.slice gba gbn gbc)) (w.heap.size + 1 + 1) #[.slice gba gbn gbc, .int .i64 0, .string ⟨#[]⟩, .int .i64 0, .int .i64 0, .slice none 0 0, .slice none 0 0, .slice none 0 0, .slice none 0 0]) := by
      have := BoxAt.storeAll [.slice gba gbn gbc] [.slice none 0 0] [] [.int .i64 0, .string ⟨#[]⟩, .int .i64 0, .int .i64 0, .slice none 0 0, .slice none 0 0, .slice none 0 0, .slice none 0 0] _ XO.out rfl
      exact this
    have XR' : Hid (BoxAt (w1.setCell ⟨w.heap.size + 1 + 1, 0, none⟩ (.slice gba gbn gbc)) (w.heap.size + 1) #[.slice none 0 0, .int .i64 0, .string ⟨#[]⟩, .int .i64 0, .int .i64 0, .slice none 0 0, .slice none 0 0, .slice none 0 0, .slice none 0 0]) := BoxAt.besideAll (p := w.heap.size + 1 + 1) [.slice gba gbn gbc] 0 _ XR.out (by omega)
    have XA' : Hid (BoxAt (w1.setCell ⟨w.heap.size + 1 + 1, 0, none⟩ (.slice gba gbn gbc)) w.heap.size #[.slice pba pbn pbc, .int .i64 pcbk, .string pcbnm, .int .i64 pcbm, .int .i64 pcbtk, .slice pcbta pcbtn pcbtc, .slice pcbsa pcbsn pcbsc, .slice pcca pccn pccc, .slice pda pdn pdc]) := BoxAt.besideAll (p := w.heap.size + 1 + 1) [.slice gba gbn gbc] 0 _ XA.out (by omega)
    have FR' : Hid (FreeAt (w1.setCell ⟨w.heap.size + 1 + 1, 0, none⟩ (.slice gba gbn gbc)) (w.heap.size + 1)) := FreeAt.storeAll (p := w.heap.size + 1 + 1) [.slice gba gbn gbc] 0 _ FR.out
    have FO' : Hid (FreeAt (w1.setCell ⟨w.heap.size + 1 + 1, 0, none⟩ (.slice gba gbn gbc)) (w.heap.size + 1 + 1)) := FreeAt.storeAll (p := w.heap.size + 1 + 1) [.slice gba gbn gbc] 0 _ FO.out
    have hs1 : (w1.setCell ⟨w.heap.size + 1 + 1, 0, none⟩ (.slice gba gbn gbc)).heap.size = w1.heap.size := size_storeAll (p := w.heap.size + 1 + 1) [.slice gba gbn gbc] 0 w1
    replace G1 := Lib.hid (G1.out.map fun _ _ ha _ h => h.rest KP.out (Or.inr ha))
    have H2 := Lib.hid (HP2.out.below B'.out)
    have o0 := XO.out.2 0
    have u0 := FO.out.2 0
    have a1 := XA.out.2 1
    have a1' := XA'.out.2 1
    have a2 := XA.out.2 2
    have a2' := XA'.out.2 2
    have a3 := XA.out.2 3
    have a3' := XA'.out.2 3
    have a4 := XA.out.2 4
    have a4' := XA'.out.2 4
    have a5 := XA.out.2 5
    have a5' := XA'.out.2 5
    have a6 := XA.out.2 6
    have a6' := XA'.out.2 6
    have a7 := XA.out.2 7
    have a7' := XA'.out.2 7
    go_wp2_with fail
    clear o0 u0 a1 a1' a2 a2' a3 a3' a4 a4' a5 a5' a6 a6' a7 a7' XA XR XO FR FO B KP
    generalize (w1.setCell ⟨w.heap.size + 1 + 1, 0, none⟩ (.slice gba gbn gbc)) = y1 at B' XO' XR' XA' FR' FO' G1 H2 hs1 ⊢
    have B := B'; clear B'
    have XA := XA'; clear XA'
    have XR := XR'; clear XR'
    have XO := XO'; clear XO'
    have FR := FR'; clear FR'
    have FO := FO'; clear FO'
    refine (toEdt d _ x2 y1 hn2 H2.out).mono ?_
    rintro e w2 ⟨v2, fp, rfl, ht, hf, hb⟩
    have hz2 := hb.size
    rw [hs1] at hz2
    obtain ⟨gcbk, gcbnm, gcbm, gcbtk, gcbta, gcbtn, gcbtc, gcbsa, gcbsn, gcbsc, gcca, gccn, gccc, rfl⟩ := edt_parts ht.at_
    have G2 : Hid (Wi (w.heap.size + 3) w2.heap.size (EdtIn w2 d (.agg #[.int .i64 gcbk, .string gcbnm, .int .i64 gcbm, .int .i64 gcbtk, .slice gcbta gcbtn gcbtc, .slice gcbsa gcbsn gcbsc, .slice gcca gccn gccc]) x2)) := ⟨_, _, (by omega), Nat.le_refl _, ht⟩
    replace B := Lib.hid (below_thru B.out (Nat.le_refl _) hb)
    replace XA := Lib.hid (XA.out.below hb)
    replace XR := Lib.hid (XR.out.below hb)
    replace XO := Lib.hid (XO.out.below hb)
    replace FR := Lib.hid (FR.out.below hb)
    replace FO := Lib.hid (FO.out.below hb)
    replace G1 := Lib.hid (G1.out.map fun _ _ _ _ h => h.below hb)
    clear ht hf hb H2
    have B' : Hid (Below w.heap.size w (((((((w2.setCell ⟨w.heap.size + 1 + 1, 1, none⟩ (.int .i64 gcbk)).setCell ⟨w.heap.size + 1 + 1, 2, none⟩ (.string gcbnm)).setCell ⟨w.heap.size + 1 + 1, 3, none⟩ (.int .i64 gcbm)).setCell ⟨w.heap.size + 1 + 1, 4, none⟩ (.int .i64 gcbtk)).setCell ⟨w.heap.size + 1 + 1, 5, none⟩ (.slice gcbta gcbtn gcbtc)).setCell ⟨w.heap.size + 1 + 1, 6, none⟩ (.slice gcbsa gcbsn gcbsc)).setCell ⟨w.heap.size + 1 + 1, 7, none⟩ (.slice gcca gccn gccc))) := Below.storeAll (p := w.heap.size + 1 + 1) [.int .i64 gcbk, .string gcbnm, .int .i64 gcbm, .int .i64 gcbtk, .slice gcbta gcbtn gcbtc, .slice gcbsa gcbsn gcbsc, .slice gcca gccn gccc] 1 _ B.out (by omega)
    have KP : Hid (Rest w.heap.size (w.heap.size + 3) w2 (((((((w2.setCell ⟨w.heap.size + 1 + 1, 1, none⟩ (.int .i64 gcbk)).setCell ⟨w.heap.size + 1 + 1, 2, none⟩ (.string gcbnm)).setCell ⟨w.heap.size + 1 + 1, 3, none⟩ (.int .i64 gcbm)).setCell ⟨w.heap.size + 1 + 1, 4, none⟩ (.int .i64 gcbtk)).setCell ⟨w.heap.size + 1 + 1, 5, none⟩ (.slice gcbta gcbtn gcbtc)).setCell ⟨w.heap.size + 1 + 1, 6, none⟩ (.slice gcbsa gcbsn gcbsc)).setCell ⟨w.heap.size + 1 + 1, 7, none⟩ (.slice gcca gccn gccc))) := Rest.storeAll (p := w.heap.size + 1 + 1) [.int .i64 gcbk, .string gcbnm, .int .i64 gcbm, .int .i64 gcbtk, .slice gcbta gcbtn gcbtc, .slice gcbsa gcbsn gcbsc, .slice gcca gccn gccc] 1 _ (Rest.refl _ _ _) (by omega) (by omega)
    have XO' : Hid (BoxAt (((((((w2.setCell ⟨w.heap.size + 1 + 1, 1, none⟩ (.int .i64 gcbk)).setCell ⟨w.heap.size + 1 + 1, 2, none⟩ (.string gcbnm)).setCell ⟨w.heap.size + 1 + 1, 3, none⟩ (.int .i64 gcbm)).setCell ⟨w.heap.size + 1 + 1, 4, none⟩ (.int .i64 gcbtk)).setCell ⟨w.heap.size + 1 + 1, 5, none⟩ (.slice gcbta gcbtn gcbtc)).setCell ⟨w.heap.size + 1 + 1, 6, none⟩ (.slice gcbsa gcbsn gcbsc)).setCell ⟨w.heap.size + 1 + 1, 7, none⟩ (.slice gcca gccn gccc)) (w.heap.size + 1 + 1) #[.slice gba gbn gbc, .int .i64 gcbk, .string gcbnm, .int .i64 gcbm, .int .i64 gcbtk, .slice gcbta gcbtn gcbtc, .slice gcbsa gcbsn gcbsc, .slice gcca gccn gccc, .slice none 0 0]) := by
      have := BoxAt.storeAll [.int .i64 gcbk, .string gcbnm, .int .i64 gcbm, .int .i64 gcbtk, .slice gcbta gcbtn gcbtc, .slice gcbsa gcbsn gcbsc, .slice gcca gccn gccc] [.int .i64 0, .string ⟨#[]⟩, .int .i64 0, .int .i64 0, .slice none 0 0, .slice none 0 0, .slice none 0 0] [.slice gba gbn gbc] [.slice none 0 0] _ XO.out rfl
      exact this
    have XR' : Hid (BoxAt (((((((w2.setCell ⟨w.heap.size + 1 + 1, 1, none⟩ (.int .i64 gcbk)).setCell ⟨w.heap.size + 1 + 1, 2, none⟩ (.string gcbnm)).setCell ⟨w.heap.size + 1 + 1, 3, none⟩ (.int .i64 gcbm)).setCell ⟨w.heap.size + 1 + 1, 4, none⟩ (.int .i64 gcbtk)).setCell ⟨w.heap.size + 1 + 1, 5, none⟩ (.slice gcbta gcbtn gcbtc)).setCell ⟨w.heap.size + 1 + 1, 6, none⟩ (.slice gcbsa gcbsn gcbsc)).setCell ⟨w.heap.size + 1 + 1, 7, none⟩ (.slice gcca gccn gccc)) (w.heap.size + 1) #[.slice none 0 0, .int .i64 0, .string ⟨#[]⟩, .int .i64 0, .int .i64 0, .slice none 0 0, .slice none 0 0, .slice none 0 0, .slice none 0 0]) := BoxAt.besideAll (p := w.heap.size + 1 + 1) [.int .i64 gcbk, .string gcbnm, .int .i64 gcbm, .int .i64 gcbtk, .slice gcbta gcbtn gcbtc, .slice gcbsa gcbsn gcbsc, .slice gcca gccn gccc] 1 _ XR.out (by omega)
    have XA' : Hid (BoxAt (((((((w2.setCell ⟨w.heap.size + 1 + 1, 1, none⟩ (.int .i64 gcbk)).setCell ⟨w.heap.size + 1 + 1, 2, none⟩ (.string gcbnm)).setCell ⟨w.heap.size + 1 + 1, 3, none⟩ (.int .i64 gcbm)).setCell ⟨w.heap.size + 1 + 1, 4, none⟩ (.int .i64 gcbtk)).setCell ⟨w.heap.size + 1 + 1, 5, none⟩ (.slice gcbta gcbtn gcbtc)).setCell ⟨w.heap.size + 1 + 1, 6, none⟩ (.slice gcbsa gcbsn gcbsc)).setCell ⟨w.heap.size + 1 + 1, 7, none⟩ (.slice gcca gccn gccc)) w.heap.size #[.slice pba pbn pbc, .int .i64 pcbk, .string pcbnm, .int .i64 pcbm, .int .i64 pcbtk, .slice pcbta pcbtn pcbtc, .slice pcbsa pcbsn pcbsc, .slice pcca pccn pccc, .slice pda pdn pdc]) := BoxAt.besideAll (p := w.heap.size + 1 + 1) [.int .i64 gcbk, .string gcbnm, .int .i64 gcbm, .int .i64 gcbtk, .slice gcbta gcbtn gcbtc, .slice gcbsa gcbsn gcbsc, .slice gcca gccn gccc] 1 _ XA.out (by omega)
    have FR' : Hid (FreeAt (((((((w2.setCell ⟨w.heap.size + 1 + 1, 1, none⟩ (.int .i64 gcbk)).setCell ⟨w.heap.size + 1 + 1, 2, none⟩ (.string gcbnm)).setCell ⟨w.heap.size + 1 + 1, 3, none⟩ (.int .i64 gcbm)).setCell ⟨w.heap.size + 1 + 1, 4, none⟩ (.int .i64 gcbtk)).setCell ⟨w.heap.size + 1 + 1, 5, none⟩ (.slice gcbta gcbtn gcbtc)).setCell ⟨w.heap.size + 1 + 1, 6, none⟩ (.slice gcbsa gcbsn gcbsc)).setCell ⟨w.heap.size + 1 + 1, 7, none⟩ (.slice gcca gccn gccc)) (w.heap.size + 1)) := FreeAt.storeAll (p := w.heap.size + 1 + 1) [.int .i64 gcbk, .string gcbnm, .int .i64 gcbm, .int .i64 gcbtk, .slice gcbta gcbtn gcbtc, .slice gcbsa gcbsn gcbsc, .slice gcca gccn gccc] 1 _ FR.out
    have FO' : Hid (FreeAt (((((((w2.setCell ⟨w.heap.size + 1 + 1, 1, none⟩ (.int .i64 gcbk)).setCell ⟨w.heap.size + 1 + 1, 2, none⟩ (.string gcbnm)).setCell ⟨w.heap.size + 1 + 1, 3, none⟩ (.int .i64 gcbm)).setCell ⟨w.heap.size + 1 + 1, 4, none⟩ (.int .i64 gcbtk)).setCell ⟨w.heap.size + 1 + 1, 5, none⟩ (.slice gcbta gcbtn gcbtc)).setCell ⟨w.heap.size + 1 + 1, 6, none⟩ (.slice gcbsa gcbsn gcbsc)).setCell ⟨w.heap.size + 1 + 1, 7, none⟩ (.slice gcca gccn gccc)) (w.heap.size + 1 + 1)) := FreeAt.storeAll (p := w.heap.size + 1 + 1) [.int .i64 gcbk, .string gcbnm, .int .i64 gcbm, .int .i64 gcbtk, .slice gcbta gcbtn gcbtc, .slice gcbsa gcbsn gcbsc, .slice gcca gccn gccc] 1 _ FO.out
    have hs2 : (((((((w2.setCell ⟨w.heap.size + 1 + 1, 1, none⟩ (.int .i64 gcbk)).setCell ⟨w.heap.size + 1 + 1, 2, none⟩ (.string gcbnm)).setCell ⟨w.heap.size + 1 + 1, 3, none⟩ (.int .i64 gcbm)).setCell ⟨w.heap.size + 1 + 1, 4, none⟩ (.int .i64 gcbtk)).setCell ⟨w.heap.size + 1 + 1, 5, none⟩ (.slice gcbta gcbtn gcbtc)).setCell ⟨w.heap.size + 1 + 1, 6, none⟩ (.slice gcbsa gcbsn gcbsc)).setCell ⟨w.heap.size + 1 + 1, 7, none⟩ (.slice gcca gccn gccc)).heap.size = w2.heap.size := size_storeAll (p := w.heap.size + 1 + 1) [.int .i64 gcbk, .string gcbnm, .int .i64 gcbm, .int .i64 gcbtk, .slice gcbta gcbtn gcbtc, .slice gcbsa gcbsn gcbsc, .slice gcca gccn gccc] 1 w2
    replace G1 := Lib.hid (G1.out.map fun _ _ ha _ h => h.rest KP.out (Or.inr ha))
    replace G2 := Lib.hid (G2.out.map fun _ _ ha _ h => h.rest KP.out (Or.inr ha))
    have H3 := Lib.hid (HP3.out.below B'.out)
    have o1 := XO.out.2 1
    have u1 := FO.out.2 1
    have o2 := XO.out.2 2
    have u2 := FO.out.2 2
    have o3 := XO.out.2 3
    have u3 := FO.out.2 3
    have o4 := XO.out.2 4
    have u4 := FO.out.2 4
    have o5 := XO.out.2 5
    have u5 := FO.out.2 5
    have o6 := XO.out.2 6
    have u6 := FO.out.2 6
    have o7 := XO.out.2 7
    have u7 := FO.out.2 7
    have a8 := XA.out.2 8
    have a8' := XA'.out.2 8
    go_wp2_with fail
    clear o1 u1 o2 u2 o3 u3 o4 u4 o5 u5 o6 u6 o7 u7 a8 a8' XA XR XO FR FO B KP
    generalize (((((((w2.setCell ⟨w.heap.size + 1 + 1, 1, none⟩ (.int .i64 gcbk)).setCell ⟨w.heap.size + 1 + 1, 2, none⟩ (.string gcbnm)).setCell ⟨w.heap.size + 1 + 1, 3, none⟩ (.int .i64 gcbm)).setCell ⟨w.heap.size + 1 + 1, 4, none⟩ (.int .i64 gcbtk)).setCell ⟨w.heap.size + 1 + 1, 5, none⟩ (.slice gcbta gcbtn gcbtc)).setCell ⟨w.heap.size + 1 + 1, 6, none⟩ (.slice gcbsa gcbsn gcbsc)).setCell ⟨w.heap.size + 1 + 1, 7, none⟩ (.slice gcca gccn gccc)) = y2 at B' XO' XR' XA' FR' FO' G1 G2 H3 hs2 ⊢
    have B := B'; clear B'
    have XA := XA'; clear XA'
    have XR := XR'; clear XR'
    have XO := XO'; clear XO'
    have FR := FR'; clear FR'
    have FO := FO'; clear FO'
    refine (toEdts d _ x3 y2 hn3 H3.out).mono ?_
    rintro e w3 ⟨v3, fp, rfl, ht, hf, hb⟩
    have hz3 := hb.size
    rw [hs2] at hz3
    obtain ⟨gda, gdn, gdc, rfl⟩ := edts_parts ht.at_
    have G3 : Hid (Wi (w.heap.size + 3) w3.heap.size (EdtsIn w3 d (.slice gda gdn gdc) x3)) := ⟨_, _, (by omega), Nat.le_refl _, ht⟩
    replace B := Lib.hid (below_thru B.out (Nat.le_refl _) hb)
    replace XA := Lib.hid (XA.out.below hb)
    replace XR := Lib.hid (XR.out.below hb)
    replace XO := Lib.hid (XO.out.below hb)
    replace FR := Lib.hid (FR.out.below hb)
    replace FO := Lib.hid (FO.out.below hb)
    replace G1 := Lib.hid (G1.out.map fun _ _ _ _ h => h.below hb)
    replace G2 := Lib.hid (G2.out.map fun _ _ _ _ h => h.below hb)
    clear ht hf hb H3
    have o0 := XO.out.2 0
    have u0 := FO.out.2 0
    have r0 := XR.out.2 0
    have s0 := FR.out.2 0
    have o1 := XO.out.2 1
    have u1 := FO.out.2 1
    have r1 := XR.out.2 1
    have s1 := FR.out.2 1
    have o2 := XO.out.2 2
    have u2 := FO.out.2 2
    have r2 := XR.out.2 2
    have s2 := FR.out.2 2
    have o3 := XO.out.2 3
    have u3 := FO.out.2 3
    have r3 := XR.out.2 3
    have s3 := FR.out.2 3
    have o4 := XO.out.2 4
    have u4 := FO.out.2 4
    have r4 := XR.out.2 4
    have s4 := FR.out.2 4
    have o5 := XO.out.2 5
    have u5 := FO.out.2 5
    have r5 := XR.out.2 5
    have s5 := FR.out.2 5
    have o6 := XO.out.2 6
    have u6 := FO.out.2 6
    have r6 := XR.out.2 6
    have s6 := FR.out.2 6
    have o7 := XO.out.2 7
    have u7 := FO.out.2 7
    have r7 := XR.out.2 7
    have s7 := FR.out.2 7
    have o8 := XO.out.2 8
    have u8 := FO.out.2 8
    have r8 := XR.out.2 8
    have s8 := FR.out.2 8
    go_wp2_with fail
    clear o0 u0 r0 s0 o1 u1 r1 s1 o2 u2 r2 s2 o3 u3 r3 s3 o4 u4 r4 s4 o5 u5 r5 s5 o6 u6 r6 s6 o7 u7 r7 s7 o8 u8 r8 s8
    have XRF : BoxAt ((((((((((w3.setCell ⟨w.heap.size + 1 + 1, 8, none⟩ (.slice gda gdn gdc)).setCell ⟨w.heap.size + 1, 0, none⟩ (.slice gba gbn gbc)).setCell ⟨w.heap.size + 1, 1, none⟩ (.int .i64 gcbk)).setCell ⟨w.heap.size + 1, 2, none⟩ (.string gcbnm)).setCell ⟨w.heap.size + 1, 3, none⟩ (.int .i64 gcbm)).setCell ⟨w.heap.size + 1, 4, none⟩ (.int .i64 gcbtk)).setCell ⟨w.heap.size + 1, 5, none⟩ (.slice gcbta gcbtn gcbtc)).setCell ⟨w.heap.size + 1, 6, none⟩ (.slice gcbsa gcbsn gcbsc)).setCell ⟨w.heap.size + 1, 7, none⟩ (.slice gcca gccn gccc)).setCell ⟨w.heap.size + 1, 8, none⟩ (.slice gda gdn gdc)) (w.heap.size + 1) #[.slice gba gbn gbc, .int .i64 gcbk, .string gcbnm, .int .i64 gcbm, .int .i64 gcbtk, .slice gcbta gcbtn gcbtc, .slice gcbsa gcbsn gcbsc, .slice gcca gccn gccc, .slice gda gdn gdc] := BoxAt.storeAll [.slice gda gdn gdc] [.slice none 0 0] [.slice gba gbn gbc, .int .i64 gcbk, .string gcbnm, .int .i64 gcbm, .int .i64 gcbtk, .slice gcbta gcbtn gcbtc, .slice gcbsa gcbsn gcbsc, .slice gcca gccn gccc] [] _ (BoxAt.storeAll [.slice gba gbn gbc, .int .i64 gcbk, .string gcbnm, .int .i64 gcbm, .int .i64 gcbtk, .slice gcbta gcbtn gcbtc, .slice gcbsa gcbsn gcbsc, .slice gcca gccn gccc] [.slice none 0 0, .int .i64 0, .string ⟨#[]⟩, .int .i64 0, .int .i64 0, .slice none 0 0, .slice none 0 0, .slice none 0 0] [] [.slice none 0 0] _ (BoxAt.besideAll (p := w.heap.size + 1 + 1) [.slice gda gdn gdc] 8 _ XR.out (by omega)) rfl) rfl
    have hbF : Below w.heap.size w ((((((((((w3.setCell ⟨w.heap.size + 1 + 1, 8, none⟩ (.slice gda gdn gdc)).setCell ⟨w.heap.size + 1, 0, none⟩ (.slice gba gbn gbc)).setCell ⟨w.heap.size + 1, 1, none⟩ (.int .i64 gcbk)).setCell ⟨w.heap.size + 1, 2, none⟩ (.string gcbnm)).setCell ⟨w.heap.size + 1, 3, none⟩ (.int .i64 gcbm)).setCell ⟨w.heap.size + 1, 4, none⟩ (.int .i64 gcbtk)).setCell ⟨w.heap.size + 1, 5, none⟩ (.slice gcbta gcbtn gcbtc)).setCell ⟨w.heap.size + 1, 6, none⟩ (.slice gcbsa gcbsn gcbsc)).setCell ⟨w.heap.size + 1, 7, none⟩ (.slice gcca gccn gccc)).setCell ⟨w.heap.size + 1, 8, none⟩ (.slice gda gdn gdc)) := Below.storeAll (p := w.heap.size + 1) [.slice gda gdn gdc] 8 _ (Below.storeAll (p := w.heap.size + 1) [.slice gba gbn gbc, .int .i64 gcbk, .string gcbnm, .int .i64 gcbm, .int .i64 gcbtk, .slice gcbta gcbtn gcbtc, .slice gcbsa gcbsn gcbsc, .slice gcca gccn gccc] 0 _ (Below.storeAll (p := w.heap.size + 1 + 1) [.slice gda gdn gdc] 8 _ B.out (by omega)) (by omega)) (by omega)
    have KP : Rest w.heap.size (w.heap.size + 3) w3 ((((((((((w3.setCell ⟨w.heap.size + 1 + 1, 8, none⟩ (.slice gda gdn gdc)).setCell ⟨w.heap.size + 1, 0, none⟩ (.slice gba gbn gbc)).setCell ⟨w.heap.size + 1, 1, none⟩ (.int .i64 gcbk)).setCell ⟨w.heap.size + 1, 2, none⟩ (.string gcbnm)).setCell ⟨w.heap.size + 1, 3, none⟩ (.int .i64 gcbm)).setCell ⟨w.heap.size + 1, 4, none⟩ (.int .i64 gcbtk)).setCell ⟨w.heap.size + 1, 5, none⟩ (.slice gcbta gcbtn gcbtc)).setCell ⟨w.heap.size + 1, 6, none⟩ (.slice gcbsa gcbsn gcbsc)).setCell ⟨w.heap.size + 1, 7, none⟩ (.slice gcca gccn gccc)).setCell ⟨w.heap.size + 1, 8, none⟩ (.slice gda gdn gdc)) := Rest.storeAll (p := w.heap.size + 1) [.slice gda gdn gdc] 8 _ (Rest.storeAll (p := w.heap.size + 1) [.slice gba gbn gbc, .int .i64 gcbk, .string gcbnm, .int .i64 gcbm, .int .i64 gcbtk, .slice gcbta gcbtn gcbtc, .slice gcbsa gcbsn gcbsc, .slice gcca gccn gccc] 0 _ (Rest.storeAll (p := w.heap.size + 1 + 1) [.slice gda gdn gdc] 8 _ (Rest.refl _ _ _) (by omega) (by omega)) (by omega) (by omega)) (by omega) (by omega)
    have hzf : ((((((((((w3.setCell ⟨w.heap.size + 1 + 1, 8, none⟩ (.slice gda gdn gdc)).setCell ⟨w.heap.size + 1, 0, none⟩ (.slice gba gbn gbc)).setCell ⟨w.heap.size + 1, 1, none⟩ (.int .i64 gcbk)).setCell ⟨w.heap.size + 1, 2, none⟩ (.string gcbnm)).setCell ⟨w.heap.size + 1, 3, none⟩ (.int .i64 gcbm)).setCell ⟨w.heap.size + 1, 4, none⟩ (.int .i64 gcbtk)).setCell ⟨w.heap.size + 1, 5, none⟩ (.slice gcbta gcbtn gcbtc)).setCell ⟨w.heap.size + 1, 6, none⟩ (.slice gcbsa gcbsn gcbsc)).setCell ⟨w.heap.size + 1, 7, none⟩ (.slice gcca gccn gccc)).setCell ⟨w.heap.size + 1, 8, none⟩ (.slice gda gdn gdc)).heap.size = w3.heap.size := (size_storeAll (p := w.heap.size + 1) [.slice gda gdn gdc] 8 _).trans ((size_storeAll (p := w.heap.size + 1) [.slice gba gbn gbc, .int .i64 gcbk, .string gcbnm, .int .i64 gcbm, .int .i64 gcbtk, .slice gcbta gcbtn gcbtc, .slice gcbsa gcbsn gcbsc, .slice gcca gccn gccc] 0 _).trans (size_storeAll (p := w.heap.size + 1 + 1) [.slice gda gdn gdc] 8 w3))
    replace G1 := Lib.hid (G1.out.map fun _ _ ha _ h => h.rest KP (Or.inr ha))
    replace G2 := Lib.hid (G2.out.map fun _ _ ha _ h => h.rest KP (Or.inr ha))
    replace G3 := Lib.hid (G3.out.map fun _ _ ha _ h => h.rest KP (Or.inr ha))
    have g0 := XRF.2 0
    have g1 := XRF.2 1
    have g2 := XRF.2 2
    have g3 := XRF.2 3
    have g4 := XRF.2 4
    have g5 := XRF.2 5
    have g6 := XRF.2 6
    have g7 := XRF.2 7
    have g8 := XRF.2 8
    clear XRF KP B XA XR XO FR FO
    generalize ((((((((((w3.setCell ⟨w.heap.size + 1 + 1, 8, none⟩ (.slice gda gdn gdc)).setCell ⟨w.heap.size + 1, 0, none⟩ (.slice gba gbn gbc)).setCell ⟨w.heap.size + 1, 1, none⟩ (.int .i64 gcbk)).setCell ⟨w.heap.size + 1, 2, none⟩ (.string gcbnm)).setCell ⟨w.heap.size + 1, 3, none⟩ (.int .i64 gcbm)).setCell ⟨w.heap.size + 1, 4, none⟩ (.int .i64 gcbtk)).setCell ⟨w.heap.size + 1, 5, none⟩ (.slice gcbta gcbtn gcbtc)).setCell ⟨w.heap.size + 1, 6, none⟩ (.slice gcbsa gcbsn gcbsc)).setCell ⟨w.heap.size + 1, 7, none⟩ (.slice gcca gccn gccc)).setCell ⟨w.heap.size + 1, 8, none⟩ (.slice gda gdn gdc)) = WX at g0 g1 g2 g3 g4 g5 g6 g7 g8 hzf hbF G1 G2 G3 ⊢
    refine bodyPost_ret (v := .agg #[.slice gba gbn gbc, .int .i64 gcbk, .string gcbnm, .int .i64 gcbm, .int .i64 gcbtk, .slice gcbta gcbtn gcbtc, .slice gcbsa gcbsn gcbsc, .slice gcca gccn gccc, .slice gda gdn gdc]) (by simp [results, Try.results53, go_sem, g0, g1, g2, g3, g4, g5, g6, g7, g8]) rfl ?_
    exact ⟨_, [], rfl, ⟨_, _, _, _, _, _, _, _, _, _, _, _, _, _, _, _, _, _, _, rfl, G1.out.wide (by omega) (by omega), G2.out.wide (by omega) (by omega), G3.out.wide (by omega) (by omega)⟩, rfl, hbF⟩
end Go.Proofs.Ytmmnjdhmankieaa
