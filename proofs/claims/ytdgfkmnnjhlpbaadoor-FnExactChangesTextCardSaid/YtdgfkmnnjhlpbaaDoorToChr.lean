/-
  Proved: laws.toChange copies the value into new memory of its own; it leaves the memory that was there as it was.
-/
import Derived.Test.YtdgfkmnnjhlpbaaDoorAtChr
import Derived.Test.YtdgfkmnnjhlpbaaDoorAtRPath
import Derived.Test.YtdgfkmnnjhlpbaaDoorRecBase
namespace Go.Proofs.YtdgfkmnnjhlpbaaDoor
open Go.RowKit

set_option maxRecDepth 100000 in
set_option maxHeartbeats 4000000 in
theorem toChr (d : Nat) (v : Value) (x : Chr) (w : World) (hn : x.bulk ≤ 1048576) (h : ChrAt w d v x) :
    Calls Tryd.prog 73 #[v] w fun e w' => ∃ v' fp, e = .returned v' ∧ ChrIn w' d v' x w.heap.size w'.heap.size ∧ fp = ([] : List Nat) ∧ Below w.heap.size w w' := by
  cases x with
  | mk x1 x2 =>
    obtain ⟨pba, pbn, pbc, pck, pcnm, pcm, pctk, pcta, pctn, pctc, pcsa, pcsn, pcsc, rfl, h1, h2⟩ := h
    dsimp only at h1 h2 ⊢
    have hbk : (Chr.mk x1 x2).bulk = x1.length + x2.bulk := rfl
    have hn1 : x1.length ≤ 1048576 := by omega
    have hn2 : x2.bulk ≤ 1048576 := by omega
    clear hn hbk
    have HP1 := Lib.hid h1
    have HP2 := Lib.hid h2
    have B : Hid (Below w.heap.size w (((w.alloc (.cells #[.slice pba pbn pbc, .int .i64 pck, .string pcnm, .int .i64 pcm, .int .i64 pctk, .slice pcta pctn pctc, .slice pcsa pcsn pcsc] 94)).alloc (.cells #[.slice none 0 0, .int .i64 0, .string ⟨#[]⟩, .int .i64 0, .int .i64 0, .slice none 0 0, .slice none 0 0] 97)).alloc (.cells #[.slice none 0 0, .int .i64 0, .string ⟨#[]⟩, .int .i64 0, .int .i64 0, .slice none 0 0, .slice none 0 0] 97))) := (((Below.refl _ _).alloc (Nat.le_refl _) _).alloc (by simp) _).alloc (by simp; omega) _
    have XA : Hid (BoxAt (((w.alloc (.cells #[.slice pba pbn pbc, .int .i64 pck, .string pcnm, .int .i64 pcm, .int .i64 pctk, .slice pcta pctn pctc, .slice pcsa pcsn pcsc] 94)).alloc (.cells #[.slice none 0 0, .int .i64 0, .string ⟨#[]⟩, .int .i64 0, .int .i64 0, .slice none 0 0, .slice none 0 0] 97)).alloc (.cells #[.slice none 0 0, .int .i64 0, .string ⟨#[]⟩, .int .i64 0, .int .i64 0, .slice none 0 0, .slice none 0 0] 97)) w.heap.size #[.slice pba pbn pbc, .int .i64 pck, .string pcnm, .int .i64 pcm, .int .i64 pctk, .slice pcta pctn pctc, .slice pcsa pcsn pcsc]) := ((BoxAt.new _ _ _).below (below_alloc _ _)).below (below_alloc _ _)
    have XR : Hid (BoxAt (((w.alloc (.cells #[.slice pba pbn pbc, .int .i64 pck, .string pcnm, .int .i64 pcm, .int .i64 pctk, .slice pcta pctn pctc, .slice pcsa pcsn pcsc] 94)).alloc (.cells #[.slice none 0 0, .int .i64 0, .string ⟨#[]⟩, .int .i64 0, .int .i64 0, .slice none 0 0, .slice none 0 0] 97)).alloc (.cells #[.slice none 0 0, .int .i64 0, .string ⟨#[]⟩, .int .i64 0, .int .i64 0, .slice none 0 0, .slice none 0 0] 97)) (w.heap.size + 1) #[.slice none 0 0, .int .i64 0, .string ⟨#[]⟩, .int .i64 0, .int .i64 0, .slice none 0 0, .slice none 0 0]) := (box_at (BoxAt.new _ _ _) (by simp)).below (below_alloc _ _)
    have XO : Hid (BoxAt (((w.alloc (.cells #[.slice pba pbn pbc, .int .i64 pck, .string pcnm, .int .i64 pcm, .int .i64 pctk, .slice pcta pctn pctc, .slice pcsa pcsn pcsc] 94)).alloc (.cells #[.slice none 0 0, .int .i64 0, .string ⟨#[]⟩, .int .i64 0, .int .i64 0, .slice none 0 0, .slice none 0 0] 97)).alloc (.cells #[.slice none 0 0, .int .i64 0, .string ⟨#[]⟩, .int .i64 0, .int .i64 0, .slice none 0 0, .slice none 0 0] 97)) (w.heap.size + 1 + 1) #[.slice none 0 0, .int .i64 0, .string ⟨#[]⟩, .int .i64 0, .int .i64 0, .slice none 0 0, .slice none 0 0]) := box_at (BoxAt.new _ _ _) (by simp)
    have FR : Hid (FreeAt (((w.alloc (.cells #[.slice pba pbn pbc, .int .i64 pck, .string pcnm, .int .i64 pcm, .int .i64 pctk, .slice pcta pctn pctc, .slice pcsa pcsn pcsc] 94)).alloc (.cells #[.slice none 0 0, .int .i64 0, .string ⟨#[]⟩, .int .i64 0, .int .i64 0, .slice none 0 0, .slice none 0 0] 97)).alloc (.cells #[.slice none 0 0, .int .i64 0, .string ⟨#[]⟩, .int .i64 0, .int .i64 0, .slice none 0 0, .slice none 0 0] 97)) (w.heap.size + 1)) := (free_at (FreeAt.new _ _ _) (by simp)).below (below_alloc _ _)
    have FO : Hid (FreeAt (((w.alloc (.cells #[.slice pba pbn pbc, .int .i64 pck, .string pcnm, .int .i64 pcm, .int .i64 pctk, .slice pcta pctn pctc, .slice pcsa pcsn pcsc] 94)).alloc (.cells #[.slice none 0 0, .int .i64 0, .string ⟨#[]⟩, .int .i64 0, .int .i64 0, .slice none 0 0, .slice none 0 0] 97)).alloc (.cells #[.slice none 0 0, .int .i64 0, .string ⟨#[]⟩, .int .i64 0, .int .i64 0, .slice none 0 0, .slice none 0 0] 97)) (w.heap.size + 1 + 1)) := free_at (FreeAt.new _ _ _) (by simp)
    have hz0 : (((w.alloc (.cells #[.slice pba pbn pbc, .int .i64 pck, .string pcnm, .int .i64 pcm, .int .i64 pctk, .slice pcta pctn pctc, .slice pcsa pcsn pcsc] 94)).alloc (.cells #[.slice none 0 0, .int .i64 0, .string ⟨#[]⟩, .int .i64 0, .int .i64 0, .slice none 0 0, .slice none 0 0] 97)).alloc (.cells #[.slice none 0 0, .int .i64 0, .string ⟨#[]⟩, .int .i64 0, .int .i64 0, .slice none 0 0, .slice none 0 0] 97)).heap.size = w.heap.size + 3 := by simp
    clear h1 h2
    go_enter Tryd.func73, Tryd.ntmps73
    go_wp2_with fail
    have H1 := Lib.hid (HP1.out.below B.out)
    generalize (((w.alloc (.cells #[.slice pba pbn pbc, .int .i64 pck, .string pcnm, .int .i64 pcm, .int .i64 pctk, .slice pcta pctn pctc, .slice pcsa pcsn pcsc] 94)).alloc (.cells #[.slice none 0 0, .int .i64 0, .string ⟨#[]⟩, .int .i64 0, .int .i64 0, .slice none 0 0, .slice none 0 0] 97)).alloc (.cells #[.slice none 0 0, .int .i64 0, .string ⟨#[]⟩, .int .i64 0, .int .i64 0, .slice none 0 0, .slice none 0 0] 97)) = y0 at B H1 XA XR XO FR FO hz0 ⊢
    refine (toRPath d _ x1 y0 hn1 H1.out).mono ?_
    rintro e w1 ⟨v1, fp, rfl, ht, hf, hb⟩
    have hz1 := hb.size
    rw [hz0] at hz1
    obtain ⟨gba, gbn, gbc, rfl⟩ := rpath_parts ht.at_
    have G1 : Hid (Wi (w.heap.size + 3) w1.heap.size (RPathIn w1 d (.slice gba gbn gbc) x1)) := ⟨_, _, (by omega), Nat.le_refl _, ht⟩
    replace B := Lib.hid (below_thru B.out (Nat.le_refl _) hb)
    replace XA := Lib.hid (XA.out.below hb)
    replace XR := Lib.hid (XR.out.below hb)
    replace XO := Lib.hid (XO.out.below hb)
    replace FR := Lib.hid (FR.out.below hb)
    replace FO := Lib.hid (FO.out.below hb)
    clear ht hf hb H1
    have B' : Hid (Below w.heap.size w (w1.setCell ⟨w.heap.size + 1 + 1, 0, none⟩ (.slice gba gbn gbc))) := Below.storeAll (p := w.heap.size + 1 + 1) [.slice gba gbn gbc] 0 _ B.out (by omega)
    have KP : Hid (Rest w.heap.size (w.heap.size + 3) w1 (w1.setCell ⟨w.heap.size + 1 + 1, 0, none⟩ (.slice gba gbn gbc))) := Rest.storeAll (p := w.heap.size + 1 + 1) [.slice gba gbn gbc] 0 _ (Rest.refl _ _ _) (by omega) (by omega)
    have XO' : Hid (BoxAt (w1.setCell ⟨w.heap.size + 1 + 1, 0, none⟩ (.slice gba gbn gbc)) (w.heap.size + 1 + 1) #[.slice gba gbn gbc, .int .i64 0, .string ⟨#[]⟩, .int .i64 0, .int .i64 0, .slice none 0 0, .slice none 0 0]) := by
      have := BoxAt.storeAll [.slice gba gbn gbc] [.slice none 0 0] [] [.int .i64 0, .string ⟨#[]⟩, .int .i64 0, .int .i64 0, .slice none 0 0, .slice none 0 0] _ XO.out rfl
      exact this
    have XR' : Hid (BoxAt (w1.setCell ⟨w.heap.size + 1 + 1, 0, none⟩ (.slice gba gbn gbc)) (w.heap.size + 1) #[.slice none 0 0, .int .i64 0, .string ⟨#[]⟩, .int .i64 0, .int .i64 0, .slice none 0 0, .slice none 0 0]) := BoxAt.besideAll (p := w.heap.size + 1 + 1) [.slice gba gbn gbc] 0 _ XR.out (by omega)
    have XA' : Hid (BoxAt (w1.setCell ⟨w.heap.size + 1 + 1, 0, none⟩ (.slice gba gbn gbc)) w.heap.size #[.slice pba pbn pbc, .int .i64 pck, .string pcnm, .int .i64 pcm, .int .i64 pctk, .slice pcta pctn pctc, .slice pcsa pcsn pcsc]) := BoxAt.besideAll (p := w.heap.size + 1 + 1) [.slice gba gbn gbc] 0 _ XA.out (by omega)
    have FR' : Hid (FreeAt (w1.setCell ⟨w.heap.size + 1 + 1, 0, none⟩ (.slice gba gbn gbc)) (w.heap.size + 1)) := FreeAt.storeAll (p := w.heap.size + 1 + 1) [.slice gba gbn gbc] 0 _ FR.out
    have FO' : Hid (FreeAt (w1.setCell ⟨w.heap.size + 1 + 1, 0, none⟩ (.slice gba gbn gbc)) (w.heap.size + 1 + 1)) := FreeAt.storeAll (p := w.heap.size + 1 + 1) [.slice gba gbn gbc] 0 _ FO.out
    have hs1 : (w1.setCell ⟨w.heap.size + 1 + 1, 0, none⟩ (.slice gba gbn gbc)).heap.size = w1.heap.size := size_storeAll (p := w.heap.size + 1 + 1) [.slice gba gbn gbc] 0 w1
    replace G1 := Lib.hid (G1.out.map fun _ _ ha _ h => h.rest KP.out (Or.inr ha))
    have H2 := Lib.hid (HP2.out.below B'.out)
    have o0 := XO.out.2 0
    have u0 := FO.out.2 0
    have a1 := XA.out.2 1
    have a1' := XA'.out.2 1
    have a2 := XA.out.2 2
    have a2' := XA'.out.2 2
    have a3 := XA.out.2 3
    have a3' := XA'.out.2 3
    have a4 := XA.out.2 4
    have a4' := XA'.out.2 4
    have a5 := XA.out.2 5
    have a5' := XA'.out.2 5
    have a6 := XA.out.2 6
    have a6' := XA'.out.2 6
    go_wp2_with fail
    clear o0 u0 a1 a1' a2 a2' a3 a3' a4 a4' a5 a5' a6 a6' XA XR XO FR FO B KP
    generalize (w1.setCell ⟨w.heap.size + 1 + 1, 0, none⟩ (.slice gba gbn gbc)) = y1 at B' XO' XR' XA' FR' FO' G1 H2 hs1 ⊢
    have B := B'; clear B'
    have XA := XA'; clear XA'
    have XR := XR'; clear XR'
    have XO := XO'; clear XO'
    have FR := FR'; clear FR'
    have FO := FO'; clear FO'
    refine (toExr d _ x2 y1 hn2 H2.out).mono ?_
    rintro e w2 ⟨v2, fp, rfl, ht, hf, hb⟩
    have hz2 := hb.size
    rw [hs1] at hz2
    obtain ⟨gck, gcnm, gcm, gctk, gcta, gctn, gctc, gcsa, gcsn, gcsc, rfl⟩ := ex_parts ht.at_
    have G2 : Hid (Wi (w.heap.size + 3) w2.heap.size (ExIn w2 d (.agg #[.int .i64 gck, .string gcnm, .int .i64 gcm, .int .i64 gctk, .slice gcta gctn gctc, .slice gcsa gcsn gcsc]) x2)) := ⟨_, _, (by omega), Nat.le_refl _, ht⟩
    replace B := Lib.hid (below_thru B.out (Nat.le_refl _) hb)
    replace XA := Lib.hid (XA.out.below hb)
    replace XR := Lib.hid (XR.out.below hb)
    replace XO := Lib.hid (XO.out.below hb)
    replace FR := Lib.hid (FR.out.below hb)
    replace FO := Lib.hid (FO.out.below hb)
    replace G1 := Lib.hid (G1.out.map fun _ _ _ _ h => h.below hb)
    clear ht hf hb H2
    have o0 := XO.out.2 0
    have u0 := FO.out.2 0
    have r0 := XR.out.2 0
    have s0 := FR.out.2 0
    have o1 := XO.out.2 1
    have u1 := FO.out.2 1
    have r1 := XR.out.2 1
    have s1 := FR.out.2 1
    have o2 := XO.out.2 2
    have u2 := FO.out.2 2
    have r2 := XR.out.2 2
    have s2 := FR.out.2 2
    have o3 := XO.out.2 3
    have u3 := FO.out.2 3
    have r3 := XR.out.2 3
    have s3 := FR.out.2 3
    have o4 := XO.out.2 4
    have u4 := FO.out.2 4
    have r4 := XR.out.2 4
    have s4 := FR.out.2 4
    have o5 := XO.out.2 5
    have u5 := FO.out.2 5
    have r5 := XR.out.2 5
    have s5 := FR.out.2 5
    have o6 := XO.out.2 6
    have u6 := FO.out.2 6
    have r6 := XR.out.2 6
    have s6 := FR.out.2 6
    go_wp2_with fail
    clear o0 u0 r0 s0 o1 u1 r1 s1 o2 u2 r2 s2 o3 u3 r3 s3 o4 u4 r4 s4 o5 u5 r5 s5 o6 u6 r6 s6
    have XRF : BoxAt (((((((((((((w2.setCell ⟨w.heap.size + 1 + 1, 1, none⟩ (.int .i64 gck)).setCell ⟨w.heap.size + 1 + 1, 2, none⟩ (.string gcnm)).setCell ⟨w.heap.size + 1 + 1, 3, none⟩ (.int .i64 gcm)).setCell ⟨w.heap.size + 1 + 1, 4, none⟩ (.int .i64 gctk)).setCell ⟨w.heap.size + 1 + 1, 5, none⟩ (.slice gcta gctn gctc)).setCell ⟨w.heap.size + 1 + 1, 6, none⟩ (.slice gcsa gcsn gcsc)).setCell ⟨w.heap.size + 1, 0, none⟩ (.slice gba gbn gbc)).setCell ⟨w.heap.size + 1, 1, none⟩ (.int .i64 gck)).setCell ⟨w.heap.size + 1, 2, none⟩ (.string gcnm)).setCell ⟨w.heap.size + 1, 3, none⟩ (.int .i64 gcm)).setCell ⟨w.heap.size + 1, 4, none⟩ (.int .i64 gctk)).setCell ⟨w.heap.size + 1, 5, none⟩ (.slice gcta gctn gctc)).setCell ⟨w.heap.size + 1, 6, none⟩ (.slice gcsa gcsn gcsc)) (w.heap.size + 1) #[.slice gba gbn gbc, .int .i64 gck, .string gcnm, .int .i64 gcm, .int .i64 gctk, .slice gcta gctn gctc, .slice gcsa gcsn gcsc] := BoxAt.storeAll [.slice gba gbn gbc, .int .i64 gck, .string gcnm, .int .i64 gcm, .int .i64 gctk, .slice gcta gctn gctc, .slice gcsa gcsn gcsc] [.slice none 0 0, .int .i64 0, .string ⟨#[]⟩, .int .i64 0, .int .i64 0, .slice none 0 0, .slice none 0 0] [] [] _ (BoxAt.besideAll (p := w.heap.size + 1 + 1) [.int .i64 gck, .string gcnm, .int .i64 gcm, .int .i64 gctk, .slice gcta gctn gctc, .slice gcsa gcsn gcsc] 1 _ XR.out (by omega)) rfl
    have hbF : Below w.heap.size w (((((((((((((w2.setCell ⟨w.heap.size + 1 + 1, 1, none⟩ (.int .i64 gck)).setCell ⟨w.heap.size + 1 + 1, 2, none⟩ (.string gcnm)).setCell ⟨w.heap.size + 1 + 1, 3, none⟩ (.int .i64 gcm)).setCell ⟨w.heap.size + 1 + 1, 4, none⟩ (.int .i64 gctk)).setCell ⟨w.heap.size + 1 + 1, 5, none⟩ (.slice gcta gctn gctc)).setCell ⟨w.heap.size + 1 + 1, 6, none⟩ (.slice gcsa gcsn gcsc)).setCell ⟨w.heap.size + 1, 0, none⟩ (.slice gba gbn gbc)).setCell ⟨w.heap.size + 1, 1, none⟩ (.int .i64 gck)).setCell ⟨w.heap.size + 1, 2, none⟩ (.string gcnm)).setCell ⟨w.heap.size + 1, 3, none⟩ (.int .i64 gcm)).setCell ⟨w.heap.size + 1, 4, none⟩ (.int .i64 gctk)).setCell ⟨w.heap.size + 1, 5, none⟩ (.slice gcta gctn gctc)).setCell ⟨w.heap.size + 1, 6, none⟩ (.slice gcsa gcsn gcsc)) := Below.storeAll (p := w.heap.size + 1) [.slice gba gbn gbc, .int .i64 gck, .string gcnm, .int .i64 gcm, .int .i64 gctk, .slice gcta gctn gctc, .slice gcsa gcsn gcsc] 0 _ (Below.storeAll (p := w.heap.size + 1 + 1) [.int .i64 gck, .string gcnm, .int .i64 gcm, .int .i64 gctk, .slice gcta gctn gctc, .slice gcsa gcsn gcsc] 1 _ B.out (by omega)) (by omega)
    have KP : Rest w.heap.size (w.heap.size + 3) w2 (((((((((((((w2.setCell ⟨w.heap.size + 1 + 1, 1, none⟩ (.int .i64 gck)).setCell ⟨w.heap.size + 1 + 1, 2, none⟩ (.string gcnm)).setCell ⟨w.heap.size + 1 + 1, 3, none⟩ (.int .i64 gcm)).setCell ⟨w.heap.size + 1 + 1, 4, none⟩ (.int .i64 gctk)).setCell ⟨w.heap.size + 1 + 1, 5, none⟩ (.slice gcta gctn gctc)).setCell ⟨w.heap.size + 1 + 1, 6, none⟩ (.slice gcsa gcsn gcsc)).setCell ⟨w.heap.size + 1, 0, none⟩ (.slice gba gbn gbc)).setCell ⟨w.heap.size + 1, 1, none⟩ (.int .i64 gck)).setCell ⟨w.heap.size + 1, 2, none⟩ (.string gcnm)).setCell ⟨w.heap.size + 1, 3, none⟩ (.int .i64 gcm)).setCell ⟨w.heap.size + 1, 4, none⟩ (.int .i64 gctk)).setCell ⟨w.heap.size + 1, 5, none⟩ (.slice gcta gctn gctc)).setCell ⟨w.heap.size + 1, 6, none⟩ (.slice gcsa gcsn gcsc)) := Rest.storeAll (p := w.heap.size + 1) [.slice gba gbn gbc, .int .i64 gck, .string gcnm, .int .i64 gcm, .int .i64 gctk, .slice gcta gctn gctc, .slice gcsa gcsn gcsc] 0 _ (Rest.storeAll (p := w.heap.size + 1 + 1) [.int .i64 gck, .string gcnm, .int .i64 gcm, .int .i64 gctk, .slice gcta gctn gctc, .slice gcsa gcsn gcsc] 1 _ (Rest.refl _ _ _) (by omega) (by omega)) (by omega) (by omega)
    have hzf : (((((((((((((w2.setCell ⟨w.heap.size + 1 + 1, 1, none⟩ (.int .i64 gck)).setCell ⟨w.heap.size + 1 + 1, 2, none⟩ (.string gcnm)).setCell ⟨w.heap.size + 1 + 1, 3, none⟩ (.int .i64 gcm)).setCell ⟨w.heap.size + 1 + 1, 4, none⟩ (.int .i64 gctk)).setCell ⟨w.heap.size + 1 + 1, 5, none⟩ (.slice gcta gctn gctc)).setCell ⟨w.heap.size + 1 + 1, 6, none⟩ (.slice gcsa gcsn gcsc)).setCell ⟨w.heap.size + 1, 0, none⟩ (.slice gba gbn gbc)).setCell ⟨w.heap.size + 1, 1, none⟩ (.int .i64 gck)).setCell ⟨w.heap.size + 1, 2, none⟩ (.string gcnm)).setCell ⟨w.heap.size + 1, 3, none⟩ (.int .i64 gcm)).setCell ⟨w.heap.size + 1, 4, none⟩ (.int .i64 gctk)).setCell ⟨w.heap.size + 1, 5, none⟩ (.slice gcta gctn gctc)).setCell ⟨w.heap.size + 1, 6, none⟩ (.slice gcsa gcsn gcsc)).heap.size = w2.heap.size := (size_storeAll (p := w.heap.size + 1) [.slice gba gbn gbc, .int .i64 gck, .string gcnm, .int .i64 gcm, .int .i64 gctk, .slice gcta gctn gctc, .slice gcsa gcsn gcsc] 0 _).trans (size_storeAll (p := w.heap.size + 1 + 1) [.int .i64 gck, .string gcnm, .int .i64 gcm, .int .i64 gctk, .slice gcta gctn gctc, .slice gcsa gcsn gcsc] 1 w2)
    replace G1 := Lib.hid (G1.out.map fun _ _ ha _ h => h.rest KP (Or.inr ha))
    replace G2 := Lib.hid (G2.out.map fun _ _ ha _ h => h.rest KP (Or.inr ha))
    have g0 := XRF.2 0
    have g1 := XRF.2 1
    have g2 := XRF.2 2
    have g3 := XRF.2 3
    have g4 := XRF.2 4
    have g5 := XRF.2 5
    have g6 := XRF.2 6
    clear XRF KP B XA XR XO FR FO
    generalize (((((((((((((w2.setCell ⟨w.heap.size + 1 + 1, 1, none⟩ (.int .i64 gck)).setCell ⟨w.heap.size + 1 + 1, 2, none⟩ (.string gcnm)).setCell ⟨w.heap.size + 1 + 1, 3, none⟩ (.int .i64 gcm)).setCell ⟨w.heap.size + 1 + 1, 4, none⟩ (.int .i64 gctk)).setCell ⟨w.heap.size + 1 + 1, 5, none⟩ (.slice gcta gctn gctc)).setCell ⟨w.heap.size + 1 + 1, 6, none⟩ (.slice gcsa gcsn gcsc)).setCell ⟨w.heap.size + 1, 0, none⟩ (.slice gba gbn gbc)).setCell ⟨w.heap.size + 1, 1, none⟩ (.int .i64 gck)).setCell ⟨w.heap.size + 1, 2, none⟩ (.string gcnm)).setCell ⟨w.heap.size + 1, 3, none⟩ (.int .i64 gcm)).setCell ⟨w.heap.size + 1, 4, none⟩ (.int .i64 gctk)).setCell ⟨w.heap.size + 1, 5, none⟩ (.slice gcta gctn gctc)).setCell ⟨w.heap.size + 1, 6, none⟩ (.slice gcsa gcsn gcsc)) = WX at g0 g1 g2 g3 g4 g5 g6 hzf hbF G1 G2 ⊢
    refine bodyPost_ret (v := .agg #[.slice gba gbn gbc, .int .i64 gck, .string gcnm, .int .i64 gcm, .int .i64 gctk, .slice gcta gctn gctc, .slice gcsa gcsn gcsc]) (by simp [results, Tryd.results73, go_sem, g0, g1, g2, g3, g4, g5, g6]) rfl ?_
    exact ⟨_, [], rfl, ⟨_, _, _, _, _, _, _, _, _, _, _, _, _, rfl, G1.out.wide (by omega) (by omega), G2.out.wide (by omega) (by omega)⟩, rfl, hbF⟩
end Go.Proofs.YtdgfkmnnjhlpbaaDoor
