/-
  Proved: spec.ParseType reads a valid type from its text, in new memory; the memory that was there stays as it was.
-/
import Derived.Test.YtgoohelkgaklgaaSpecReadTy
import Derived.Test.YtgoohelkgaklgaaSpecFormatType
import Derived.Test.YtgoohelkgaklgaaParseTy
namespace Go.Proofs.Ytgoohelkgaklgaa
open Go.RowKit

theorem specReadTy (R : Nat) (s : ByteArray) (hs : s.size ≤ 1048576) : ∀ (n p : Nat) (x : Int) (w : World), x = 25 - (n : Int) → n ≤ 24 → p ≤ s.size → RdAt w R s p false →
    Calls Try.prog 27 #[.pointer (some ⟨R, 0, none⟩), .int .i64 x] w (ReadEnd R n s p w)
  | 0, p, x, w, hx, hn, hp, h => specReadStep R s hs 0 (fun m e => by cases e) p x w hx hn hp h
  | n + 1, p, x, w, hx, hn, hp, h => specReadStep R s hs (n + 1) (fun m e p x w hx hp h => by cases e; exact specReadTy R s hs n p x w hx (by omega) hp h) p x w hx hn hp h
set_option maxRecDepth 100000 in
set_option maxHeartbeats 4000000 in
theorem specParseType (s : ByteArray) (w : World) (hs : s.size ≤ 1048576) :
    Calls Try.prog 13 #[.string s] w (ParseTyEnd s w) := by
  have XR : Hid (BoxAt ((w.alloc (.cells #[.int .i64 0, .slice none 0 0] 26)).alloc (.cells #[.string s, .int .i64 0, .bool false] 46)) w.heap.size #[.int .i64 0, .slice none 0 0]) := (BoxAt.new _ _ _).below (below_alloc _ _)
  have XF : Hid (FreeAt ((w.alloc (.cells #[.int .i64 0, .slice none 0 0] 26)).alloc (.cells #[.string s, .int .i64 0, .bool false] 46)) w.heap.size) := (FreeAt.new _ _ _).below (below_alloc _ _)
  have hz1 : (w.alloc (.cells #[.int .i64 0, .slice none 0 0] 26)).heap.size = w.heap.size + 1 := by simp
  have HR : Hid (RdAt ((w.alloc (.cells #[.int .i64 0, .slice none 0 0] 26)).alloc (.cells #[.string s, .int .i64 ((0 : Nat) : Int), .bool false] 46)) (w.heap.size + 1) s 0 false) := by
    show _ = _
    rw [← hz1]; exact heap_alloc_new _ _
  have HZ := Lib.hid hz1; clear hz1
  have B : Hid (Below w.heap.size w ((w.alloc (.cells #[.int .i64 0, .slice none 0 0] 26)).alloc (.cells #[.string s, .int .i64 0, .bool false] 46))) := ((Below.refl _ _).alloc (Nat.le_refl _) _).alloc (by simp) _
  go_enter Try.func13, Try.ntmps13
  go_wp2_with fail
  refine (specReadTy (w.heap.size + 1) s hs 24 0 1 _ (by omega) (by omega) (by omega) HR.out).mono ?_
  rintro e w2 ⟨hg, hr⟩
  rw [List.drop_zero] at hr
  have hz2 := hg.size
  simp only [World.size_alloc] at hz2
  replace XR := Lib.hid (XR.out.grownPast hg (by omega))
  replace XF := Lib.hid (XF.out.grownPast hg (by omega))
  replace B := Lib.hid (B.out.grown hg (by simp; omega) (fun k e => by cases e; omega))
  clear hg HR
  obtain ⟨o, ho⟩ : ∃ o, o = rdS 24 s.data.toList := ⟨_, rfl⟩
  rw [← ho] at hr
  have HO := Lib.hid ho.symm; clear ho
  cases o with
  | none =>
    obtain ⟨ak, aa, an, ac, q, rfl, hr⟩ := hr
    have hb := below_alloc w2 (.cells #[.int .i64 ak, .slice aa an ac] 26)
    have HR := Lib.hid (hr.past (below_grown hb))
    replace XR := Lib.hid (XR.out.below hb)
    replace XF := Lib.hid (XF.out.below hb)
    replace B := Lib.hid (below_thru B.out (Nat.le_refl _) hb)
    clear hb hr
    have x2 := cell_of_row _ (w.heap.size + 1) 2 _ _ _ HR.out
    have r0 := XR.out.2 0
    have r1 := XR.out.2 1
    have q0 := XF.out.2 0
    have q1 := XF.out.2 1
    go_wp2_with fail
    refine bodyPost_ret (v := .tuple #[.agg #[.int .i64 0, .slice none 0 0], .bool false]) (by simp [results, Try.results13, go_sem, r0, r1]) rfl ?_
    refine parse_no (fun u hu => ?_) ((B.out.setCell (Nat.le_refl _) _).setCell (Nat.le_refl _) _)
    have := (S_reads hu).1
    rw [HO.out] at this
    cases this
  | some tr =>
    obtain ⟨t, r⟩ := tr
    obtain ⟨ak, aa, an, ac, q, fp, rfl, ht, hf, hrq, hq, hr⟩ := hr
    subst hrq
    have hb := below_alloc w2 (.cells #[.int .i64 ak, .slice aa an ac] 26)
    have HR := Lib.hid (hr.past (below_grown hb))
    have HT := Lib.hid (ht.below hb)
    have HF := Lib.hid (hf.mono (lo' := w.heap.size + 1) (by simp) (Nat.le_refl _))
    have XA : Hid (BoxAt (w2.alloc (.cells #[.int .i64 ak, .slice aa an ac] 26)) w2.heap.size #[.int .i64 ak, .slice aa an ac]) := BoxAt.new _ _ _
    replace XR := Lib.hid (XR.out.below hb)
    replace XF := Lib.hid (XF.out.below hb)
    replace B := Lib.hid (below_thru B.out (Nat.le_refl _) hb)
    clear hb hr ht hf
    obtain ⟨hfo, hsd, hdp⟩ := rdS_sound _ _ _ _ HO.out
    have hts : t.size ≤ 1048577 := by
      have h1 := tl_size _ t (Nat.le_refl _) hfo
      have h2 := congrArg List.length hsd
      rw [List.length_append, Array.length_toList] at h2
      have h3 : s.data.size = s.size := rfl
      omega
    clear hfo hsd hdp
    have x1 := cell_of_row _ (w.heap.size + 1) 1 _ _ _ HR.out
    have x2 := cell_of_row _ (w.heap.size + 1) 2 _ _ _ HR.out
    by_cases hqs : q = s.size
    · have HQ : Hid (s.data.toList.drop q = []) := by show _ = _; rw [drop_end s q (by omega)]
      have HQS := Lib.hid hqs
      have hqb : ((q : Int) != (s.size : Int)) = false := by simp [hqs]
      clear hqs
      have a0 := XA.out.2 0
      have a1 := XA.out.2 1
      go_wp2_with fail
      clear x1 x2 a0 a1 hqb
      refine (specFormatType 25 _ t _ HT.out.at_ hts).mono ?_
      rintro e w3 ⟨rfl, hb⟩
      have hz3 := hb.size
      replace HT := Lib.hid (HT.out.below hb)
      replace XA := Lib.hid (XA.out.below hb)
      replace XR := Lib.hid (XR.out.below hb)
      replace XF := Lib.hid (XF.out.below hb)
      replace B := Lib.hid (below_thru B.out (Nat.le_refl _) hb)
      clear hb
      have a0 := XA.out.2 0
      have a1 := XA.out.2 1
      have r0 := XR.out.2 0
      have r1 := XR.out.2 1
      have q0 := XF.out.2 0
      have q1 := XF.out.2 1
      cases hfs : ((formatText t).toList == s.toList) with
      | true =>
        have HFS := Lib.hid hfs
        go_wp2_with fail
        refine bodyPost_ret (v := .tuple #[.agg #[.int .i64 ak, .slice aa an ac], .bool true]) (by simp [results, Try.results13, go_sem, r0, r1]) rfl ?_
        have hkeep : ∀ b, w.heap.size + 1 ≤ b → ((w3.setCell ⟨w.heap.size, 0, none⟩ (.int .i64 ak)).setCell ⟨w.heap.size, 1, none⟩ (.slice aa an ac)).heap[b]? = w3.heap[b]? := fun b hb => by
          rw [heap_setCell_other _ _ _ _ (show b ≠ w.heap.size by omega), heap_setCell_other _ _ _ _ (show b ≠ w.heap.size by omega)]
        refine ⟨true, t, ak, aa, an, ac, fp, rfl, HT.out.kept (by simp) (fun b hb => hkeep b (HF.out.2 b hb).1), HF.out.mono (by omega) (by simp at hz3 ⊢; omega), (B.out.setCell (Nat.le_refl _) _).setCell (Nat.le_refl _) _, fun _ => ?_, fun h => by cases h⟩
        have hfe : formatText t = s := by
          have h := HFS.out
          rw [beq_iff_eq, ByteArray.toList_eq, ByteArray.toList_eq] at h
          have h2 := Array.toList_inj.1 h
          cases hx : formatText t; cases s; rw [hx] at h2; simp at h2; rw [h2]
        refine reads_S hfe (fun e => ?_)
        have := HO.out
        rw [e] at this
        cases this
      | false =>
        have HFS := Lib.hid hfs
        go_wp2_with fail
        refine bodyPost_ret (v := .tuple #[.agg #[.int .i64 0, .slice none 0 0], .bool false]) (by simp [results, Try.results13, go_sem, r0, r1]) rfl ?_
        refine parse_no (fun u hu => ?_) ((B.out.setCell (Nat.le_refl _) _).setCell (Nat.le_refl _) _)
        have h1 := S_reads hu
        rw [HO.out] at h1
        have h2 := Option.some.inj h1.1
        injection h2 with h2 _
        have h := HFS.out
        rw [h2, h1.2] at h
        simp at h
    · have hqb : ((q : Int) != (s.size : Int)) = true := by rw [bne_iff_ne]; omega
      have HQ := Lib.hid hqs
      clear hqs
      have r0 := XR.out.2 0
      have r1 := XR.out.2 1
      have q0 := XF.out.2 0
      have q1 := XF.out.2 1
      go_wp2_with fail
      refine bodyPost_ret (v := .tuple #[.agg #[.int .i64 0, .slice none 0 0], .bool false]) (by simp [results, Try.results13, go_sem, r0, r1]) rfl ?_
      refine parse_no (fun u hu => ?_) ((B.out.setCell (Nat.le_refl _) _).setCell (Nat.le_refl _) _)
      have h1 := (S_reads hu).1
      rw [HO.out] at h1
      have h2 := Option.some.inj h1
      injection h2 with _ h2
      have h3 := congrArg List.length h2
      rw [List.length_drop, Array.length_toList] at h3
      have h4 : s.data.size = s.size := rfl
      have := HQ.out
      simp at h3
      omega
end Go.Proofs.Ytgoohelkgaklgaa
