/-
  Proved: impl.ParseType reads a valid type from its text, in new memory; the memory that was there stays as it was.
-/
import Derived.Test.YtgoohelkgaklgaaImplPenCo
import Derived.Test.YtgoohelkgaklgaaParseTy
import Derived.Laws.EntriesVeiled
import Derived.Deep.RegionHeld3
namespace Go.Proofs.Ytgoohelkgaklgaa
open Go.RowKit

/-- What typeAt ends in. -/
def TypeAtEnd (s : ByteArray) (w : World) (e : Ending) (w' : World) : Prop :=
  Below w.heap.size w w' ∧
  match rdI 24 800 s.data.toList with
  | some (t, r, _) => ∃ k a m c q fp, e = .returned (.tuple #[.agg #[.int .i64 k, .slice a m c], .int .i64 (q : Nat), .bool true]) ∧ TyOwn w' 24 (.agg #[.int .i64 k, .slice a m c]) t fp ∧ Fp (w.heap.size + 2) w'.heap.size fp ∧ r = s.data.toList.drop q ∧ q ≤ s.size
  | none => ∃ q : Nat, e = .returned (.tuple #[.agg #[.int .i64 0, .slice none 0 0], .int .i64 q, .bool false])
theorem box_of_row {w : World} {p : Nat} {cs : Array Value} {T : TypeId} (h : w.heap[p]? = some (.cells cs T (0, 0))) : BoxAt w p cs :=
  ⟨(Array.getElem?_eq_some_iff.1 h).1, fun j => cell_of_row w p j _ _ _ h⟩
theorem pen_new (w : World) (s : ByteArray) : PenAt (((((((w.alloc (.cells #[.string s] 9)).alloc (.cells #[.int .i64 0, .slice none 0 0] 26)).alloc (.cells #[.int .i64 0] 3)).alloc (.cells #[.int .i64 800] 3)).alloc (.cells #[.func (.func 38) #[] #[.pointer (some ⟨w.heap.size + 1 + 1, 0, none⟩), .pointer (some ⟨w.heap.size, 0, none⟩)]] 69)).alloc (.cells #[.func (.func 42) #[] #[.pointer (some ⟨w.heap.size + 1 + 1 + 1, 0, none⟩), .pointer (some ⟨w.heap.size + 1 + 1 + 1 + 1, 0, none⟩), .pointer (some ⟨w.heap.size + 1 + 1 + 1 + 1 + 1 + 1, 0, none⟩)]] 70)).alloc (.cells #[.func (.func 39) #[] #[.pointer (some ⟨w.heap.size + 1 + 1 + 1 + 1 + 1, 0, none⟩), .pointer (some ⟨w.heap.size + 1 + 1 + 1 + 1, 0, none⟩)]] 70)) w.heap.size s 0 ((800 : Nat) : Int) := by
  have at_ : ∀ (x : World) (o : Obj) (k : Nat), x.heap.size = k → (x.alloc o).heap[k]? = some o := fun x o k h => by subst h; exact heap_alloc_new x o
  have old : ∀ (x : World) (o : Obj) (k : Nat), k < x.heap.size → (x.alloc o).heap[k]? = x.heap[k]? := fun x o k h => heap_alloc_old x o h
  refine ⟨?_, ?_, ?_, ?_, ?_, ?_⟩
  · rw [old _ _ _ (by simp; omega), old _ _ _ (by simp; omega), old _ _ _ (by simp; omega), old _ _ _ (by simp; omega), old _ _ _ (by simp; omega), old _ _ _ (by simp)]
    exact at_ _ _ _ rfl
  · rw [old _ _ _ (by simp), old _ _ _ (by simp), old _ _ _ (by simp), old _ _ _ (by simp)]
    exact at_ _ _ _ (by simp)
  · rw [old _ _ _ (by simp), old _ _ _ (by simp), old _ _ _ (by simp)]
    exact at_ _ _ _ (by simp)
  · rw [old _ _ _ (by simp), old _ _ _ (by simp)]
    exact at_ _ _ _ (by simp)
  · rw [old _ _ _ (by simp)]
    exact at_ _ _ _ (by simp)
  · exact at_ _ _ _ (by simp)
theorem own_higher {w : World} : ∀ {d : Nat} {v : Value} {t : Ty} {fp : List Nat}, TyOwn w d v t fp → TyOwn w (d + 1) v t fp
  | 0, _, _, _, h => h.elim
  | d + 1, v, .node k ts, fp, h => by
    obtain ⟨sl, hv, h0, h1, h⟩ := h
    exact ⟨sl, hv, h0, h1, h.imp (Nat.le_refl _) (fun _ _ => rfl) fun _ _ _ _ h => own_higher h⟩
set_option maxRecDepth 100000 in
set_option maxHeartbeats 4000000 in
theorem implTypeAt (s : ByteArray) (w : World) (hs : s.size ≤ 1048576) :
    Calls Try.prog 21 #[.string s, .int .i64 0] w (TypeAtEnd s w) := by
  have hmf : ∀ (fn : Fn) (first cap : Array Value) (w : World), (Instr.makeFunc fn first cap).run Try.prog w = .ok (.func fn first cap) w := fun _ _ _ _ => rfl
  have HP := Lib.hid (pen_new w s)
  have B : Hid (Below w.heap.size w (((((((w.alloc (.cells #[.string s] 9)).alloc (.cells #[.int .i64 0, .slice none 0 0] 26)).alloc (.cells #[.int .i64 0] 3)).alloc (.cells #[.int .i64 800] 3)).alloc (.cells #[.func (.func 38) #[] #[.pointer (some ⟨w.heap.size + 1 + 1, 0, none⟩), .pointer (some ⟨w.heap.size, 0, none⟩)]] 69)).alloc (.cells #[.func (.func 42) #[] #[.pointer (some ⟨w.heap.size + 1 + 1 + 1, 0, none⟩), .pointer (some ⟨w.heap.size + 1 + 1 + 1 + 1, 0, none⟩), .pointer (some ⟨w.heap.size + 1 + 1 + 1 + 1 + 1 + 1, 0, none⟩)]] 70)).alloc (.cells #[.func (.func 39) #[] #[.pointer (some ⟨w.heap.size + 1 + 1 + 1 + 1 + 1, 0, none⟩), .pointer (some ⟨w.heap.size + 1 + 1 + 1 + 1, 0, none⟩)]] 70))) := ((((((((Below.refl _ _).alloc (Nat.le_refl _) _).alloc (by simp) _).alloc (by simp; omega) _).alloc (by simp; omega) _).alloc (by simp; omega) _).alloc (by simp; omega) _).alloc (by simp; omega) _)
  have XR : Hid (BoxAt (((((((w.alloc (.cells #[.string s] 9)).alloc (.cells #[.int .i64 0, .slice none 0 0] 26)).alloc (.cells #[.int .i64 0] 3)).alloc (.cells #[.int .i64 800] 3)).alloc (.cells #[.func (.func 38) #[] #[.pointer (some ⟨w.heap.size + 1 + 1, 0, none⟩), .pointer (some ⟨w.heap.size, 0, none⟩)]] 69)).alloc (.cells #[.func (.func 42) #[] #[.pointer (some ⟨w.heap.size + 1 + 1 + 1, 0, none⟩), .pointer (some ⟨w.heap.size + 1 + 1 + 1 + 1, 0, none⟩), .pointer (some ⟨w.heap.size + 1 + 1 + 1 + 1 + 1 + 1, 0, none⟩)]] 70)).alloc (.cells #[.func (.func 39) #[] #[.pointer (some ⟨w.heap.size + 1 + 1 + 1 + 1 + 1, 0, none⟩), .pointer (some ⟨w.heap.size + 1 + 1 + 1 + 1, 0, none⟩)]] 70)) (w.heap.size + 1) #[.int .i64 0, .slice none 0 0]) := (((((box_at (BoxAt.new _ _ _) (by simp)).below (below_alloc _ _)).below (below_alloc _ _)).below (below_alloc _ _)).below (below_alloc _ _)).below (below_alloc _ _)
  have XF : Hid (FreeAt (((((((w.alloc (.cells #[.string s] 9)).alloc (.cells #[.int .i64 0, .slice none 0 0] 26)).alloc (.cells #[.int .i64 0] 3)).alloc (.cells #[.int .i64 800] 3)).alloc (.cells #[.func (.func 38) #[] #[.pointer (some ⟨w.heap.size + 1 + 1, 0, none⟩), .pointer (some ⟨w.heap.size, 0, none⟩)]] 69)).alloc (.cells #[.func (.func 42) #[] #[.pointer (some ⟨w.heap.size + 1 + 1 + 1, 0, none⟩), .pointer (some ⟨w.heap.size + 1 + 1 + 1 + 1, 0, none⟩), .pointer (some ⟨w.heap.size + 1 + 1 + 1 + 1 + 1 + 1, 0, none⟩)]] 70)).alloc (.cells #[.func (.func 39) #[] #[.pointer (some ⟨w.heap.size + 1 + 1 + 1 + 1 + 1, 0, none⟩), .pointer (some ⟨w.heap.size + 1 + 1 + 1 + 1, 0, none⟩)]] 70)) (w.heap.size + 1)) := (((((free_at (FreeAt.new _ #[.int .i64 0, .slice none 0 0] _) (by simp)).below (below_alloc _ _)).below (below_alloc _ _)).below (below_alloc _ _)).below (below_alloc _ _)).below (below_alloc _ _)
  go_enter Try.func21, Try.ntmps21
  go_wp2_with fail
  refine (penAll w.heap.size s hs 24 (by omega) 0 800 24 _ rfl (by omega) (by omega) HP.out).mono ?_
  rintro e w2 ⟨hg, hr⟩
  rw [List.drop_zero] at hr
  have hzz := HP.out.top
  have hz2 := hg.2.1
  replace B := Lib.hid (B.out.trans (hg.1.mono (by omega)))
  replace XR := Lib.hid (XR.out.beside hg.2 (Or.inl (by omega)))
  replace XF := Lib.hid (XF.out.beside hg.2 (Or.inl (by omega)))
  have hzw : w.heap.size + 2 ≤ w2.heap.size := by omega
  clear hg HP hzz hz2 hmf
  obtain ⟨o, ho⟩ : ∃ o, o = rdI 24 800 s.data.toList := ⟨_, rfl⟩
  rw [← ho] at hr
  have HO := Lib.hid ho.symm; clear ho
  cases o with
  | none =>
    obtain ⟨q, R', rfl, hq, hP⟩ := hr
    have hb := below_alloc w2 (.cells #[.int .i64 0, .slice none 0 0] 26)
    have HP := Lib.hid (hP.below hb)
    replace XR := Lib.hid (XR.out.below hb)
    replace XF := Lib.hid (XF.out.below hb)
    replace B := Lib.hid (below_thru B.out (Nat.le_refl _) hb)
    have XA : Hid (BoxAt (w2.alloc (.cells #[.int .i64 0, .slice none 0 0] 26)) w2.heap.size #[.int .i64 0, .slice none 0 0]) := BoxAt.new _ _ _
    have XP : Hid (BoxAt (w2.alloc (.cells #[.int .i64 0, .slice none 0 0] 26)) (w.heap.size + 1 + 1) #[.int .i64 (q : Nat)]) := box_of_row HP.out.2.1
    clear hb hP HP
    go_upto_region 7 with fail
    have HZ3 : Hid (w2.heap.size ≤ (w2.alloc (.cells #[.int .i64 0, .slice none 0 0] 26)).heap.size) := by show _ ≤ _; simp
    generalize (w2.alloc (.cells #[.int .i64 0, .slice none 0 0] 26)) = w3 at XR XF B XA XP HZ3 ⊢
    have r0 := XR.out.2 0
    have r1 := XR.out.2 1
    have q0 := XF.out.2 0
    have q1 := XF.out.2 1
    have a0 := XA.out.2 0
    have a1 := XA.out.2 1
    have xp := XP.out.2 0
    go_region
    all_goals go_wp2_with fail
    all_goals refine bodyPost_ret (v := .tuple #[.agg #[.int .i64 0, .slice none 0 0], .int .i64 (q : Nat), .bool false]) (by simp [results, Try.results21, go_sem, r0, r1]) rfl ?_
    all_goals refine ⟨by first | exact ((B.out.setCell (by simp) _).setCell (by simp) _).drew | exact (B.out.drew.setCell (by simp) _).setCell (by simp) _, ?_⟩
    all_goals rw [HO.out]
    all_goals exact ⟨q, rfl⟩
  | some tr =>
    obtain ⟨t, r, Q⟩ := tr
    obtain ⟨ak, aa, an, ac, q, fp, rfl, ht, hf, hrq, hq, hP⟩ := hr
    have HF := Lib.hid (hf.mono (lo' := w.heap.size + 2) (by simp) (Nat.le_refl _)); clear hf
    have hb := below_alloc w2 (.cells #[.int .i64 ak, .slice aa an ac] 26)
    have HP := Lib.hid (hP.below hb)
    replace XR := Lib.hid (XR.out.below hb)
    replace XF := Lib.hid (XF.out.below hb)
    replace B := Lib.hid (below_thru B.out (Nat.le_refl _) hb)
    have XA : Hid (BoxAt (w2.alloc (.cells #[.int .i64 ak, .slice aa an ac] 26)) w2.heap.size #[.int .i64 ak, .slice aa an ac]) := BoxAt.new _ _ _
    have XP : Hid (BoxAt (w2.alloc (.cells #[.int .i64 ak, .slice aa an ac] 26)) (w.heap.size + 1 + 1) #[.int .i64 (q : Nat)]) := box_of_row HP.out.2.1
    have HT := Lib.hid (ht.below hb)
    clear hb hP HP
    go_upto_region 7 with fail
    have HZ3 : Hid (w2.heap.size ≤ (w2.alloc (.cells #[.int .i64 ak, .slice aa an ac] 26)).heap.size) := by show _ ≤ _; simp
    generalize (w2.alloc (.cells #[.int .i64 ak, .slice aa an ac] 26)) = w3 at XR XF B XA XP HZ3 HT ⊢
    have r0 := XR.out.2 0
    have r1 := XR.out.2 1
    have q0 := XF.out.2 0
    have q1 := XF.out.2 1
    have a0 := XA.out.2 0
    have a1 := XA.out.2 1
    have xp := XP.out.2 0
    go_region
    all_goals go_wp2_with fail
    all_goals refine bodyPost_ret (v := .tuple #[.agg #[.int .i64 ak, .slice aa an ac], .int .i64 (q : Nat), .bool true]) (by simp [results, Try.results21, go_sem, r0, r1]) rfl ?_
    all_goals refine ⟨by first | exact ((B.out.setCell (by simp) _).setCell (by simp) _).drew | exact (B.out.drew.setCell (by simp) _).setCell (by simp) _, ?_⟩
    all_goals rw [HO.out]
    all_goals exact ⟨ak, aa, an, ac, q, fp, rfl, HT.out.kept (by simp) (fun b hb => by have := (HF.out.2 b hb).1; show ((w3.setCell _ _).setCell _ _).heap[b]? = _; rw [heap_setCell_other _ _ _ _ (show b ≠ w.heap.size + 1 by omega), heap_setCell_other _ _ _ _ (show b ≠ w.heap.size + 1 by omega)]), HF.out.mono (by omega) (by have := HZ3.out; simp; omega), hrq, hq⟩
set_option maxRecDepth 100000 in
set_option maxHeartbeats 4000000 in
theorem implParseType (s : ByteArray) (w : World) (hs : s.size ≤ 1048576) :
    Calls Try.prog 8 #[.string s] w (ParseTyEnd s w) := by
  have XR : Hid (BoxAt (w.alloc (.cells #[.int .i64 0, .slice none 0 0] 26)) w.heap.size #[.int .i64 0, .slice none 0 0]) := BoxAt.new _ _ _
  have XF : Hid (FreeAt (w.alloc (.cells #[.int .i64 0, .slice none 0 0] 26)) w.heap.size) := FreeAt.new _ _ _
  have B : Hid (Below w.heap.size w (w.alloc (.cells #[.int .i64 0, .slice none 0 0] 26))) := below_alloc _ _
  go_enter Try.func8, Try.ntmps8
  go_wp2_with fail
  refine (implTypeAt s _ hs).mono ?_
  rintro e w2 ⟨hb, hr⟩
  have hz2 := hb.size
  simp only [World.size_alloc] at hz2
  replace XR := Lib.hid (XR.out.below hb)
  replace XF := Lib.hid (XF.out.below hb)
  replace B := Lib.hid (below_thru B.out (Nat.le_refl _) hb)
  clear hb
  obtain ⟨o, ho⟩ : ∃ o, o = rdI 24 800 s.data.toList := ⟨_, rfl⟩
  rw [← ho] at hr
  have HO := Lib.hid ho.symm; clear ho
  cases o with
  | none =>
    obtain ⟨q, rfl⟩ := hr
    have hb := below_alloc w2 (.cells #[.int .i64 0, .slice none 0 0] 26)
    replace XR := Lib.hid (XR.out.below hb)
    replace XF := Lib.hid (XF.out.below hb)
    replace B := Lib.hid (below_thru B.out (Nat.le_refl _) hb)
    clear hb
    have r0 := XR.out.2 0
    have r1 := XR.out.2 1
    have q0 := XF.out.2 0
    have q1 := XF.out.2 1
    go_wp2_with fail
    refine bodyPost_ret (v := .tuple #[.agg #[.int .i64 0, .slice none 0 0], .bool false]) (by simp [results, Try.results8, go_sem, r0, r1]) rfl ?_
    refine parse_no (fun u hu => ?_) ((B.out.setCell (Nat.le_refl _) _).setCell (Nat.le_refl _) _)
    have := I_reads hu
    rw [HO.out] at this
    cases this
  | some tr =>
    obtain ⟨t, r, Q⟩ := tr
    obtain ⟨ak, aa, an, ac, q, fp, rfl, ht, hf, hrq, hq⟩ := hr
    have hb := below_alloc w2 (.cells #[.int .i64 ak, .slice aa an ac] 26)
    have HT := Lib.hid (ht.below hb)
    have HF := Lib.hid (hf.mono (lo' := w.heap.size + 1) (by simp) (Nat.le_refl _))
    have HRQ := Lib.hid hrq
    have XA : Hid (BoxAt (w2.alloc (.cells #[.int .i64 ak, .slice aa an ac] 26)) w2.heap.size #[.int .i64 ak, .slice aa an ac]) := BoxAt.new _ _ _
    replace XR := Lib.hid (XR.out.below hb)
    replace XF := Lib.hid (XF.out.below hb)
    replace B := Lib.hid (below_thru B.out (Nat.le_refl _) hb)
    clear hb ht hf hrq
    have r0 := XR.out.2 0
    have r1 := XR.out.2 1
    have q0 := XF.out.2 0
    have q1 := XF.out.2 1
    have a0 := XA.out.2 0
    have a1 := XA.out.2 1
    by_cases hqs : q = s.size
    · have HQ : Hid (rdI 24 800 s.data.toList = some (t, [], Q)) := by
        show _ = _
        rw [HO.out, HRQ.out, pen_end s q (by omega)]
      have hqb : ((q : Int) != (s.size : Int)) = false := by simp [hqs]
      clear hqs
      go_wp2_with fail
      refine bodyPost_ret (v := .tuple #[.agg #[.int .i64 ak, .slice aa an ac], .bool true]) (by simp [results, Try.results8, go_sem, r0, r1]) rfl ?_
      refine ⟨true, t, ak, aa, an, ac, fp, rfl, ?_, HF.out.mono (by omega) (by simp), (B.out.setCell (Nat.le_refl _) _).setCell (Nat.le_refl _) _, fun _ => reads_I HQ.out, fun h => by cases h⟩
      have h2 := HT.out.kept (w' := (((w2.alloc (.cells #[.int .i64 ak, .slice aa an ac] 26)).setCell ⟨w.heap.size, 0, none⟩ (.int .i64 ak)).setCell ⟨w.heap.size, 1, none⟩ (.slice aa an ac))) (by simp) (fun b hb => by
        have := (HF.out.2 b hb).1
        rw [heap_setCell_other _ _ _ _ (show b ≠ w.heap.size by omega), heap_setCell_other _ _ _ _ (show b ≠ w.heap.size by omega)])
      exact own_higher h2
    · have hqb : ((q : Int) != (s.size : Int)) = true := by rw [bne_iff_ne]; omega
      have HQ := Lib.hid hqs
      clear hqs
      go_wp2_with fail
      refine bodyPost_ret (v := .tuple #[.agg #[.int .i64 0, .slice none 0 0], .bool false]) (by simp [results, Try.results8, go_sem, r0, r1]) rfl ?_
      refine parse_no (fun u hu => ?_) ((B.out.setCell (Nat.le_refl _) _).setCell (Nat.le_refl _) _)
      have h1 := I_reads hu
      rw [HO.out] at h1
      have h2 := Option.some.inj h1
      injection h2 with _ h2
      injection h2 with h2 _
      rw [HRQ.out] at h2
      have h3 := congrArg List.length h2
      rw [List.length_drop, Array.length_toList] at h3
      have h4 : s.data.size = s.size := rfl
      have := HQ.out
      simp at h3
      omega
end Go.Proofs.Ytgoohelkgaklgaa
