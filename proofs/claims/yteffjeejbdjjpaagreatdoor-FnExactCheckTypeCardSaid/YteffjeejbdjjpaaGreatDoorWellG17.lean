/-
  Proved: impl.Consistent says whether two types agree; the memory that was there stays as it was.
-/
import Derived.Test.YteffjeejbdjjpaaGreatDoorWellG6
import Derived.Test.YteffjeejbdjjpaaGreatDoorWellG16
import Derived.Test.YteffjeejbdjjpaaGreatDoorWellG4
import Derived.Deep.RegionLaw
import Derived.Deep.CutRange
/-
  Proved: impl.IsValidType says whether a type's tree is a valid type; it leaves the memory that was there as it was.
-/
namespace Go.Proofs.YteffjeejbdjjpaaGreatDoor
open Go.RowKit

theorem within_valid (t : Ty) : within t 800 24 = t.valid := by
  have e1 : decide ((t.size : Int) ≤ 800) = decide (t.size ≤ 800) := decide_eq_decide.2 (by omega)
  have e2 : decide ((t.depth : Int) ≤ 24) = decide (t.depth ≤ 24) := decide_eq_decide.2 (by omega)
  unfold within Ty.valid
  rw [e1, e2]
set_option maxRecDepth 100000 in
set_option maxHeartbeats 1000000 in
theorem implValid (d : Nat) (v : Value) (t : Ty) (w : World) (h : TyAt w d v t) (hsz : t.size ≤ 1048577) :
    Calls Tryz.prog 47 #[v] w fun e w' => e = .returned (.bool t.valid) ∧ Below w.heap.size w w' := by
  have HT := Lib.hid h
  obtain ⟨yk, ya, yn, yc, rfl⟩ := agg_parts h
  clear h
  have X : Hid (Below w.heap.size w ((w.alloc (.cells #[.int .i64 yk, .slice ya yn yc] 33)).alloc (.cells #[.int .i64 800] 3))) := ((Below.refl _ _).alloc (Nat.le_refl _) _).alloc (by simp) _
  go_enter Tryz.func47, Tryz.ntmps47
  go_wp2_with fail
  refine (implWithin w d _ t (w.heap.size + 1) 800 24 _ HT.out X.out (by omega) hsz (by simp) (by omega) (by omega) (by omega) (by omega) (by simp [go_sem]) (by simp [go_sem])).mono ?_
  intro e w' hend
  obtain ⟨r', rfl, hr, _⟩ := hend.room
  have HB := Lib.hid (X.out.trans (hr.2.2.1.mono (Nat.le_succ _)))
  clear hend hr
  go_wp2_with fail
  go_ret
  exact ⟨by rw [within_valid]; rfl, HB.out⟩
end Go.Proofs.YteffjeejbdjjpaaGreatDoor
/-
  Proved: impl.meetOfParts gives the meet of two types of one kind part by part, and impl.meetOf gives the meet of two types; the memory that was there stays as it was.
-/
namespace Go.Proofs.YteffjeejbdjjpaaGreatDoor
open Go.RowKit

/-- The element that a round has made: it lies in the box at p of the world w5; where the parts agree it has blocks of its own. -/
def EltAt (wr : World) (d : Nat) (zk : Int) (za : Option Addr) (zn zc p : Nat) (ok : Bool) (t : Ty) (w5 : World) : Prop :=
  Below wr.heap.size wr w5 ∧ wr.heap.size ≤ p ∧ BoxAt w5 p #[.int .i64 zk, .slice za zn zc] ∧ (ok = true → ∃ fp, TyOwn w5 d (.agg #[.int .i64 zk, .slice za zn zc]) t fp ∧ Fp wr.heap.size w5.heap.size fp)
theorem elt_new {wr w' : World} {d : Nat} {zk : Int} {za : Option Addr} {zn zc : Nat} {ok : Bool} {t : Ty} {fp : List Nat} {T : TypeId} (h : ok = true → TyOwn w' d (.agg #[.int .i64 zk, .slice za zn zc]) t fp ∧ Fp wr.drew.heap.size w'.heap.size fp) (hb : Below wr.heap.size wr w') :
    EltAt wr d zk za zn zc w'.heap.size ok t (w'.alloc (.cells #[.int .i64 zk, .slice za zn zc] T)) :=
  ⟨hb.alloc hb.size _, hb.size, BoxAt.new _ _ _, fun e => ⟨fp, (h e).1.below (below_alloc _ _), (h e).2.mono (by simp) (by simp)⟩⟩
theorem elt_stored {wr wa w' : World} {d : Nat} {zk : Int} {za : Option Addr} {zn zc : Nat} {ok : Bool} {t : Ty} {fp : List Nat} (hza : wa.heap.size = wr.heap.size + 1) (h : ok = true → TyOwn w' d (.agg #[.int .i64 zk, .slice za zn zc]) t fp ∧ Fp wa.heap.size w'.heap.size fp) (hb : Below wr.heap.size wr w')
    (s : BoxAt w' wr.heap.size #[.int .i64 0, .slice none 0 0]) :
    EltAt wr d zk za zn zc wr.heap.size ok t ((w'.setCell ⟨wr.heap.size, 0, none⟩ (.int .i64 zk)).setCell ⟨wr.heap.size, 1, none⟩ (.slice za zn zc)) := by
  refine ⟨(hb.setCell (by simp) _).setCell (by simp) _, Nat.le_refl _, ?_, fun e => ⟨fp, own_put (own_put (h e).1 (h e).2 (by omega)) (h e).2 (by omega), (h e).2.mono (by omega) (by simp)⟩⟩
  exact (BoxAt.put (BoxAt.put s (by simp)) (by simp))
def MeetSaid (d : Nat) : Prop := ∀ (v1 v2 : Value) (t1 t2 : Ty) (w : World), TyAt w d v1 t1 → TyAt w d v2 t2 → t1.form = true → t2.form = true → t1.size ≤ 1048577 → t2.size ≤ 1048577 → MeetTab w → Calls Tryz.prog 117 #[v1, v2] w (MeetEnd d t1 t2 w)
set_option maxRecDepth 100000 in
set_option maxHeartbeats 4000000 in
theorem implParts (d : Nat) (IH : Hid (MeetSaid d)) (k0 : Int) (cs bs : List Ty) (v1 v2 : Value) (w : World) (hkk : k0 = 4 ∨ k0 = 5) (h1 : TyAt w (d + 1) v1 (.node k0 cs)) (h2 : TyAt w (d + 1) v2 (.node k0 bs)) (hf1 : (Ty.node k0 cs).form = true) (hf2 : (Ty.node k0 bs).form = true) (hs1 : (Ty.node k0 cs).size ≤ 1048577) (hs2 : (Ty.node k0 bs).size ≤ 1048577) (htab : MeetTab w) :
    Calls Tryz.prog 119 #[v1, v2] w (MeetEnd (d + 1) (.node k0 cs) (.node k0 bs) w) := by
  obtain ⟨i0, hi, hz0, hz1, hz2⟩ := info_parts info_ty
  have HI := Lib.hid hi
  have HZ0 := Lib.hid hz0
  have HZ1 := Lib.hid hz1
  have HZ2 := Lib.hid hz2
  clear hi hz0 hz1 hz2
  obtain ⟨s1, rfl, hk0, hk1, a1, cap1, rfl, hcap1, hm1, hat1⟩ := h1
  obtain ⟨s2, rfl, hk2, hk3, a2, cap2, rfl, hcap2, hm2, hat2⟩ := h2
  have HA1 := Lib.hid hat1; clear hat1
  have HA2 := Lib.hid hat2; clear hat2
  have HG := Lib.hid htab; clear htab
  have q2 : bs.length = cs.length := form_lenm hf1 hf2
  have HC1 : Hid (Ty.forms cs = true) := by simp only [Ty.form, Bool.and_eq_true] at hf1; exact hf1.1
  have HC2 : Hid (Ty.forms bs = true) := by simp only [Ty.form, Bool.and_eq_true] at hf2; exact hf2.1
  have HS1 : Hid (1 + Ty.sizes cs ≤ 1048577) := by simp [Ty.size] at hs1; show _ ≤ _; omega
  have HS2 : Hid (1 + Ty.sizes bs ≤ 1048577) := by simp [Ty.size] at hs2; show _ ≤ _; omega
  have HQ1 : Hid (Ty.cons (.node k0 cs) (.node k0 bs) = Ty.conss cs bs) := by
    have e : ¬ (k0 = 1) := by omega
    show _ = _; simp [Ty.cons, e]
  have HQ2 : Hid (Ty.meet (.node k0 cs) (.node k0 bs) = .node k0 (Ty.meets cs bs)) := by
    have e : ¬ (k0 = 1) := by omega
    show _ = _; simp [Ty.meet, e]
  have hn2 : cs.length ≤ 1048577 := by have := HS1.out; have := Ty.length_le cs; omega
  clear hf1 hf2 hs1 hs2 hkk hk2 hk3 hcap1 hm1 hcap2 hm2
  rw [q2]
  go_enter Tryz.func119, Tryz.ntmps119
  go_wp2_with fail
  obtain ⟨W0, hW0⟩ : ∃ W0, W0 = ((((w.alloc (.cells #[.int .i64 k0, .slice a1 cs.length cap1] 33)).alloc (.cells #[.int .i64 k0, .slice a2 cs.length cap2] 33)).alloc (.cells #[.int .i64 0, .slice none 0 0] 33)).alloc (.cells #[.int .i64 k0, .slice none 0 0] 33)) := ⟨_, rfl⟩
  have hz0 : W0.heap.size = w.heap.size + 4 := by rw [hW0]; simp
  have HBW : Hid (Below w.heap.size w W0) := by show Below _ _ _; rw [hW0]; exact ((((Below.refl _ _).alloc (Nat.le_refl _) _).alloc (by simp) _).alloc (by simp; omega) _).alloc (by simp; omega) _
  have XA : Hid (BoxAt W0 w.heap.size #[.int .i64 k0, .slice a1 cs.length cap1]) := by show BoxAt _ _ _; rw [hW0]; exact (((BoxAt.new _ _ _).below (below_alloc _ _)).below (below_alloc _ _)).below (below_alloc _ _)
  have XB : Hid (BoxAt W0 (w.heap.size + 1) #[.int .i64 k0, .slice a2 cs.length cap2]) := by show BoxAt _ _ _; rw [hW0]; exact ((box_at (BoxAt.new _ _ _) (by simp)).below (below_alloc _ _)).below (below_alloc _ _)
  have XR : Hid (BoxAt W0 (w.heap.size + 1 + 1) #[.int .i64 0, .slice none 0 0]) := by show BoxAt _ _ _; rw [hW0]; exact (box_at (BoxAt.new _ _ _) (by simp)).below (below_alloc _ _)
  have XF : Hid (FreeAt W0 (w.heap.size + 1 + 1)) := by show FreeAt _ _; rw [hW0]; exact (free_at (FreeAt.new _ _ _) (by simp)).below (below_alloc _ _)
  have XK : Hid (BoxAt W0 (w.heap.size + 1 + 1 + 1) #[.int .i64 k0, .slice none 0 0]) := by show BoxAt _ _ _; rw [hW0]; exact box_at (BoxAt.new _ _ _) (by simp)
  have XG : Hid (FreeAt W0 (w.heap.size + 1 + 1 + 1)) := by show FreeAt _ _; rw [hW0]; exact free_at (FreeAt.new _ _ _) (by simp)
  rw [← hW0]
  clear hW0
  go_loopw [16] (fun i wr => ∃ (k : Nat) (vo : Value), k ≤ cs.length ∧ i = .int .i64 k ∧ wr.cell? ⟨w.heap.size + 1 + 1 + 1, 0, none⟩ = some (.int .i64 k0) ∧ wr.cell? ⟨w.heap.size + 1 + 1 + 1, 1, none⟩ = some vo ∧ wr.frozen? ⟨w.heap.size + 1 + 1 + 1, 1, none⟩ = false ∧
      CopyRow wr (w.heap.size + 4) d vo (Ty.meets (cs.take k) (bs.take k)) ∧ Ty.conss (cs.take k) (bs.take k) = true ∧ Below (w.heap.size + 3) W0 wr) (fun i _ => cs.length - (intOf i).toNat)
  case atStart => exact ⟨0, _, by omega, rfl, XK.out.2 0, XK.out.2 1, XG.out.2 1, by simp only [List.take_zero, Ty.meets]; exact CopyRow.nil _ _ _, by simp [Ty.conss], Below.refl _ _⟩
  case round =>
    obtain ⟨k, vo, hk, rfl, o0, o1, o2, hrow, hcons, hb⟩ := hrel
    have hL : (Ty.meets (cs.take k) (bs.take k)).length = k := by rw [Ty.meets_length _ _ (by simp [q2])]; simp; omega
    obtain ⟨oa, oc, hvo⟩ := hrow.form
    rw [hL] at hvo
    subst hvo
    have HLL := Lib.hid hL; clear hL
    have HROW := Lib.hid hrow; clear hrow
    have HCO := Lib.hid hcons; clear hcons
    have hz := hb.size
    have HB := Lib.hid hb
    have HBW2 := Lib.hid (HBW.out.trans (hb.mono (by omega))); clear hb
    have b1 := (HB.out.cell (p := ⟨w.heap.size, 1, none⟩) (by show w.heap.size < _; omega)).trans (XA.out.2 1)
    have c1 := (HB.out.cell (p := ⟨w.heap.size + 1, 1, none⟩) (by show w.heap.size + 1 < _; omega)).trans (XB.out.2 1)
    by_cases hlt : k < cs.length
    · have hlt2 : k < bs.length := by omega
      obtain ⟨p1, off1, x0, x1, rfl, hbl1, hc10, hc11, ht1⟩ := HA1.out k hlt
      obtain ⟨p2, off2, z0, z1, rfl, hbl2, hc20, hc21, ht2⟩ := HA2.out k hlt2
      have hg1 := Ty.size_get cs k hlt
      have hg2 := Ty.size_get bs k hlt2
      have c10 : wr.cell? ⟨p1, off1 + k * 2, none⟩ = some x0 := by rw [HBW2.out.cell (p := ⟨p1, off1 + k * 2, none⟩) hbl1]; exact hc10
      have c11 : wr.cell? ⟨p1, off1 + k * 2 + 1, none⟩ = some x1 := by rw [HBW2.out.cell (p := ⟨p1, off1 + k * 2 + 1, none⟩) hbl1]; exact hc11
      have c20 : wr.cell? ⟨p2, off2 + k * 2, none⟩ = some z0 := by rw [HBW2.out.cell (p := ⟨p2, off2 + k * 2, none⟩) hbl2]; exact hc20
      have c21 : wr.cell? ⟨p2, off2 + k * 2 + 1, none⟩ = some z1 := by rw [HBW2.out.cell (p := ⟨p2, off2 + k * 2 + 1, none⟩) hbl2]; exact hc21
      have HBA := Lib.hid (below_thru ((Below.refl wr.heap.size wr).alloc (Nat.le_refl _) (.cells #[.int .i64 0, .slice none 0 0] 33)) (by simp) (below_drew (wr.alloc (.cells #[.int .i64 0, .slice none 0 0] 33))))
      have XT : Hid (BoxAt ((wr.alloc (.cells #[.int .i64 0, .slice none 0 0] 33)).drew) wr.heap.size #[.int .i64 0, .slice none 0 0]) := (BoxAt.new _ _ _).below (below_drew _)
      have XH : Hid (FreeAt ((wr.alloc (.cells #[.int .i64 0, .slice none 0 0] 33)).drew) wr.heap.size) := (FreeAt.new _ _ _).below (below_drew _)
      have hzA : ((wr.alloc (.cells #[.int .i64 0, .slice none 0 0] 33)).drew).heap.size = wr.heap.size + 1 := by simp
      have HT1p := Lib.hid (ht1.below HBW2.out)
      have HT2p := Lib.hid (ht2.below HBW2.out)
      have HT1 := Lib.hid ((ht1.below HBW2.out).below HBA.out)
      have HT2 := Lib.hid ((ht2.below HBW2.out).below HBA.out)
      have HGW := Lib.hid ((HG.out.below HBW2.out).below HBA.out)
      have hy1 : cs[k].size ≤ 1048577 := by have := HS1.out; omega
      have hy2 : bs[k].size ≤ 1048577 := by have := HS2.out; omega
      have l1 : p1 < wr.heap.size := Nat.lt_of_lt_of_le hbl1 HBW2.out.size
      have l2 : p2 < wr.heap.size := Nat.lt_of_lt_of_le hbl2 HBW2.out.size
      have d10 := (HBA.out.cell (p := ⟨p1, off1 + k * 2, none⟩) l1).trans c10
      have d11 := (HBA.out.cell (p := ⟨p1, off1 + k * 2 + 1, none⟩) l1).trans c11
      have d20 := (HBA.out.cell (p := ⟨p2, off2 + k * 2, none⟩) l2).trans c20
      have d21 := (HBA.out.cell (p := ⟨p2, off2 + k * 2 + 1, none⟩) l2).trans c21
      have d1 := (HBA.out.cell (p := ⟨w.heap.size, 1, none⟩) (by show w.heap.size < _; omega)).trans b1
      have d2 := (HBA.out.cell (p := ⟨w.heap.size + 1, 1, none⟩) (by show w.heap.size + 1 < _; omega)).trans c1
      clear ht1 ht2 hc10 hc11 hc20 hc21 hg1 hg2
      have HT1d := Lib.hid (HT1p.out.below (below_drew wr))
      have HT2d := Lib.hid (HT2p.out.below (below_drew wr))
      have HGWd := Lib.hid ((HG.out.below HBW2.out).below (below_drew wr))
      go_upto_region 5 with fail
      go_cut [8, 9, 16] from 16 to 42 (fun s8 s9 s16 wx => s16 = .int .i64 k ∧ ∃ zk za zn zc p, s8 = .pointer (some ⟨p, 0, none⟩) ∧ s9 = .bool (cs[k].cons bs[k]) ∧ EltAt wr d zk za zn zc p (cs[k].cons bs[k]) (cs[k].meet bs[k]) wx)
      case first =>
       go_region_law (first
        | (go_simp
           go_at_call 117
           refine (IH.out _ _ _ _ _ HT1.out HT2.out (Ty.forms_getm cs HC1.out k hlt) (Ty.forms_getm bs HC2.out k hlt2) hy1 hy2 HGW.out).mono ?_
           rintro e w' ⟨zk, za, zn, zc, fp, rfl, hyes, hnot, hb1⟩
           have s0 := (XT.out.below hb1).2 0
           have s1 := (XT.out.below hb1).2 1
           have f0 := (XH.out.below hb1).2 0
           have f1 := (XH.out.below hb1).2 1
           have hz1 := hb1.size
           rw [hzA] at hz1
           have HF5 : Hid (EltAt wr d zk za zn zc wr.heap.size (cs[k].cons bs[k]) (cs[k].meet bs[k]) ((w'.setCell ⟨wr.heap.size, 0, none⟩ (.int .i64 zk)).setCell ⟨wr.heap.size, 1, none⟩ (.slice za zn zc))) := elt_stored hzA hyes (HBA.out.trans (hb1.mono HBA.out.size)) (XT.out.below hb1)
           clear hyes hnot hb1)
        | (go_simp
           go_at_call 117
           refine (IH.out _ _ _ _ _ HT1d.out HT2d.out (Ty.forms_getm cs HC1.out k hlt) (Ty.forms_getm bs HC2.out k hlt2) hy1 hy2 HGWd.out).mono ?_
           rintro e w' ⟨zk, za, zn, zc, fp, rfl, hyes, hnot, hb1⟩
           have hz1 := hb1.size
           have HF5 : Hid (EltAt wr d zk za zn zc w'.heap.size (cs[k].cons bs[k]) (cs[k].meet bs[k]) (w'.alloc (.cells #[.int .i64 zk, .slice za zn zc] 33))) := elt_new hyes (below_thru (below_drew wr) (Nat.le_refl _) hb1)
           clear hyes hnot hb1))
       all_goals (go_wp2_with fail; go_meet; exact ⟨rfl, _, _, _, _, _, rfl, rfl, HF5.out⟩)
      case rest =>
        obtain ⟨rfl, zk, za, zn, zc, p, rfl, rfl, hel⟩ := hcut
        have HEL := Lib.hid hel; clear hel
        have hzc := HEL.out.1.size
        have HB5 := Lib.hid (HB.out.trans (HEL.out.1.mono (by omega)))
        have HBW5 := Lib.hid (HBW.out.trans (HB5.out.mono (by omega)))
        have HTK := Lib.hid (Ty.conss_take cs bs k hlt hlt2)
        have e0 := HEL.out.2.2.1.2 0
        have e1 := HEL.out.2.2.1.2 1
        have o0' := (HEL.out.1.cell (p := ⟨w.heap.size + 1 + 1 + 1, 0, none⟩) (by show w.heap.size + 1 + 1 + 1 < _; omega)).trans o0
        have o1' := (HEL.out.1.cell (p := ⟨w.heap.size + 1 + 1 + 1, 1, none⟩) (by show w.heap.size + 1 + 1 + 1 < _; omega)).trans o1
        have o2' := (HEL.out.1.frozen (p := ⟨w.heap.size + 1 + 1 + 1, 1, none⟩) (by show w.heap.size + 1 + 1 + 1 < _; omega)).trans o2
        clear d10 d11 d20 d21 d1 d2 c10 c11 c20 c21 o0 o1 o2 b1 c1
        cases hc : cs[k].cons bs[k] with
        | false =>
          have HFC : Hid (Ty.conss cs bs = false) := Ty.conss_false cs bs (k + 1) (by rw [HTK.out, HCO.out, hc]; rfl) q2.symm
          have p10 := (HB5.out.cell (p := ⟨w.heap.size + 1 + 1, 0, none⟩) (by show w.heap.size + 1 + 1 < _; omega)).trans (XR.out.2 0)
          have p11 := (HB5.out.cell (p := ⟨w.heap.size + 1 + 1, 1, none⟩) (by show w.heap.size + 1 + 1 < _; omega)).trans (XR.out.2 1)
          have q10 := (HB5.out.frozen (p := ⟨w.heap.size + 1 + 1, 0, none⟩) (by show w.heap.size + 1 + 1 < _; omega)).trans (XF.out.2 0)
          have q11 := (HB5.out.frozen (p := ⟨w.heap.size + 1 + 1, 1, none⟩) (by show w.heap.size + 1 + 1 < _; omega)).trans (XF.out.2 1)
          go_wp2_with fail
          refine bodyPost_ret (v := .tuple #[.agg #[.int .i64 0, .slice none 0 0], .bool false]) (by simp [results, Tryz.results119, go_sem, p10, p11]) rfl ?_
          exact meet_no (by rw [HQ1.out]; exact HFC.out) ((HBW5.out.setCell (by dsimp only; omega) _).setCell (by dsimp only; omega) _)
        | true =>
          obtain ⟨fp, ht, hft⟩ := HEL.out.2.2.2 hc
          obtain ⟨csx, hown, happ⟩ := HROW.out.append HEL.out.1 (by omega) ht hft
          rw [HLL.out] at hown happ
          have HOWN := Lib.hid hown
          have HAPP := Lib.hid happ
          clear hown happ ht hft
          go_wp2_with (at_builtin; go_must (refine wpList_append_lies _ rfl (.tmp 37) (.tmp 39) 31 rfl (w.heap.size + 4) 33 i0 (.agg #[.int .i64 0, .slice none 0 0]) 2 32 Tryz.underlying31 HI.out HZ0.out HZ1.out HZ2.out rfl (by omega) (.slice oa k oc) k csx rfl (HOWN.out.alloc _) ⟨wc.heap.size, 0, none⟩ 1 1 [.int .i64 zk, .slice za zn zc] rfl rfl (World.news_of_block (cs := #[.int .i64 zk, .slice za zn zc]) (t := 33) (fr := (0, 0)) (heap_alloc_new wc _)) (by simp [Value.oneCell']) (by omega) (by unfold maxLen; omega) (by omega) (by simp; omega) (wc.heap.size + 1) (by simp) ?_); intro g gc w1 hown1 hgrow hat1 hlt1; refine Hid.out ?_)
          refine Lib.hid ?_
          have hne : some (w.heap.size + 1 + 1 + 1) ≠ (Value.slice oa k oc).ownBlock := fun e => by have := (HOWN.out.lt _ e.symm).1; omega
          have hlw : w.heap.size + 1 + 1 + 1 < wc.heap.size := by omega
          have k1 : w1.cell? ⟨w.heap.size + 1 + 1 + 1, 1, none⟩ = some (.slice oa k oc) := by
            rw [hgrow.cell_far _ (by simp; omega) hne, World.cell?_of_block (heap_alloc_old _ _ hlw)]; exact o1'
          have k0' : w1.cell? ⟨w.heap.size + 1 + 1 + 1, 0, none⟩ = some (.int .i64 k0) := by
            rw [hgrow.cell_far _ (by simp; omega) hne, World.cell?_of_block (heap_alloc_old _ _ hlw)]; exact o0'
          have k2 : w1.frozen? ⟨w.heap.size + 1 + 1 + 1, 1, none⟩ = false := by
            rw [hgrow.frozen_far _ (by simp; omega) hne, World.frozen?_of_block (heap_alloc_old _ _ hlw)]; exact o2'
          have HR1 := Lib.hid (HAPP.out _ g gc w1 hown1 hgrow hat1)
          have hz2 := hgrow.size
          have HB3 : Hid (Below (w.heap.size + 3) W0 w1) := (HB5.out.alloc (by omega) _).grown hgrow (by simp; omega) (fun k hk => by have := (HOWN.out.lt _ hk).1; omega)
          clear hown1 hgrow hat1 hlt1 hne hlw
          go_wp2_with fail
          go_roundw
          case rel =>
            exact ⟨k + 1, .slice (some ⟨g, 0, none⟩) (k + 1) gc, by omega, by go_num, by simp [go_sem, k0'], by simp [go_sem, k1], by simp [go_sem, k2], by rw [Ty.meets_take cs bs k hlt hlt2]; exact HR1.out.stored (by omega) _, by rw [HTK.out, HCO.out, hc]; rfl, HB3.out.setCell (by simp) _⟩
          case measure => simp [intOf]; omega
    · have HFC : Hid (Ty.conss cs bs = true) := by
        obtain rfl : k = cs.length := by omega
        have := HCO.out
        rw [List.take_length, ← q2, List.take_length] at this; exact this
      obtain rfl : k = cs.length := by omega
      have p10 := (HB.out.cell (p := ⟨w.heap.size + 1 + 1, 0, none⟩) (by show w.heap.size + 1 + 1 < _; omega)).trans (XR.out.2 0)
      have p11 := (HB.out.cell (p := ⟨w.heap.size + 1 + 1, 1, none⟩) (by show w.heap.size + 1 + 1 < _; omega)).trans (XR.out.2 1)
      have q10 := (HB.out.frozen (p := ⟨w.heap.size + 1 + 1, 0, none⟩) (by show w.heap.size + 1 + 1 < _; omega)).trans (XF.out.2 0)
      have q11 := (HB.out.frozen (p := ⟨w.heap.size + 1 + 1, 1, none⟩) (by show w.heap.size + 1 + 1 < _; omega)).trans (XF.out.2 1)
      go_wp2_with fail
      have HR2 := (HROW.out.stored (p := w.heap.size + 1 + 1) (o := 0) (by omega) (.int .i64 k0)).stored (p := w.heap.size + 1 + 1) (o := 1) (by omega) (.slice oa cs.length oc)
      rw [List.take_length, ← q2, List.take_length, q2] at HR2
      obtain ⟨fp, hown, hfp⟩ := HR2.tree k0 hk0 hk1
      refine bodyPost_ret (v := .tuple #[.agg #[.int .i64 k0, .slice oa cs.length oc], .bool true]) (by simp [results, Tryz.results119, go_sem, p10, p11]) rfl ?_
      exact meet_yes ⟨by rw [HQ1.out]; exact HFC.out, HQ2.out⟩ hown (hfp.mono (by omega) (Nat.le_refl _)) ((HBW2.out.setCell (by dsimp only; omega) _).setCell (by dsimp only; omega) _)
theorem implMeetOf : ∀ d, MeetSaid d
  | 0 => fun _ _ _ _ _ h _ _ _ _ _ _ => h.elim
  | d + 1 => fun v1 v2 t1 t2 w h1 h2 hf1 hf2 hz1 hz2 htab =>
    implMeet (d + 1) v1 v2 t1 t2 w h1 h2 hf1 hf2 hz1 hz2 htab fun k cs bs u1 u2 w' e1 e2 hk g1 g2 ht => by
      subst e1
      subst e2
      exact implParts d (implMeetOf d) k cs bs u1 u2 w' hk g1 g2 hf1 hf2 hz1 hz2 ht
end Go.Proofs.YteffjeejbdjjpaaGreatDoor
/-
  Proved: impl.MeetType gives the meet of two types where they agree; the memory that was there stays as it was.
-/
namespace Go.Proofs.YteffjeejbdjjpaaGreatDoor
open Go.RowKit

def Ty.okay (t1 t2 : Ty) : Bool := t1.valid && (t2.valid && t1.cons t2)
def MeetTop (d : Nat) (t1 t2 : Ty) (w : World) (e : Ending) (w' : World) : Prop :=
  ∃ k a n c fp, e = .returned (.tuple #[.agg #[.int .i64 k, .slice a n c], .bool (t1.okay t2)]) ∧ (t1.okay t2 = true → TyOwn w' d (.agg #[.int .i64 k, .slice a n c]) (t1.meet t2) fp ∧ Fp w.heap.size w'.heap.size fp) ∧ (t1.okay t2 = false → k = 0 ∧ a = none ∧ n = 0 ∧ c = 0) ∧ Below w.heap.size w w'
theorem top_no {d : Nat} {t1 t2 : Ty} {w w' : World} (h : t1.okay t2 = false) (hb : Below w.heap.size w w') : MeetTop d t1 t2 w (.returned (.tuple #[.agg #[.int .i64 0, .slice none 0 0], .bool false])) w' :=
  ⟨0, none, 0, 0, [], by rw [h], fun h' => (by rw [h] at h'; cases h'), fun _ => ⟨rfl, rfl, rfl, rfl⟩, hb⟩
set_option maxRecDepth 100000 in
set_option maxHeartbeats 2000000 in
theorem implMeetType (d : Nat) (v1 v2 : Value) (t1 t2 : Ty) (w : World) (h1 : TyAt w d v1 t1) (h2 : TyAt w d v2 t2) (hn1 : t1.size ≤ 1048577) (hn2 : t2.size ≤ 1048577) (htab : MeetTab w) :
    Calls Tryz.prog 106 #[v1, v2] w (MeetTop d t1 t2 w) := by
  obtain ⟨ak, aa, an, ac, rfl⟩ := agg_parts h1
  obtain ⟨bk, ba, bn, bc, rfl⟩ := agg_parts h2
  obtain ⟨W0, hW0⟩ : ∃ W0, W0 = (((w.alloc (.cells #[.int .i64 ak, .slice aa an ac] 33)).alloc (.cells #[.int .i64 bk, .slice ba bn bc] 33)).alloc (.cells #[.int .i64 0, .slice none 0 0] 33)) := ⟨_, rfl⟩
  have hz0 : W0.heap.size = w.heap.size + 3 := by rw [hW0]; simp
  have B : Hid (Below w.heap.size w W0) := by show Below _ _ _; rw [hW0]; exact (((Below.refl _ _).alloc (Nat.le_refl _) _).alloc (by simp) _).alloc (by simp; omega) _
  have XA : Hid (BoxAt W0 w.heap.size #[.int .i64 ak, .slice aa an ac]) := by show BoxAt _ _ _; rw [hW0]; exact ((BoxAt.new _ _ _).below (below_alloc _ _)).below (below_alloc _ _)
  have XB : Hid (BoxAt W0 (w.heap.size + 1) #[.int .i64 bk, .slice ba bn bc]) := by show BoxAt _ _ _; rw [hW0]; exact (box_at (BoxAt.new _ _ _) (by simp)).below (below_alloc _ _)
  have XR : Hid (BoxAt W0 (w.heap.size + 1 + 1) #[.int .i64 0, .slice none 0 0]) := by show BoxAt _ _ _; rw [hW0]; exact box_at (BoxAt.new _ _ _) (by simp)
  have XF : Hid (FreeAt W0 (w.heap.size + 1 + 1)) := by show FreeAt _ _; rw [hW0]; exact free_at (FreeAt.new _ _ _) (by simp)
  have HA := Lib.hid (h1.below B.out)
  have HB := Lib.hid (h2.below B.out)
  have HG := Lib.hid (htab.below B.out)
  clear h1 h2 htab
  go_enter Tryz.func106, Tryz.ntmps106
  go_wp2_with fail
  rw [← hW0]
  clear hW0
  refine (implValid d _ t1 _ HA.out hn1).mono ?_
  rintro e w1 ⟨rfl, hb⟩
  have hzb := hb.size
  replace B := Lib.hid (B.out.trans (hb.mono B.out.size))
  replace HA := Lib.hid (HA.out.below hb)
  replace HB := Lib.hid (HB.out.below hb)
  replace HG := Lib.hid (HG.out.below hb)
  replace XA := Lib.hid (XA.out.below hb)
  replace XB := Lib.hid (XB.out.below hb)
  replace XR := Lib.hid (XR.out.below hb)
  replace XF := Lib.hid (XF.out.below hb)
  clear hb
  cases hv1 : t1.valid with
  | false =>
    have r0 := XR.out.2 0
    have r1 := XR.out.2 1
    have q0 := XF.out.2 0
    have q1 := XF.out.2 1
    go_wp2_with fail
    refine bodyPost_ret (v := .tuple #[.agg #[.int .i64 0, .slice none 0 0], .bool false]) (by simp [results, Tryz.results106, go_sem, r0, r1]) rfl ?_
    exact top_no (by simp [Ty.okay, hv1]) ((B.out.setCell (by dsimp only; omega) _).setCell (by dsimp only; omega) _)
  | true =>
    have a0 := XA.out.2 0
    have a1 := XA.out.2 1
    have b0 := XB.out.2 0
    have b1 := XB.out.2 1
    go_wp2_with fail
    clear a0 a1 b0 b1
    refine (implValid d _ t2 _ HB.out hn2).mono ?_
    rintro e w2 ⟨rfl, hb⟩
    have hzb2 := hb.size
    replace B := Lib.hid (B.out.trans (hb.mono B.out.size))
    replace HA := Lib.hid (HA.out.below hb)
    replace HB := Lib.hid (HB.out.below hb)
    replace HG := Lib.hid (HG.out.below hb)
    replace XA := Lib.hid (XA.out.below hb)
    replace XB := Lib.hid (XB.out.below hb)
    replace XR := Lib.hid (XR.out.below hb)
    replace XF := Lib.hid (XF.out.below hb)
    clear hb
    cases hv2 : t2.valid with
    | false =>
      have r0 := XR.out.2 0
      have r1 := XR.out.2 1
      have q0 := XF.out.2 0
      have q1 := XF.out.2 1
      go_wp2_with fail
      refine bodyPost_ret (v := .tuple #[.agg #[.int .i64 0, .slice none 0 0], .bool false]) (by simp [results, Tryz.results106, go_sem, r0, r1]) rfl ?_
      exact top_no (by simp [Ty.okay, hv1, hv2]) ((B.out.setCell (by dsimp only; omega) _).setCell (by dsimp only; omega) _)
    | true =>
      have hf1 : Hid (t1.form = true) := by simp only [Ty.valid, Bool.and_eq_true] at hv1; exact hv1.2
      have hf2 : Hid (t2.form = true) := by simp only [Ty.valid, Bool.and_eq_true] at hv2; exact hv2.2
      have HOK : Hid (t1.okay t2 = t1.cons t2) := by show _ = _; simp [Ty.okay, hv1, hv2]
      have a0 := XA.out.2 0
      have a1 := XA.out.2 1
      have b0 := XB.out.2 0
      have b1 := XB.out.2 1
      go_wp2_with fail
      clear a0 a1 b0 b1
      refine (implMeetOf d _ _ t1 t2 _ HA.out HB.out hf1.out hf2.out hn1 hn2 HG.out).mono ?_
      rintro e w3 ⟨zk, za, zn, zc, fp, rfl, hyes, hnot, hb⟩
      have hzb3 := hb.size
      have r0 := (XR.out.below hb).2 0
      have r1 := (XR.out.below hb).2 1
      have q0 := (XF.out.below hb).2 0
      have q1 := (XF.out.below hb).2 1
      have HYES := Lib.hid hyes
      have HNOT := Lib.hid hnot
      have B3 := Lib.hid (B.out.trans (hb.mono B.out.size))
      clear hb hyes hnot
      go_wp2_with fail
      refine bodyPost_ret (v := .tuple #[.agg #[.int .i64 zk, .slice za zn zc], .bool (t1.cons t2)]) (by simp [results, Tryz.results106, go_sem, r0, r1]) rfl ?_
      refine ⟨zk, za, zn, zc, fp, by rw [HOK.out], fun h => ?_, fun h => HNOT.out (by rw [← HOK.out]; exact h), (B3.out.setCell (by dsimp only; omega) _).setCell (by dsimp only; omega) _⟩
      obtain ⟨ht, hfp⟩ := HYES.out (by rw [← HOK.out]; exact h)
      exact ⟨own_put (own_put ht hfp (by omega)) hfp (by omega), hfp.mono (by omega) (by simp)⟩
end Go.Proofs.YteffjeejbdjjpaaGreatDoor
namespace Go.Proofs.YteffjeejbdjjpaaGreatDoor
open Go.RowKit

set_option maxRecDepth 100000 in
set_option maxHeartbeats 2000000 in
theorem implConsistent (d : Nat) (v1 v2 : Value) (t1 t2 : Ty) (w : World) (h1 : TyAt w d v1 t1) (h2 : TyAt w d v2 t2) (hn1 : t1.size ≤ 1048577) (hn2 : t2.size ≤ 1048577) (htab : MeetTab w) :
    Calls Tryz.prog 93 #[v1, v2] w fun e w' => e = .returned (.bool (t1.valid && (t2.valid && t1.cons t2))) ∧ Below w.heap.size w w' := by
  obtain ⟨ak, aa, an, ac, rfl⟩ := agg_parts h1
  obtain ⟨bk, ba, bn, bc, rfl⟩ := agg_parts h2
  have B : Hid (Below w.heap.size w ((w.alloc (.cells #[.int .i64 ak, .slice aa an ac] 33)).alloc (.cells #[.int .i64 bk, .slice ba bn bc] 33))) := ((Below.refl _ _).alloc (Nat.le_refl _) _).alloc (by simp) _
  have HA := Lib.hid (h1.below B.out)
  have HB := Lib.hid (h2.below B.out)
  have HG := Lib.hid (htab.below B.out)
  clear h1 h2 htab
  go_enter Tryz.func93, Tryz.ntmps93
  go_wp2_with fail
  refine (implMeetType d _ _ t1 t2 _ HA.out HB.out hn1 hn2 HG.out).mono ?_
  rintro e w3 ⟨zk, za, zn, zc, fp, rfl, hyes, hnot, hb⟩
  have B3 := Lib.hid (B.out.trans (hb.mono B.out.size))
  clear hb hyes hnot
  go_wp2_with fail
  go_ret
  exact ⟨rfl, B3.out.alloc B3.out.size _⟩
end Go.Proofs.YteffjeejbdjjpaaGreatDoor
