/-
  Proved: impl.isCoreNode says whether the fields, the names of the environment and the number of parts of a node belong to its kind; the memory that was there stays as it was.
-/
import Derived.Test.YteeojgefnoaajaaDoorImplCoFor
import Derived.Test.YteeojgefnoaajaaDoorSpecFields
import Derived.Test.YteeojgefnoaajaaDoorCoreFull
import Derived.Test.YteeojgefnoaajaaDoorCoreArity
import Derived.Test.YteeojgefnoaajaaDoorGrown
import Derived.Test.YteeojgefnoaajaaDoorCoEq
import Derived.Deep.RegionHeld3
namespace Go.Proofs.YteeojgefnoaajaaDoor
open Go.RowKit

def namedB (k : Int) : Bool := decide (k = 3) || decide (k = 4)
def coNodeB (k : Int) (nm : ByteArray) (n : Int) (fr ty : Ty) (len : Nat) (ns : List ByteArray) : Bool := coFieldsB k nm n fr ty && ((ownNames [] ns && envK k ns) && decide ((len : Int) = coArity k))
theorem coName_eq (k : Int) (nm : ByteArray) : coNameFor k nm = if namedB k then nameB nm else decide (nm.size = 0) := by
  unfold coNameFor namedB
  by_cases h3 : k = 3
  · simp [h3]
  · by_cases h4 : k = 4
    · simp [h4]
    · simp [h3, h4]
theorem coNode_eq (k : Int) (nm : ByteArray) (n : Int) (fr ty : Ty) (len : Nat) (ns : List ByteArray) : coNodeB k nm n fr ty len ns = (decide ((len : Int) = coArity k) && (coNumFor k n && ((if namedB k then nameB nm else decide (nm.size = 0)) && ((boundB k || decide (ns.length = 0)) && (ownNames [] ns && (coTyFor (srcB k) fr && coTyFor (tgtB k) ty)))))) := by
  rw [← coName_eq]
  unfold coNodeB coFieldsB coTypesB envK
  generalize decide ((len : Int) = coArity k) = b1
  generalize coNumFor k n = b2
  generalize coNameFor k nm = b3
  generalize boundB k = b4
  generalize decide (ns.length = 0) = b5
  generalize ownNames [] ns = b6
  generalize coTyFor (srcB k) fr = b7
  generalize coTyFor (tgtB k) ty = b8
  cases b1 <;> cases b2 <;> cases b3 <;> cases b4 <;> cases b5 <;> cases b6 <;> cases b7 <;> cases b8 <;> rfl
theorem rowNamed_eq : ∀ k, k < 16 → rowNamed.getD k false = namedB (k : Int) := by decide
theorem rowBound_eq : ∀ k, k < 16 → rowBound.getD k false = boundB (k : Int) := by decide
theorem rowSrc_eq : ∀ k, k < 16 → rowSrc.getD k false = srcB (k : Int) := by decide
theorem rowTgt_eq : ∀ k, k < 16 → rowTgt.getD k false = tgtB (k : Int) := by decide
/-- A row of the table. -/
theorem CoreFull.row {w : World} (h : CoreFull w) {k : Nat} (hk : k < 16) : w.cell? ⟨0, k * 5, none⟩ = some (.int .i64 (coTab.getD k 0)) ∧ w.cell? ⟨0, k * 5 + 1, none⟩ = some (.bool (namedB k)) ∧ w.cell? ⟨0, k * 5 + 2, none⟩ = some (.bool (boundB k)) ∧ w.cell? ⟨0, k * 5 + 3, none⟩ = some (.bool (srcB k)) ∧ w.cell? ⟨0, k * 5 + 4, none⟩ = some (.bool (tgtB k)) := by
  obtain ⟨h1, h2, h3, h4⟩ := h.2 k hk
  rw [rowNamed_eq k hk] at h1
  rw [rowBound_eq k hk] at h2
  rw [rowSrc_eq k hk] at h3
  rw [rowTgt_eq k hk] at h4
  exact ⟨h.1.2 k hk, h1, h2, h3, h4⟩
set_option maxRecDepth 100000 in
set_option maxHeartbeats 8000000 in
theorem implCoNode (d : Nat) (v : Value) (kd : Int) (nm0 : ByteArray) (n0 : Int) (fr ty : Ty) (es : List Co) (ns : List ByteArray) (vs : List Co) (w : World) (h : PtrCo w (d + 1) v (.node kd nm0 n0 fr ty es ns vs)) (hsz : (Co.node kd nm0 n0 fr ty es ns vs).bulk ≤ 1048576) (htab : CoreFull w) :
    Calls Tryd.prog 86 #[v] w fun e w' => e = .returned (.bool (coNodeB kd nm0 n0 fr ty es.length ns)) ∧ Below w.heap.size w w' := by
  obtain ⟨pb, po, x0, x1, x2, x3, x4, x5, x6, x7, x8, rfl, hpl, k0, k1, k2, k3, k4, k5, k6, k7, k8, ht⟩ := h
  obtain ⟨c3, c4, c5, c6, sl, el, hv, hk0, hk1, hn0, hn1, hnm, hfr, hty, ⟨a, cap, rfl, hcap, hcap2, hat⟩, hln, a2, cap2, rfl, hcpe, hcpe2, hae⟩ := ht
  injection hv with hv
  injection hv with hv
  simp at hv
  obtain ⟨rfl, rfl, rfl, rfl, rfl, rfl, rfl, rfl, rfl⟩ := hv
  obtain ⟨fk, fa, fn, fc, rfl, rfl⟩ := at_parts hfr
  obtain ⟨tk, ta, tn, tc, rfl, rfl⟩ := at_parts hty
  have HEN : Hid (CbsAt w d (.slice a2 vs.length cap2) ns vs) := ⟨hln, a2, cap2, rfl, hcpe, hcpe2, hae⟩
  have hbk : (Co.node kd nm0 n0 fr ty es ns vs).bulk = nm0.size + (fr.size - 1) + (ty.size - 1) + Co.bulks es + (txs ns + Co.bulks vs) := rfl
  have hlen : es.length ≤ 1048576 := by have := Co.length_le es; omega
  have hlen2 : vs.length ≤ 1048576 := by have := Co.length_le vs; omega
  have HNS : Hid (nm0.size ≤ 9223372036854775807) := by show _ ≤ _; omega
  have HFZ : Hid (fr.size ≤ 1048577) := by show _ ≤ _; omega
  have HTZ : Hid (ty.size ≤ 1048577) := by show _ ≤ _; omega
  have HFR := Lib.hid hfr
  have HTY := Lib.hid hty
  have HLN := Lib.hid hln
  have HTB := Lib.hid htab
  clear hat hae hfr hty hln hbk hsz htab
  have HM := Lib.hid (coNode_eq kd nm0 n0 fr ty es.length ns)
  obtain ⟨m, hm⟩ : ∃ m, m = coNodeB kd nm0 n0 fr ty es.length ns := ⟨_, rfl⟩
  rw [← hm] at HM ⊢
  clear hm
  have K0 := Lib.hid k0
  have K1 := Lib.hid k1
  have K2 := Lib.hid k2
  have K3 := Lib.hid k3
  have K4 := Lib.hid k4
  have K5 := Lib.hid k5
  have K6 := Lib.hid k6
  have K7 := Lib.hid k7
  have K8 := Lib.hid k8
  clear k0 k1 k2 k3 k4 k5 k6 k7 k8
  have C1 : ∀ q : Grown w.heap.size w, Calls Tryd.prog 129 #[.int .i64 kd] q.val fun e w' => e = .returned (.int .i64 (coArity kd)) ∧ Below q.val.heap.size q.val w' := fun q => implCoArity _ _ (HTB.out.1.below q.old)
  have C2 : ∀ q : Grown w.heap.size w, Calls Tryd.prog 130 #[.int .i64 kd, .int .i64 n0] q.val fun e w' => e = .returned (.bool (coNumFor kd n0)) ∧ Below q.val.heap.size q.val w' := fun q => implCoNum _ _ _
  obtain ⟨r, hr⟩ : ∃ r, r = coArity kd := ⟨_, rfl⟩
  obtain ⟨bu, hbu⟩ : ∃ b, b = coNumFor kd n0 := ⟨_, rfl⟩
  rw [← hr] at C1 HM
  rw [← hbu] at C2 HM
  have HR := Lib.hid hr
  clear hr hbu
  go_enter Tryd.func86, Tryd.ntmps86
  go_wp2_with fail
  have HB0 : Hid (Below w.heap.size w w) := Below.refl _ _
  have g0 : ∀ q : Grown w.heap.size w, q.val.cell? ⟨pb, po, none⟩ = some (.int .i64 kd) := fun q => (q.old.cell (p := ⟨pb, po, none⟩) (Nat.lt_of_lt_of_le hpl HB0.out.size)).trans ((HB0.out.cell (p := ⟨pb, po, none⟩) hpl).trans K0.out)
  have g1 : ∀ q : Grown w.heap.size w, q.val.cell? ⟨pb, po + 1, none⟩ = some (.string nm0) := fun q => (q.old.cell (p := ⟨pb, po + 1, none⟩) (Nat.lt_of_lt_of_le hpl HB0.out.size)).trans ((HB0.out.cell (p := ⟨pb, po + 1, none⟩) hpl).trans K1.out)
  have g2 : ∀ q : Grown w.heap.size w, q.val.cell? ⟨pb, po + 2, none⟩ = some (.int .i64 n0) := fun q => (q.old.cell (p := ⟨pb, po + 2, none⟩) (Nat.lt_of_lt_of_le hpl HB0.out.size)).trans ((HB0.out.cell (p := ⟨pb, po + 2, none⟩) hpl).trans K2.out)
  have g3 : ∀ q : Grown w.heap.size w, q.val.cell? ⟨pb, po + 3, none⟩ = some (.int .i64 fk) := fun q => (q.old.cell (p := ⟨pb, po + 3, none⟩) (Nat.lt_of_lt_of_le hpl HB0.out.size)).trans ((HB0.out.cell (p := ⟨pb, po + 3, none⟩) hpl).trans K3.out)
  have g4 : ∀ q : Grown w.heap.size w, q.val.cell? ⟨pb, po + 4, none⟩ = some (.slice fa fn fc) := fun q => (q.old.cell (p := ⟨pb, po + 4, none⟩) (Nat.lt_of_lt_of_le hpl HB0.out.size)).trans ((HB0.out.cell (p := ⟨pb, po + 4, none⟩) hpl).trans K4.out)
  have g5 : ∀ q : Grown w.heap.size w, q.val.cell? ⟨pb, po + 5, none⟩ = some (.int .i64 tk) := fun q => (q.old.cell (p := ⟨pb, po + 5, none⟩) (Nat.lt_of_lt_of_le hpl HB0.out.size)).trans ((HB0.out.cell (p := ⟨pb, po + 5, none⟩) hpl).trans K5.out)
  have g6 : ∀ q : Grown w.heap.size w, q.val.cell? ⟨pb, po + 6, none⟩ = some (.slice ta tn tc) := fun q => (q.old.cell (p := ⟨pb, po + 6, none⟩) (Nat.lt_of_lt_of_le hpl HB0.out.size)).trans ((HB0.out.cell (p := ⟨pb, po + 6, none⟩) hpl).trans K6.out)
  have g7 : ∀ q : Grown w.heap.size w, q.val.cell? ⟨pb, po + 7, none⟩ = some (.slice a es.length cap) := fun q => (q.old.cell (p := ⟨pb, po + 7, none⟩) (Nat.lt_of_lt_of_le hpl HB0.out.size)).trans ((HB0.out.cell (p := ⟨pb, po + 7, none⟩) hpl).trans K7.out)
  have g8 : ∀ q : Grown w.heap.size w, q.val.cell? ⟨pb, po + 8, none⟩ = some (.slice a2 vs.length cap2) := fun q => (q.old.cell (p := ⟨pb, po + 8, none⟩) (Nat.lt_of_lt_of_le hpl HB0.out.size)).trans ((HB0.out.cell (p := ⟨pb, po + 8, none⟩) hpl).trans K8.out)
  obtain ⟨bq, hbq⟩ : ∃ x, x = decide ((es.length : Int) = r) := ⟨_, rfl⟩
  rw [← hbq] at HM
  have HBQ := Lib.hid hbq; clear hbq
  obtain ⟨be, hbe⟩ : ∃ x, x = decide (nm0.size = 0) := ⟨_, rfl⟩
  rw [← hbe] at HM
  have HBE := Lib.hid hbe; clear hbe
  obtain ⟨bv, hbv⟩ : ∃ x, x = decide (ns.length = 0) := ⟨_, rfl⟩
  rw [← hbv] at HM
  have HBV := Lib.hid hbv; clear hbv
  obtain ⟨bo, hbo⟩ : ∃ x, x = ownNames [] ns := ⟨_, rfl⟩
  rw [← hbo] at HM
  have HBO := Lib.hid hbo; clear hbo
  cases bq
  case false =>
    have qa : ¬ ((es.length : Int) = r) := of_decide_eq_false HBQ.out.symm
    have qb : ((es.length : Int) == r) = false := by simp [qa]
    have qc : ((es.length : Int) != r) = true := by simp [qa]
    refine wp_region_grown w.heap.size (by kernel_rfl) (by kernel_rfl) ?_
    repeat (go_big_quiet_step ((first | (go_at_call 129; exact grown_of (Nat.le_refl _) (C1 _)) | (go_at_call 130; exact grown_of (Nat.le_refl _) (C2 _)))))
    refine wpQuiet_nil ?_
    rintro w9 ⟨⟨wq, hq⟩, rfl⟩
    go_wp2_with fail
    go_ret
    exact ⟨by rw [HM.out]; rfl, hq⟩
  case true =>
    have qa : (es.length : Int) = r := of_decide_eq_true HBQ.out.symm
    have qb : ((es.length : Int) == r) = true := by simp [qa]
    have qc : ((es.length : Int) != r) = false := by simp [qa]
    cases bu
    case false =>
      refine wp_region_grown w.heap.size (by kernel_rfl) (by kernel_rfl) ?_
      repeat (go_big_quiet_step ((first | (go_at_call 129; exact grown_of (Nat.le_refl _) (C1 _)) | (go_at_call 130; exact grown_of (Nat.le_refl _) (C2 _)))))
      refine wpQuiet_nil ?_
      rintro w9 ⟨⟨wq, hq⟩, rfl⟩
      go_wp2_with fail
      go_ret
      exact ⟨by rw [HM.out]; rfl, hq⟩
    refine wp_region_grown w.heap.size (by kernel_rfl) (by kernel_rfl) ?_
    repeat (go_big_quiet_step ((first | (go_at_call 129; exact grown_of (Nat.le_refl _) (C1 _)) | (go_at_call 130; exact grown_of (Nat.le_refl _) (C2 _)))))
    refine wpQuiet_nil ?_
    rintro w9 ⟨⟨wq, hq⟩, rfl⟩
    have HQ := Lib.hid hq
    clear hq g0 g1 g2 g3 g4 g5 g6 g7 g8 C1 C2
    have hkd : 1 ≤ kd ∧ kd ≤ 15 := by
      have h1 := HR.out
      by_cases h : 1 ≤ kd ∧ kd ≤ 15
      · exact h
      · rw [coArity_out h] at h1; omega
    obtain ⟨k, hk⟩ : ∃ k : Nat, kd = (k : Int) := ⟨kd.toNat, by omega⟩
    subst hk
    have hk16 : k < 16 := by omega
    obtain ⟨t0, t1, t2, t3, t4⟩ := (HTB.out.below HQ.out).row hk16
    obtain ⟨ar, har⟩ : ∃ x, x = coTab.getD k 0 := ⟨_, rfl⟩
    rw [← har] at t0
    obtain ⟨bn, hbn⟩ : ∃ x, x = namedB k := ⟨_, rfl⟩
    rw [← hbn] at t1 HM
    obtain ⟨bb, hbb⟩ : ∃ x, x = boundB k := ⟨_, rfl⟩
    rw [← hbb] at t2 HM
    obtain ⟨bs, hbs⟩ : ∃ x, x = srcB k := ⟨_, rfl⟩
    rw [← hbs] at t3 HM
    obtain ⟨bt, hbt⟩ : ∃ x, x = tgtB k := ⟨_, rfl⟩
    rw [← hbt] at t4 HM
    clear har hbn hbb hbs hbt HR HTB
    have z0 := (HQ.out.cell (p := ⟨pb, po, none⟩) hpl).trans K0.out
    go_wp2_with fail
    obtain ⟨p9, hp9⟩ : ∃ p, p = w9.heap.size := ⟨_, rfl⟩
    obtain ⟨W, hW⟩ : ∃ W, W = w9.alloc (.cells #[.int .i64 ar, .bool bn, .bool bb, .bool bs, .bool bt] 140) := ⟨_, rfl⟩
    have BW : Hid (Below w.heap.size w W) := by rw [hW]; exact HQ.out.alloc HQ.out.size _
    have XF : Hid (BoxAt W p9 #[.int .i64 ar, .bool bn, .bool bb, .bool bs, .bool bt]) := by rw [hW, hp9]; exact BoxAt.new _ _ _
    rw [← hW, ← hp9]
    clear hW hp9 HQ t0 t1 t2 t3 t4 z0
    have HNB := Lib.hid (nameB_empty (s := nm0))
    have C3 : ∀ q : Grown W.heap.size W, Calls Tryd.prog 131 #[.string nm0] q.val fun e w' => e = .returned (.bool (nameB nm0)) ∧ Below q.val.heap.size q.val w' := fun q => implName _ _ HNS.out
    obtain ⟨bm, hbm⟩ : ∃ x, x = nameB nm0 := ⟨_, rfl⟩
    rw [← hbm] at C3 HM HNB
    clear hbm
    have g0 : ∀ q : Grown W.heap.size W, q.val.cell? ⟨pb, po, none⟩ = some (.int .i64 k) := fun q => (q.old.cell (p := ⟨pb, po, none⟩) (Nat.lt_of_lt_of_le hpl BW.out.size)).trans ((BW.out.cell (p := ⟨pb, po, none⟩) hpl).trans K0.out)
    have g1 : ∀ q : Grown W.heap.size W, q.val.cell? ⟨pb, po + 1, none⟩ = some (.string nm0) := fun q => (q.old.cell (p := ⟨pb, po + 1, none⟩) (Nat.lt_of_lt_of_le hpl BW.out.size)).trans ((BW.out.cell (p := ⟨pb, po + 1, none⟩) hpl).trans K1.out)
    have g2 : ∀ q : Grown W.heap.size W, q.val.cell? ⟨pb, po + 2, none⟩ = some (.int .i64 n0) := fun q => (q.old.cell (p := ⟨pb, po + 2, none⟩) (Nat.lt_of_lt_of_le hpl BW.out.size)).trans ((BW.out.cell (p := ⟨pb, po + 2, none⟩) hpl).trans K2.out)
    have g3 : ∀ q : Grown W.heap.size W, q.val.cell? ⟨pb, po + 3, none⟩ = some (.int .i64 fk) := fun q => (q.old.cell (p := ⟨pb, po + 3, none⟩) (Nat.lt_of_lt_of_le hpl BW.out.size)).trans ((BW.out.cell (p := ⟨pb, po + 3, none⟩) hpl).trans K3.out)
    have g4 : ∀ q : Grown W.heap.size W, q.val.cell? ⟨pb, po + 4, none⟩ = some (.slice fa fn fc) := fun q => (q.old.cell (p := ⟨pb, po + 4, none⟩) (Nat.lt_of_lt_of_le hpl BW.out.size)).trans ((BW.out.cell (p := ⟨pb, po + 4, none⟩) hpl).trans K4.out)
    have g5 : ∀ q : Grown W.heap.size W, q.val.cell? ⟨pb, po + 5, none⟩ = some (.int .i64 tk) := fun q => (q.old.cell (p := ⟨pb, po + 5, none⟩) (Nat.lt_of_lt_of_le hpl BW.out.size)).trans ((BW.out.cell (p := ⟨pb, po + 5, none⟩) hpl).trans K5.out)
    have g6 : ∀ q : Grown W.heap.size W, q.val.cell? ⟨pb, po + 6, none⟩ = some (.slice ta tn tc) := fun q => (q.old.cell (p := ⟨pb, po + 6, none⟩) (Nat.lt_of_lt_of_le hpl BW.out.size)).trans ((BW.out.cell (p := ⟨pb, po + 6, none⟩) hpl).trans K6.out)
    have g7 : ∀ q : Grown W.heap.size W, q.val.cell? ⟨pb, po + 7, none⟩ = some (.slice a es.length cap) := fun q => (q.old.cell (p := ⟨pb, po + 7, none⟩) (Nat.lt_of_lt_of_le hpl BW.out.size)).trans ((BW.out.cell (p := ⟨pb, po + 7, none⟩) hpl).trans K7.out)
    have g8 : ∀ q : Grown W.heap.size W, q.val.cell? ⟨pb, po + 8, none⟩ = some (.slice a2 vs.length cap2) := fun q => (q.old.cell (p := ⟨pb, po + 8, none⟩) (Nat.lt_of_lt_of_le hpl BW.out.size)).trans ((BW.out.cell (p := ⟨pb, po + 8, none⟩) hpl).trans K8.out)
    have f0 : ∀ q : Grown W.heap.size W, q.val.cell? ⟨p9, 0, none⟩ = _ := fun q => (XF.out.grown q).2 0
    have f1 : ∀ q : Grown W.heap.size W, q.val.cell? ⟨p9, 1, none⟩ = _ := fun q => (XF.out.grown q).2 1
    have f2 : ∀ q : Grown W.heap.size W, q.val.cell? ⟨p9, 2, none⟩ = _ := fun q => (XF.out.grown q).2 2
    have f3 : ∀ q : Grown W.heap.size W, q.val.cell? ⟨p9, 3, none⟩ = _ := fun q => (XF.out.grown q).2 3
    have f4 : ∀ q : Grown W.heap.size W, q.val.cell? ⟨p9, 4, none⟩ = _ := fun q => (XF.out.grown q).2 4
    cases be
    case true =>
      have NZ : nm0.size = 0 := of_decide_eq_true HBE.out.symm
      have e1 := text_zero NZ
      have hb0 := HNB.out NZ
      subst hb0
      cases bn
      case true =>
        refine wp_region_grown W.heap.size (by kernel_rfl) (by kernel_rfl) ?_
        repeat (go_big_quiet_step ((first | (go_at_call 131; exact grown_of (Nat.le_refl _) (C3 _)))))
        refine wpQuiet_nil ?_
        rintro w8 ⟨⟨wq, hq8⟩, rfl⟩
        go_wp2_with fail
        go_ret
        exact ⟨by rw [HM.out]; rfl, BW.out.trans (hq8.mono BW.out.size)⟩
      case false =>
        refine wp_region_grown W.heap.size (by kernel_rfl) (by kernel_rfl) ?_
        repeat (go_big_quiet_step ((first | (go_at_call 131; exact grown_of (Nat.le_refl _) (C3 _)))))
        refine wpQuiet_nil ?_
        rintro w8 ⟨⟨wq, hq8⟩, rfl⟩
        have BX := Lib.hid (BW.out.trans (hq8.mono BW.out.size))
        have XX := Lib.hid (XF.out.below hq8)
        clear hq8 g0 g1 g2 g3 g4 g5 g6 g7 g8 f0 f1 f2 f3 f4 C3 BW XF
        have z8 := (BX.out.cell (p := ⟨pb, po + 8, none⟩) hpl).trans K8.out
        have y2 := XX.out.2 2
        cases bb
        case true =>
          go_wp2_with fail
          refine (implOwnNames d _ ns vs _ (HEN.out.below BX.out) hlen2).mono ?_
          rintro e w6 ⟨rfl, hb6⟩
          have BY := Lib.hid (BX.out.trans (hb6.mono BX.out.size))
          have XY := Lib.hid (XX.out.below hb6)
          clear hb6 BX XX z8 y2
          rw [← HBO.out]
          cases bo
          case false =>
            go_wp2_with fail
            go_ret
            exact ⟨by rw [HM.out]; rfl, BY.out⟩
          case true =>
            have C5 : ∀ q : Grown w6.heap.size w6, Calls Tryd.prog 133 #[.bool bs, .agg #[.int .i64 fk, .slice fa fn fc]] q.val fun e w' => e = .returned (.bool (coTyFor bs fr)) ∧ Below q.val.heap.size q.val w' := fun q => implCoTyIf d _ _ fr _ (HFR.out.below (BY.out.trans (q.old.mono BY.out.size))) HFZ.out
            have C6 : ∀ q : Grown w6.heap.size w6, Calls Tryd.prog 133 #[.bool bt, .agg #[.int .i64 tk, .slice ta tn tc]] q.val fun e w' => e = .returned (.bool (coTyFor bt ty)) ∧ Below q.val.heap.size q.val w' := fun q => implCoTyIf d _ _ ty _ (HTY.out.below (BY.out.trans (q.old.mono BY.out.size))) HTZ.out
            obtain ⟨xf, hxf⟩ : ∃ x, x = coTyFor bs fr := ⟨_, rfl⟩
            rw [← hxf] at C5 HM
            obtain ⟨xt, hxt⟩ : ∃ x, x = coTyFor bt ty := ⟨_, rfl⟩
            rw [← hxt] at C6 HM
            clear hxf hxt
            go_wp2_with fail
            have g0 : ∀ q : Grown w6.heap.size w6, q.val.cell? ⟨pb, po, none⟩ = some (.int .i64 k) := fun q => (q.old.cell (p := ⟨pb, po, none⟩) (Nat.lt_of_lt_of_le hpl BY.out.size)).trans ((BY.out.cell (p := ⟨pb, po, none⟩) hpl).trans K0.out)
            have g1 : ∀ q : Grown w6.heap.size w6, q.val.cell? ⟨pb, po + 1, none⟩ = some (.string nm0) := fun q => (q.old.cell (p := ⟨pb, po + 1, none⟩) (Nat.lt_of_lt_of_le hpl BY.out.size)).trans ((BY.out.cell (p := ⟨pb, po + 1, none⟩) hpl).trans K1.out)
            have g2 : ∀ q : Grown w6.heap.size w6, q.val.cell? ⟨pb, po + 2, none⟩ = some (.int .i64 n0) := fun q => (q.old.cell (p := ⟨pb, po + 2, none⟩) (Nat.lt_of_lt_of_le hpl BY.out.size)).trans ((BY.out.cell (p := ⟨pb, po + 2, none⟩) hpl).trans K2.out)
            have g3 : ∀ q : Grown w6.heap.size w6, q.val.cell? ⟨pb, po + 3, none⟩ = some (.int .i64 fk) := fun q => (q.old.cell (p := ⟨pb, po + 3, none⟩) (Nat.lt_of_lt_of_le hpl BY.out.size)).trans ((BY.out.cell (p := ⟨pb, po + 3, none⟩) hpl).trans K3.out)
            have g4 : ∀ q : Grown w6.heap.size w6, q.val.cell? ⟨pb, po + 4, none⟩ = some (.slice fa fn fc) := fun q => (q.old.cell (p := ⟨pb, po + 4, none⟩) (Nat.lt_of_lt_of_le hpl BY.out.size)).trans ((BY.out.cell (p := ⟨pb, po + 4, none⟩) hpl).trans K4.out)
            have g5 : ∀ q : Grown w6.heap.size w6, q.val.cell? ⟨pb, po + 5, none⟩ = some (.int .i64 tk) := fun q => (q.old.cell (p := ⟨pb, po + 5, none⟩) (Nat.lt_of_lt_of_le hpl BY.out.size)).trans ((BY.out.cell (p := ⟨pb, po + 5, none⟩) hpl).trans K5.out)
            have g6 : ∀ q : Grown w6.heap.size w6, q.val.cell? ⟨pb, po + 6, none⟩ = some (.slice ta tn tc) := fun q => (q.old.cell (p := ⟨pb, po + 6, none⟩) (Nat.lt_of_lt_of_le hpl BY.out.size)).trans ((BY.out.cell (p := ⟨pb, po + 6, none⟩) hpl).trans K6.out)
            have g7 : ∀ q : Grown w6.heap.size w6, q.val.cell? ⟨pb, po + 7, none⟩ = some (.slice a es.length cap) := fun q => (q.old.cell (p := ⟨pb, po + 7, none⟩) (Nat.lt_of_lt_of_le hpl BY.out.size)).trans ((BY.out.cell (p := ⟨pb, po + 7, none⟩) hpl).trans K7.out)
            have g8 : ∀ q : Grown w6.heap.size w6, q.val.cell? ⟨pb, po + 8, none⟩ = some (.slice a2 vs.length cap2) := fun q => (q.old.cell (p := ⟨pb, po + 8, none⟩) (Nat.lt_of_lt_of_le hpl BY.out.size)).trans ((BY.out.cell (p := ⟨pb, po + 8, none⟩) hpl).trans K8.out)
            have f0 : ∀ q : Grown w6.heap.size w6, q.val.cell? ⟨p9, 0, none⟩ = _ := fun q => (XY.out.grown q).2 0
            have f1 : ∀ q : Grown w6.heap.size w6, q.val.cell? ⟨p9, 1, none⟩ = _ := fun q => (XY.out.grown q).2 1
            have f2 : ∀ q : Grown w6.heap.size w6, q.val.cell? ⟨p9, 2, none⟩ = _ := fun q => (XY.out.grown q).2 2
            have f3 : ∀ q : Grown w6.heap.size w6, q.val.cell? ⟨p9, 3, none⟩ = _ := fun q => (XY.out.grown q).2 3
            have f4 : ∀ q : Grown w6.heap.size w6, q.val.cell? ⟨p9, 4, none⟩ = _ := fun q => (XY.out.grown q).2 4
            cases xf
            case false =>
              refine wp_region_grown w6.heap.size (by kernel_rfl) (by kernel_rfl) ?_
              repeat (go_big_quiet_step ((first | (go_at_call_of 133 (Value.bool bs); exact grown_of (Nat.le_refl _) (C5 _)) | (go_at_call_of 133 (Value.bool bt); exact grown_of (Nat.le_refl _) (C6 _)))))
              refine wpQuiet_nil ?_
              rintro w7 ⟨⟨wq, hq7⟩, rfl⟩
              clear g0 g1 g2 g3 g4 g5 g6 g7 g8 f0 f1 f2 f3 f4 C5 C6
              go_wp2_with fail
              go_ret
              exact ⟨by rw [HM.out]; rfl, BY.out.trans (hq7.mono BY.out.size)⟩
            case true =>
              refine wp_region_grown w6.heap.size (by kernel_rfl) (by kernel_rfl) ?_
              repeat (go_big_quiet_step ((first | (go_at_call_of 133 (Value.bool bs); exact grown_of (Nat.le_refl _) (C5 _)) | (go_at_call_of 133 (Value.bool bt); exact grown_of (Nat.le_refl _) (C6 _)))))
              refine wpQuiet_nil ?_
              rintro w7 ⟨⟨wq, hq7⟩, rfl⟩
              clear g0 g1 g2 g3 g4 g5 g6 g7 g8 f0 f1 f2 f3 f4 C5 C6
              go_wp2_with fail
              go_ret
              exact ⟨by rw [HM.out]; rfl, BY.out.trans (hq7.mono BY.out.size)⟩
        case false =>
          cases bv
          case true =>
            have hv : vs.length = 0 := by have h1 := of_decide_eq_true HBV.out.symm; have h2 := HLN.out; omega
            have hen0 := HEN.out
            rw [hv] at z8 hen0
            have HEN0 := Lib.hid hen0
            clear hv hen0
            go_wp2_with fail
            refine (implOwnNames d _ ns vs _ (HEN0.out.below BX.out) hlen2).mono ?_
            rintro e w6 ⟨rfl, hb6⟩
            have BY := Lib.hid (BX.out.trans (hb6.mono BX.out.size))
            have XY := Lib.hid (XX.out.below hb6)
            clear hb6 BX XX z8 y2
            rw [← HBO.out]
            cases bo
            case false =>
              go_wp2_with fail
              go_ret
              exact ⟨by rw [HM.out]; rfl, BY.out⟩
            case true =>
              have C5 : ∀ q : Grown w6.heap.size w6, Calls Tryd.prog 133 #[.bool bs, .agg #[.int .i64 fk, .slice fa fn fc]] q.val fun e w' => e = .returned (.bool (coTyFor bs fr)) ∧ Below q.val.heap.size q.val w' := fun q => implCoTyIf d _ _ fr _ (HFR.out.below (BY.out.trans (q.old.mono BY.out.size))) HFZ.out
              have C6 : ∀ q : Grown w6.heap.size w6, Calls Tryd.prog 133 #[.bool bt, .agg #[.int .i64 tk, .slice ta tn tc]] q.val fun e w' => e = .returned (.bool (coTyFor bt ty)) ∧ Below q.val.heap.size q.val w' := fun q => implCoTyIf d _ _ ty _ (HTY.out.below (BY.out.trans (q.old.mono BY.out.size))) HTZ.out
              obtain ⟨xf, hxf⟩ : ∃ x, x = coTyFor bs fr := ⟨_, rfl⟩
              rw [← hxf] at C5 HM
              obtain ⟨xt, hxt⟩ : ∃ x, x = coTyFor bt ty := ⟨_, rfl⟩
              rw [← hxt] at C6 HM
              clear hxf hxt
              go_wp2_with fail
              have g0 : ∀ q : Grown w6.heap.size w6, q.val.cell? ⟨pb, po, none⟩ = some (.int .i64 k) := fun q => (q.old.cell (p := ⟨pb, po, none⟩) (Nat.lt_of_lt_of_le hpl BY.out.size)).trans ((BY.out.cell (p := ⟨pb, po, none⟩) hpl).trans K0.out)
              have g1 : ∀ q : Grown w6.heap.size w6, q.val.cell? ⟨pb, po + 1, none⟩ = some (.string nm0) := fun q => (q.old.cell (p := ⟨pb, po + 1, none⟩) (Nat.lt_of_lt_of_le hpl BY.out.size)).trans ((BY.out.cell (p := ⟨pb, po + 1, none⟩) hpl).trans K1.out)
              have g2 : ∀ q : Grown w6.heap.size w6, q.val.cell? ⟨pb, po + 2, none⟩ = some (.int .i64 n0) := fun q => (q.old.cell (p := ⟨pb, po + 2, none⟩) (Nat.lt_of_lt_of_le hpl BY.out.size)).trans ((BY.out.cell (p := ⟨pb, po + 2, none⟩) hpl).trans K2.out)
              have g3 : ∀ q : Grown w6.heap.size w6, q.val.cell? ⟨pb, po + 3, none⟩ = some (.int .i64 fk) := fun q => (q.old.cell (p := ⟨pb, po + 3, none⟩) (Nat.lt_of_lt_of_le hpl BY.out.size)).trans ((BY.out.cell (p := ⟨pb, po + 3, none⟩) hpl).trans K3.out)
              have g4 : ∀ q : Grown w6.heap.size w6, q.val.cell? ⟨pb, po + 4, none⟩ = some (.slice fa fn fc) := fun q => (q.old.cell (p := ⟨pb, po + 4, none⟩) (Nat.lt_of_lt_of_le hpl BY.out.size)).trans ((BY.out.cell (p := ⟨pb, po + 4, none⟩) hpl).trans K4.out)
              have g5 : ∀ q : Grown w6.heap.size w6, q.val.cell? ⟨pb, po + 5, none⟩ = some (.int .i64 tk) := fun q => (q.old.cell (p := ⟨pb, po + 5, none⟩) (Nat.lt_of_lt_of_le hpl BY.out.size)).trans ((BY.out.cell (p := ⟨pb, po + 5, none⟩) hpl).trans K5.out)
              have g6 : ∀ q : Grown w6.heap.size w6, q.val.cell? ⟨pb, po + 6, none⟩ = some (.slice ta tn tc) := fun q => (q.old.cell (p := ⟨pb, po + 6, none⟩) (Nat.lt_of_lt_of_le hpl BY.out.size)).trans ((BY.out.cell (p := ⟨pb, po + 6, none⟩) hpl).trans K6.out)
              have g7 : ∀ q : Grown w6.heap.size w6, q.val.cell? ⟨pb, po + 7, none⟩ = some (.slice a es.length cap) := fun q => (q.old.cell (p := ⟨pb, po + 7, none⟩) (Nat.lt_of_lt_of_le hpl BY.out.size)).trans ((BY.out.cell (p := ⟨pb, po + 7, none⟩) hpl).trans K7.out)
              have g8 : ∀ q : Grown w6.heap.size w6, q.val.cell? ⟨pb, po + 8, none⟩ = some (.slice a2 vs.length cap2) := fun q => (q.old.cell (p := ⟨pb, po + 8, none⟩) (Nat.lt_of_lt_of_le hpl BY.out.size)).trans ((BY.out.cell (p := ⟨pb, po + 8, none⟩) hpl).trans K8.out)
              have f0 : ∀ q : Grown w6.heap.size w6, q.val.cell? ⟨p9, 0, none⟩ = _ := fun q => (XY.out.grown q).2 0
              have f1 : ∀ q : Grown w6.heap.size w6, q.val.cell? ⟨p9, 1, none⟩ = _ := fun q => (XY.out.grown q).2 1
              have f2 : ∀ q : Grown w6.heap.size w6, q.val.cell? ⟨p9, 2, none⟩ = _ := fun q => (XY.out.grown q).2 2
              have f3 : ∀ q : Grown w6.heap.size w6, q.val.cell? ⟨p9, 3, none⟩ = _ := fun q => (XY.out.grown q).2 3
              have f4 : ∀ q : Grown w6.heap.size w6, q.val.cell? ⟨p9, 4, none⟩ = _ := fun q => (XY.out.grown q).2 4
              cases xf
              case false =>
                refine wp_region_grown w6.heap.size (by kernel_rfl) (by kernel_rfl) ?_
                repeat (go_big_quiet_step ((first | (go_at_call_of 133 (Value.bool bs); exact grown_of (Nat.le_refl _) (C5 _)) | (go_at_call_of 133 (Value.bool bt); exact grown_of (Nat.le_refl _) (C6 _)))))
                refine wpQuiet_nil ?_
                rintro w7 ⟨⟨wq, hq7⟩, rfl⟩
                clear g0 g1 g2 g3 g4 g5 g6 g7 g8 f0 f1 f2 f3 f4 C5 C6
                go_wp2_with fail
                go_ret
                exact ⟨by rw [HM.out]; rfl, BY.out.trans (hq7.mono BY.out.size)⟩
              case true =>
                refine wp_region_grown w6.heap.size (by kernel_rfl) (by kernel_rfl) ?_
                repeat (go_big_quiet_step ((first | (go_at_call_of 133 (Value.bool bs); exact grown_of (Nat.le_refl _) (C5 _)) | (go_at_call_of 133 (Value.bool bt); exact grown_of (Nat.le_refl _) (C6 _)))))
                refine wpQuiet_nil ?_
                rintro w7 ⟨⟨wq, hq7⟩, rfl⟩
                clear g0 g1 g2 g3 g4 g5 g6 g7 g8 f0 f1 f2 f3 f4 C5 C6
                go_wp2_with fail
                go_ret
                exact ⟨by rw [HM.out]; rfl, BY.out.trans (hq7.mono BY.out.size)⟩
          case false =>
            have hp : 0 < vs.length := by have h1 := of_decide_eq_false HBV.out.symm; have h2 := HLN.out; omega
            go_wp2_with fail
            go_ret
            exact ⟨by rw [HM.out]; rfl, BX.out⟩
    case false =>
      have NZ : ¬ (nm0.size = 0) := of_decide_eq_false HBE.out.symm
      have e1 := toList_some (s := nm0) (by omega)
      cases bn
      case false =>
        refine wp_region_grown W.heap.size (by kernel_rfl) (by kernel_rfl) ?_
        repeat (go_big_quiet_step ((first | (go_at_call 131; exact grown_of (Nat.le_refl _) (C3 _)))))
        refine wpQuiet_nil ?_
        rintro w8 ⟨⟨wq, hq8⟩, rfl⟩
        go_wp2_with fail
        go_ret
        exact ⟨by rw [HM.out]; rfl, BW.out.trans (hq8.mono BW.out.size)⟩
      case true =>
        cases bm
        case false =>
          refine wp_region_grown W.heap.size (by kernel_rfl) (by kernel_rfl) ?_
          repeat (go_big_quiet_step ((first | (go_at_call 131; exact grown_of (Nat.le_refl _) (C3 _)))))
          refine wpQuiet_nil ?_
          rintro w8 ⟨⟨wq, hq8⟩, rfl⟩
          go_wp2_with fail
          go_ret
          exact ⟨by rw [HM.out]; rfl, BW.out.trans (hq8.mono BW.out.size)⟩
        case true =>
          refine wp_region_grown W.heap.size (by kernel_rfl) (by kernel_rfl) ?_
          repeat (go_big_quiet_step ((first | (go_at_call 131; exact grown_of (Nat.le_refl _) (C3 _)))))
          refine wpQuiet_nil ?_
          rintro w8 ⟨⟨wq, hq8⟩, rfl⟩
          have BX := Lib.hid (BW.out.trans (hq8.mono BW.out.size))
          have XX := Lib.hid (XF.out.below hq8)
          clear hq8 g0 g1 g2 g3 g4 g5 g6 g7 g8 f0 f1 f2 f3 f4 C3 BW XF
          have z8 := (BX.out.cell (p := ⟨pb, po + 8, none⟩) hpl).trans K8.out
          have y2 := XX.out.2 2
          cases bb
          case true =>
            go_wp2_with fail
            refine (implOwnNames d _ ns vs _ (HEN.out.below BX.out) hlen2).mono ?_
            rintro e w6 ⟨rfl, hb6⟩
            have BY := Lib.hid (BX.out.trans (hb6.mono BX.out.size))
            have XY := Lib.hid (XX.out.below hb6)
            clear hb6 BX XX z8 y2
            rw [← HBO.out]
            cases bo
            case false =>
              go_wp2_with fail
              go_ret
              exact ⟨by rw [HM.out]; rfl, BY.out⟩
            case true =>
              have C5 : ∀ q : Grown w6.heap.size w6, Calls Tryd.prog 133 #[.bool bs, .agg #[.int .i64 fk, .slice fa fn fc]] q.val fun e w' => e = .returned (.bool (coTyFor bs fr)) ∧ Below q.val.heap.size q.val w' := fun q => implCoTyIf d _ _ fr _ (HFR.out.below (BY.out.trans (q.old.mono BY.out.size))) HFZ.out
              have C6 : ∀ q : Grown w6.heap.size w6, Calls Tryd.prog 133 #[.bool bt, .agg #[.int .i64 tk, .slice ta tn tc]] q.val fun e w' => e = .returned (.bool (coTyFor bt ty)) ∧ Below q.val.heap.size q.val w' := fun q => implCoTyIf d _ _ ty _ (HTY.out.below (BY.out.trans (q.old.mono BY.out.size))) HTZ.out
              obtain ⟨xf, hxf⟩ : ∃ x, x = coTyFor bs fr := ⟨_, rfl⟩
              rw [← hxf] at C5 HM
              obtain ⟨xt, hxt⟩ : ∃ x, x = coTyFor bt ty := ⟨_, rfl⟩
              rw [← hxt] at C6 HM
              clear hxf hxt
              go_wp2_with fail
              have g0 : ∀ q : Grown w6.heap.size w6, q.val.cell? ⟨pb, po, none⟩ = some (.int .i64 k) := fun q => (q.old.cell (p := ⟨pb, po, none⟩) (Nat.lt_of_lt_of_le hpl BY.out.size)).trans ((BY.out.cell (p := ⟨pb, po, none⟩) hpl).trans K0.out)
              have g1 : ∀ q : Grown w6.heap.size w6, q.val.cell? ⟨pb, po + 1, none⟩ = some (.string nm0) := fun q => (q.old.cell (p := ⟨pb, po + 1, none⟩) (Nat.lt_of_lt_of_le hpl BY.out.size)).trans ((BY.out.cell (p := ⟨pb, po + 1, none⟩) hpl).trans K1.out)
              have g2 : ∀ q : Grown w6.heap.size w6, q.val.cell? ⟨pb, po + 2, none⟩ = some (.int .i64 n0) := fun q => (q.old.cell (p := ⟨pb, po + 2, none⟩) (Nat.lt_of_lt_of_le hpl BY.out.size)).trans ((BY.out.cell (p := ⟨pb, po + 2, none⟩) hpl).trans K2.out)
              have g3 : ∀ q : Grown w6.heap.size w6, q.val.cell? ⟨pb, po + 3, none⟩ = some (.int .i64 fk) := fun q => (q.old.cell (p := ⟨pb, po + 3, none⟩) (Nat.lt_of_lt_of_le hpl BY.out.size)).trans ((BY.out.cell (p := ⟨pb, po + 3, none⟩) hpl).trans K3.out)
              have g4 : ∀ q : Grown w6.heap.size w6, q.val.cell? ⟨pb, po + 4, none⟩ = some (.slice fa fn fc) := fun q => (q.old.cell (p := ⟨pb, po + 4, none⟩) (Nat.lt_of_lt_of_le hpl BY.out.size)).trans ((BY.out.cell (p := ⟨pb, po + 4, none⟩) hpl).trans K4.out)
              have g5 : ∀ q : Grown w6.heap.size w6, q.val.cell? ⟨pb, po + 5, none⟩ = some (.int .i64 tk) := fun q => (q.old.cell (p := ⟨pb, po + 5, none⟩) (Nat.lt_of_lt_of_le hpl BY.out.size)).trans ((BY.out.cell (p := ⟨pb, po + 5, none⟩) hpl).trans K5.out)
              have g6 : ∀ q : Grown w6.heap.size w6, q.val.cell? ⟨pb, po + 6, none⟩ = some (.slice ta tn tc) := fun q => (q.old.cell (p := ⟨pb, po + 6, none⟩) (Nat.lt_of_lt_of_le hpl BY.out.size)).trans ((BY.out.cell (p := ⟨pb, po + 6, none⟩) hpl).trans K6.out)
              have g7 : ∀ q : Grown w6.heap.size w6, q.val.cell? ⟨pb, po + 7, none⟩ = some (.slice a es.length cap) := fun q => (q.old.cell (p := ⟨pb, po + 7, none⟩) (Nat.lt_of_lt_of_le hpl BY.out.size)).trans ((BY.out.cell (p := ⟨pb, po + 7, none⟩) hpl).trans K7.out)
              have g8 : ∀ q : Grown w6.heap.size w6, q.val.cell? ⟨pb, po + 8, none⟩ = some (.slice a2 vs.length cap2) := fun q => (q.old.cell (p := ⟨pb, po + 8, none⟩) (Nat.lt_of_lt_of_le hpl BY.out.size)).trans ((BY.out.cell (p := ⟨pb, po + 8, none⟩) hpl).trans K8.out)
              have f0 : ∀ q : Grown w6.heap.size w6, q.val.cell? ⟨p9, 0, none⟩ = _ := fun q => (XY.out.grown q).2 0
              have f1 : ∀ q : Grown w6.heap.size w6, q.val.cell? ⟨p9, 1, none⟩ = _ := fun q => (XY.out.grown q).2 1
              have f2 : ∀ q : Grown w6.heap.size w6, q.val.cell? ⟨p9, 2, none⟩ = _ := fun q => (XY.out.grown q).2 2
              have f3 : ∀ q : Grown w6.heap.size w6, q.val.cell? ⟨p9, 3, none⟩ = _ := fun q => (XY.out.grown q).2 3
              have f4 : ∀ q : Grown w6.heap.size w6, q.val.cell? ⟨p9, 4, none⟩ = _ := fun q => (XY.out.grown q).2 4
              cases xf
              case false =>
                refine wp_region_grown w6.heap.size (by kernel_rfl) (by kernel_rfl) ?_
                repeat (go_big_quiet_step ((first | (go_at_call_of 133 (Value.bool bs); exact grown_of (Nat.le_refl _) (C5 _)) | (go_at_call_of 133 (Value.bool bt); exact grown_of (Nat.le_refl _) (C6 _)))))
                refine wpQuiet_nil ?_
                rintro w7 ⟨⟨wq, hq7⟩, rfl⟩
                clear g0 g1 g2 g3 g4 g5 g6 g7 g8 f0 f1 f2 f3 f4 C5 C6
                go_wp2_with fail
                go_ret
                exact ⟨by rw [HM.out]; rfl, BY.out.trans (hq7.mono BY.out.size)⟩
              case true =>
                refine wp_region_grown w6.heap.size (by kernel_rfl) (by kernel_rfl) ?_
                repeat (go_big_quiet_step ((first | (go_at_call_of 133 (Value.bool bs); exact grown_of (Nat.le_refl _) (C5 _)) | (go_at_call_of 133 (Value.bool bt); exact grown_of (Nat.le_refl _) (C6 _)))))
                refine wpQuiet_nil ?_
                rintro w7 ⟨⟨wq, hq7⟩, rfl⟩
                clear g0 g1 g2 g3 g4 g5 g6 g7 g8 f0 f1 f2 f3 f4 C5 C6
                go_wp2_with fail
                go_ret
                exact ⟨by rw [HM.out]; rfl, BY.out.trans (hq7.mono BY.out.size)⟩
          case false =>
            cases bv
            case true =>
              have hv : vs.length = 0 := by have h1 := of_decide_eq_true HBV.out.symm; have h2 := HLN.out; omega
              have hen0 := HEN.out
              rw [hv] at z8 hen0
              have HEN0 := Lib.hid hen0
              clear hv hen0
              go_wp2_with fail
              refine (implOwnNames d _ ns vs _ (HEN0.out.below BX.out) hlen2).mono ?_
              rintro e w6 ⟨rfl, hb6⟩
              have BY := Lib.hid (BX.out.trans (hb6.mono BX.out.size))
              have XY := Lib.hid (XX.out.below hb6)
              clear hb6 BX XX z8 y2
              rw [← HBO.out]
              cases bo
              case false =>
                go_wp2_with fail
                go_ret
                exact ⟨by rw [HM.out]; rfl, BY.out⟩
              case true =>
                have C5 : ∀ q : Grown w6.heap.size w6, Calls Tryd.prog 133 #[.bool bs, .agg #[.int .i64 fk, .slice fa fn fc]] q.val fun e w' => e = .returned (.bool (coTyFor bs fr)) ∧ Below q.val.heap.size q.val w' := fun q => implCoTyIf d _ _ fr _ (HFR.out.below (BY.out.trans (q.old.mono BY.out.size))) HFZ.out
                have C6 : ∀ q : Grown w6.heap.size w6, Calls Tryd.prog 133 #[.bool bt, .agg #[.int .i64 tk, .slice ta tn tc]] q.val fun e w' => e = .returned (.bool (coTyFor bt ty)) ∧ Below q.val.heap.size q.val w' := fun q => implCoTyIf d _ _ ty _ (HTY.out.below (BY.out.trans (q.old.mono BY.out.size))) HTZ.out
                obtain ⟨xf, hxf⟩ : ∃ x, x = coTyFor bs fr := ⟨_, rfl⟩
                rw [← hxf] at C5 HM
                obtain ⟨xt, hxt⟩ : ∃ x, x = coTyFor bt ty := ⟨_, rfl⟩
                rw [← hxt] at C6 HM
                clear hxf hxt
                go_wp2_with fail
                have g0 : ∀ q : Grown w6.heap.size w6, q.val.cell? ⟨pb, po, none⟩ = some (.int .i64 k) := fun q => (q.old.cell (p := ⟨pb, po, none⟩) (Nat.lt_of_lt_of_le hpl BY.out.size)).trans ((BY.out.cell (p := ⟨pb, po, none⟩) hpl).trans K0.out)
                have g1 : ∀ q : Grown w6.heap.size w6, q.val.cell? ⟨pb, po + 1, none⟩ = some (.string nm0) := fun q => (q.old.cell (p := ⟨pb, po + 1, none⟩) (Nat.lt_of_lt_of_le hpl BY.out.size)).trans ((BY.out.cell (p := ⟨pb, po + 1, none⟩) hpl).trans K1.out)
                have g2 : ∀ q : Grown w6.heap.size w6, q.val.cell? ⟨pb, po + 2, none⟩ = some (.int .i64 n0) := fun q => (q.old.cell (p := ⟨pb, po + 2, none⟩) (Nat.lt_of_lt_of_le hpl BY.out.size)).trans ((BY.out.cell (p := ⟨pb, po + 2, none⟩) hpl).trans K2.out)
                have g3 : ∀ q : Grown w6.heap.size w6, q.val.cell? ⟨pb, po + 3, none⟩ = some (.int .i64 fk) := fun q => (q.old.cell (p := ⟨pb, po + 3, none⟩) (Nat.lt_of_lt_of_le hpl BY.out.size)).trans ((BY.out.cell (p := ⟨pb, po + 3, none⟩) hpl).trans K3.out)
                have g4 : ∀ q : Grown w6.heap.size w6, q.val.cell? ⟨pb, po + 4, none⟩ = some (.slice fa fn fc) := fun q => (q.old.cell (p := ⟨pb, po + 4, none⟩) (Nat.lt_of_lt_of_le hpl BY.out.size)).trans ((BY.out.cell (p := ⟨pb, po + 4, none⟩) hpl).trans K4.out)
                have g5 : ∀ q : Grown w6.heap.size w6, q.val.cell? ⟨pb, po + 5, none⟩ = some (.int .i64 tk) := fun q => (q.old.cell (p := ⟨pb, po + 5, none⟩) (Nat.lt_of_lt_of_le hpl BY.out.size)).trans ((BY.out.cell (p := ⟨pb, po + 5, none⟩) hpl).trans K5.out)
                have g6 : ∀ q : Grown w6.heap.size w6, q.val.cell? ⟨pb, po + 6, none⟩ = some (.slice ta tn tc) := fun q => (q.old.cell (p := ⟨pb, po + 6, none⟩) (Nat.lt_of_lt_of_le hpl BY.out.size)).trans ((BY.out.cell (p := ⟨pb, po + 6, none⟩) hpl).trans K6.out)
                have g7 : ∀ q : Grown w6.heap.size w6, q.val.cell? ⟨pb, po + 7, none⟩ = some (.slice a es.length cap) := fun q => (q.old.cell (p := ⟨pb, po + 7, none⟩) (Nat.lt_of_lt_of_le hpl BY.out.size)).trans ((BY.out.cell (p := ⟨pb, po + 7, none⟩) hpl).trans K7.out)
                have g8 : ∀ q : Grown w6.heap.size w6, q.val.cell? ⟨pb, po + 8, none⟩ = some (.slice a2 vs.length cap2) := fun q => (q.old.cell (p := ⟨pb, po + 8, none⟩) (Nat.lt_of_lt_of_le hpl BY.out.size)).trans ((BY.out.cell (p := ⟨pb, po + 8, none⟩) hpl).trans K8.out)
                have f0 : ∀ q : Grown w6.heap.size w6, q.val.cell? ⟨p9, 0, none⟩ = _ := fun q => (XY.out.grown q).2 0
                have f1 : ∀ q : Grown w6.heap.size w6, q.val.cell? ⟨p9, 1, none⟩ = _ := fun q => (XY.out.grown q).2 1
                have f2 : ∀ q : Grown w6.heap.size w6, q.val.cell? ⟨p9, 2, none⟩ = _ := fun q => (XY.out.grown q).2 2
                have f3 : ∀ q : Grown w6.heap.size w6, q.val.cell? ⟨p9, 3, none⟩ = _ := fun q => (XY.out.grown q).2 3
                have f4 : ∀ q : Grown w6.heap.size w6, q.val.cell? ⟨p9, 4, none⟩ = _ := fun q => (XY.out.grown q).2 4
                cases xf
                case false =>
                  refine wp_region_grown w6.heap.size (by kernel_rfl) (by kernel_rfl) ?_
                  repeat (go_big_quiet_step ((first | (go_at_call_of 133 (Value.bool bs); exact grown_of (Nat.le_refl _) (C5 _)) | (go_at_call_of 133 (Value.bool bt); exact grown_of (Nat.le_refl _) (C6 _)))))
                  refine wpQuiet_nil ?_
                  rintro w7 ⟨⟨wq, hq7⟩, rfl⟩
                  clear g0 g1 g2 g3 g4 g5 g6 g7 g8 f0 f1 f2 f3 f4 C5 C6
                  go_wp2_with fail
                  go_ret
                  exact ⟨by rw [HM.out]; rfl, BY.out.trans (hq7.mono BY.out.size)⟩
                case true =>
                  refine wp_region_grown w6.heap.size (by kernel_rfl) (by kernel_rfl) ?_
                  repeat (go_big_quiet_step ((first | (go_at_call_of 133 (Value.bool bs); exact grown_of (Nat.le_refl _) (C5 _)) | (go_at_call_of 133 (Value.bool bt); exact grown_of (Nat.le_refl _) (C6 _)))))
                  refine wpQuiet_nil ?_
                  rintro w7 ⟨⟨wq, hq7⟩, rfl⟩
                  clear g0 g1 g2 g3 g4 g5 g6 g7 g8 f0 f1 f2 f3 f4 C5 C6
                  go_wp2_with fail
                  go_ret
                  exact ⟨by rw [HM.out]; rfl, BY.out.trans (hq7.mono BY.out.size)⟩
            case false =>
              have hp : 0 < vs.length := by have h1 := of_decide_eq_false HBV.out.symm; have h2 := HLN.out; omega
              go_wp2_with fail
              go_ret
              exact ⟨by rw [HM.out]; rfl, BX.out⟩
end Go.Proofs.YteeojgefnoaajaaDoor
