/-
  Proved: impl.(*freeSearch).look collects the free variables of a core expression, in new memory; the memory that was there stays as it was.
-/
import Derived.Test.YtefoenkmppeidaaLookSt
import Derived.Test.YtefoenkmppeidaaSzCore
import Derived.Test.YtefoenkmppeidaaHold
import Derived.Deep.RegionLaw
import Derived.Deep.DeepCutAuto
import Derived.Deep.AppendLies
namespace Go.Proofs.Ytefoenkmppeidaa
open Go.RowKit Go.Maps Go.WideMaps

theorem wp_calm {P : Program} {c : Code} {Q : Exit → Act → World → Prop} {a : Act} {w : World} (h : c.wp P (fun e a w => match e with | .normal => Q .normal a w | _ => False) a w) : c.wp P Q a w :=
  Code.wp_mono (fun e a w h => by cases e <;> first | exact h | exact h.elim) h
/-- What a search leaves. -/
def LookEnd (w0 : World) (s bc bf : Nat) (L : List ByteArray) (c : ByteArray → Int) (nc : Nat) (t : Co) (e : Ending) (w' : World) : Prop :=
  ∃ o' nc', e = .returned (.tuple #[]) ∧ LookSt w0 s bc bf w' o' (t.coll L c) c nc' ∧ nc' ≤ nc + 2 * (1 + t.bulk)
theorem coll_three (nm : ByteArray) (n : Int) (fr ty : Ty) (es : List Co) (ns : List ByteArray) (vs : List Co) (L : List ByteArray) (c : ByteArray → Int) : (Co.node 3 nm n fr ty es ns vs).coll L c = if 0 < c nm then L else addN L nm := by simp [Co.coll]
theorem coll_four (nm : ByteArray) (n : Int) (fr ty : Ty) (es : List Co) (ns : List ByteArray) (vs : List Co) (L : List ByteArray) (c : ByteArray → Int) : (Co.node 4 nm n fr ty es ns vs).coll L c = Co.colls (Co.colls L (bump c nm) es) (bump c nm) vs := by simp [Co.coll]
theorem coll_else (kd : Int) (nm : ByteArray) (n : Int) (fr ty : Ty) (es : List Co) (ns : List ByteArray) (vs : List Co) (L : List ByteArray) (c : ByteArray → Int) (h3 : kd ≠ 3) (h4 : kd ≠ 4) : (Co.node kd nm n fr ty es ns vs).coll L c = Co.colls (Co.colls L c es) c vs := by simp [Co.coll, h3, h4]
set_option maxRecDepth 100000 in
set_option maxHeartbeats 2000000 in
theorem look_bound (w0 : World) (s bc bf nc pb po : Nat) (o : Value) (L : List ByteArray) (c : ByteArray → Int) (nm : ByteArray) (w : World) (hst : LookSt w0 s bc bf w o L c nc)
    (z0 : w.cell? ⟨pb, po, none⟩ = some (.int .i64 3)) (z1 : w.cell? ⟨pb, po + 1, none⟩ = some (.string nm)) (hp : pb < w.heap.size) (hnz : nm.size ≤ 9223372036854775807) (hqc : 0 < c nm) :
    Calls Try.prog 75 #[.pointer (some ⟨s, 0, none⟩), .pointer (some ⟨pb, po, none⟩)] w fun e w' => e = .returned (.tuple #[]) ∧ LookSt w0 s bc bf w' o L c nc := by
  have HST := Lib.hid hst
  have hs := hst.2.1.2.2.2
  have hbc : bc < w.heap.size := by have := hst.2.1; omega
  have hbf : bf < w.heap.size := by have := hst.2.1; omega
  have H1 := Lib.hid hst.2.2.1.2.1
  have H2 := Lib.hid hst.2.2.1.2.2.1
  have HC := Lib.hid hst.2.2.2.2.1
  have HN := Lib.hid hst.2.2.2.2.2
  clear hst
  have Z1 := Lib.hid z1
  have HNZ := Lib.hid hnz; clear hnz
  go_enter_defers Try.func75, Try.ntmps75
  clear z1
  go_wp2_with fail
  have g1 : ∀ q : Grown w.heap.size w, q.val.cell? ⟨s, 1, none⟩ = some (.map (some bc)) := fun q => (q.old.cell (p := ⟨s, 1, none⟩) hs).trans H1.out
  have g2 : ∀ q : Grown w.heap.size w, q.val.cell? ⟨s, 2, none⟩ = some (.map (some bf)) := fun q => (q.old.cell (p := ⟨s, 2, none⟩) hs).trans H2.out
  have g3 : ∀ q : Grown w.heap.size w, q.val.cell? ⟨pb, po + 1, none⟩ = some (.string nm) := fun q => (q.old.cell (p := ⟨pb, po + 1, none⟩) hp).trans Z1.out
  have q0 : (c nm == 0) = false := by simp; omega
  have g4 : ∀ q : Grown w.heap.size w, (Instr.lookup 119 (Value.map (some bc)) (.string nm) false).run Try.prog q.val = .ok (.int .i64 (c nm)) q.val := fun q => (HC.out.kept (q.old.block bc hbc)).run nm HNZ.out
  clear z0
  refine wp_region_grown w.heap.size (by kernel_rfl) (by kernel_rfl) ?_
  repeat (go_big_quiet_step (fail))
  refine wpQuiet_nil ?_
  rintro _ ⟨⟨wq, hq⟩, rfl⟩
  go_wp2_with fail
  simp [bodyPostD, Leaves, results, Try.results75, go_sem]
  exact HST.out.below hq
set_option maxRecDepth 100000 in
set_option maxHeartbeats 2000000 in
theorem look_found (w0 : World) (s bc bf nc pb po : Nat) (o : Value) (L : List ByteArray) (c : ByteArray → Int) (nm : ByteArray) (w : World) (hst : LookSt w0 s bc bf w o L c nc)
    (z0 : w.cell? ⟨pb, po, none⟩ = some (.int .i64 3)) (z1 : w.cell? ⟨pb, po + 1, none⟩ = some (.string nm)) (hp : pb < w.heap.size) (hnz : nm.size ≤ 9223372036854775807) (hqc : c nm = 0) (hsn : seenB L nm.data.toList = true) :
    Calls Try.prog 75 #[.pointer (some ⟨s, 0, none⟩), .pointer (some ⟨pb, po, none⟩)] w fun e w' => e = .returned (.tuple #[]) ∧ LookSt w0 s bc bf w' o L c nc := by
  have HST := Lib.hid hst
  have hs := hst.2.1.2.2.2
  have hbc : bc < w.heap.size := by have := hst.2.1; omega
  have hbf : bf < w.heap.size := by have := hst.2.1; omega
  have H1 := Lib.hid hst.2.2.1.2.1
  have H2 := Lib.hid hst.2.2.1.2.2.1
  have HC := Lib.hid hst.2.2.2.2.1
  have HN := Lib.hid hst.2.2.2.2.2
  clear hst
  have Z1 := Lib.hid z1
  have HQC := Lib.hid hqc; clear hqc
  have HSN := Lib.hid hsn; clear hsn
  have HNZ := Lib.hid hnz; clear hnz
  go_enter_defers Try.func75, Try.ntmps75
  clear z1
  go_wp2_with fail
  have g1 : ∀ q : Grown w.heap.size w, q.val.cell? ⟨s, 1, none⟩ = some (.map (some bc)) := fun q => (q.old.cell (p := ⟨s, 1, none⟩) hs).trans H1.out
  have g2 : ∀ q : Grown w.heap.size w, q.val.cell? ⟨s, 2, none⟩ = some (.map (some bf)) := fun q => (q.old.cell (p := ⟨s, 2, none⟩) hs).trans H2.out
  have g3 : ∀ q : Grown w.heap.size w, q.val.cell? ⟨pb, po + 1, none⟩ = some (.string nm) := fun q => (q.old.cell (p := ⟨pb, po + 1, none⟩) hp).trans Z1.out
  have g4 : ∀ q : Grown w.heap.size w, (Instr.lookup 119 (Value.map (some bc)) (.string nm) false).run Try.prog q.val = .ok (.int .i64 0) q.val := fun q => by have h9 := (HC.out.kept (q.old.block bc hbc)).run nm HNZ.out; rw [HQC.out] at h9; exact h9
  have g5 : ∀ q : Grown w.heap.size w, (Instr.lookup 120 (.map (some bf)) (.string nm) false).run Try.prog q.val = .ok (.bool true) q.val := fun q => by have h9 := names_run (SetAt.kept HN.out (q.old.block bf hbf)) nm HNZ.out; rw [HSN.out] at h9; exact h9
  clear z0
  refine wp_region_grown w.heap.size (by kernel_rfl) (by kernel_rfl) ?_
  repeat (go_big_quiet_step (fail))
  refine wpQuiet_nil ?_
  rintro _ ⟨⟨wq, hq⟩, rfl⟩
  go_wp2_with fail
  simp [bodyPostD, Leaves, results, Try.results75, go_sem]
  exact HST.out.below hq
set_option maxRecDepth 100000 in
set_option maxHeartbeats 4000000 in
theorem look_new (w0 : World) (s bc bf nc pb po : Nat) (o : Value) (L : List ByteArray) (c : ByteArray → Int) (nm : ByteArray) (w : World) (hst : LookSt w0 s bc bf w o L c nc)
    (z0 : w.cell? ⟨pb, po, none⟩ = some (.int .i64 3)) (z1 : w.cell? ⟨pb, po + 1, none⟩ = some (.string nm)) (hp : pb < w0.heap.size) (hnz : nm.size ≤ 9223372036854775807) (hl : L.length < 1048577) (hqc : c nm = 0) (hsn : seenB L nm.data.toList = false) :
    Calls Try.prog 75 #[.pointer (some ⟨s, 0, none⟩), .pointer (some ⟨pb, po, none⟩)] w fun e w' => e = .returned (.tuple #[]) ∧ ∃ o', LookSt w0 s bc bf w' o' (L ++ [nm]) c nc := by
  have HST := Lib.hid hst
  have hs := hst.2.1.2.2.2
  have hbc : bc < w.heap.size := by have := hst.2.1; omega
  have hbf : bf < w.heap.size := by have := hst.2.1; omega
  have hp1 : pb < w.heap.size := Nat.lt_of_lt_of_le hp hst.1.size
  have hpf : pb ≠ bf := by have := hst.2.1; omega
  have H1 := Lib.hid hst.2.2.1.2.1
  have H2 := Lib.hid hst.2.2.1.2.2.1
  have HC := Lib.hid hst.2.2.2.2.1
  have HN := Lib.hid hst.2.2.2.2.2
  clear hst
  obtain ⟨i0, hi, hz0, hz1, hz2⟩ := info_parts info_str
  have HI := Lib.hid hi; clear hi
  have HZ0 := Lib.hid hz0; clear hz0
  have HZ1 := Lib.hid hz1; clear hz1
  have HZ2 := Lib.hid hz2; clear hz2
  have Z1 := Lib.hid z1
  have HNZ := Lib.hid hnz; clear hnz
  have HQC := Lib.hid hqc; clear hqc
  have HSN := Lib.hid hsn; clear hsn
  go_enter_defers Try.func75, Try.ntmps75
  clear z1
  go_wp2_with fail
  have g1 : ∀ q : Grown w.heap.size w, q.val.cell? ⟨s, 1, none⟩ = some (.map (some bc)) := fun q => (q.old.cell (p := ⟨s, 1, none⟩) hs).trans H1.out
  have g2 : ∀ q : Grown w.heap.size w, q.val.cell? ⟨s, 2, none⟩ = some (.map (some bf)) := fun q => (q.old.cell (p := ⟨s, 2, none⟩) hs).trans H2.out
  have g3 : ∀ q : Grown w.heap.size w, q.val.cell? ⟨pb, po + 1, none⟩ = some (.string nm) := fun q => (q.old.cell (p := ⟨pb, po + 1, none⟩) hp1).trans Z1.out
  have g4 : ∀ q : Grown w.heap.size w, (Instr.lookup 119 (Value.map (some bc)) (.string nm) false).run Try.prog q.val = .ok (.int .i64 0) q.val := fun q => by have h9 := (HC.out.kept (q.old.block bc hbc)).run nm HNZ.out; rw [HQC.out] at h9; exact h9
  have g5 : ∀ q : Grown w.heap.size w, (Instr.lookup 120 (.map (some bf)) (.string nm) false).run Try.prog q.val = .ok (.bool false) q.val := fun q => by have h9 := names_run (SetAt.kept HN.out (q.old.block bf hbf)) nm HNZ.out; rw [HSN.out] at h9; exact h9
  clear z0
  refine wp_region_grown w.heap.size (by kernel_rfl) (by kernel_rfl) ?_
  repeat (go_big_quiet_step (fail))
  refine wpQuiet_nil ?_
  rintro w9 ⟨q9, hw9⟩
  have HS9 : Hid (LookSt w0 s bc bf w9 o L c nc) := by rw [hw9]; exact HST.out.below q9.old
  have HQ2 : Hid (Below w.heap.size w w9) := by rw [hw9]; exact q9.old
  clear hw9 q9 g1 g2 g3 g4 g5
  have y1 : w9.cell? ⟨s, 2, none⟩ = some (Value.map (some bf)) := HS9.out.2.2.1.2.2.1
  have y3 : w9.cell? ⟨pb, po + 1, none⟩ = some (.string nm) := (HQ2.out.cell (p := ⟨pb, po + 1, none⟩) hp1).trans Z1.out
  have HSD : Hid (LookSt w0 s bc bf w9.drew o L c nc) := Lib.hid (HS9.out.below (below_drew w9))
  obtain ⟨w1, hrun, hn1, hg1⟩ := names_put HSD.out.2.2.2.2.2 (by unfold maxLen; omega) nm HNZ.out
  have HM := Lib.hid (HSD.out.mid hn1 hg1)
  have Z2 : Hid (w1.cell? ⟨pb, po + 1, none⟩ = some (.string nm)) := Lib.hid (((World.cell?_of_block (a := ⟨pb, po + 1, none⟩) (hg1.block pb (by have := HQ2.out.size; simp; omega) (fun e => hpf (by injection e)))).trans (World.cell?_of_block (a := ⟨pb, po + 1, none⟩) (by rfl))).trans y3)
  clear hn1 hg1
  go_wp2_with fail
  go_region
  clear y1 y3
  obtain ⟨oa, oc, rfl⟩ := own_slice9 HM.out.2.2.2.1
  have y0 : w1.cell? ⟨s, 0, none⟩ = some (.slice oa L.length oc) := HM.out.2.2.1.1
  have y3 : w1.cell? ⟨pb, po + 1, none⟩ = some (.string nm) := Z2.out
  have yf : w1.frozen? ⟨s, 0, none⟩ = false := HM.out.2.2.1.2.2.2
  have HO2 : Hid (w1.drew.ownsRow (s + 1) 9 1 (.slice oa L.length oc) L.length (L.map Value.string)) := row_below HM.out.2.2.2.1 (below_drew w1)
  go_upto_region 4 with fail
  refine wp_calm ?_
  have hls : s < w1.heap.size := HM.out.2.1.2.2.2
  go_region_law (first
      | (refine step_append_lies _ (by rfl) (.tmp 46) (.tmp 51) 63 (by rfl) (s + 1) 9 i0 (.string ⟨#[]⟩) 1 16 Try.underlying63 HI.out HZ0.out HZ1.out HZ2.out rfl (by omega) (.slice oa L.length oc) L.length (L.map Value.string) (by simp [Act.eval]) (HO2.out.alloc _) ⟨w1.drew.heap.size, 0, none⟩ 1 1 [.string nm] (by simp [Act.eval]) rfl (news_str _ _ _) (by simp [Value.oneCell']) (by omega) (by unfold maxLen; omega) (by omega) (by simp; omega) (w1.drew.heap.size + 1) (by simp) ?_
         intro g gc w2 hown1 hgrow hat1 hlt1
         have hzz : s < (w1.drew.alloc (.cells #[.string nm] 9)).heap.size := by simp; omega
         have k2 : w2.heap[s]? = w1.heap[s]? := (hgrow.block s hzz (fun e => by have := (HO2.out.lt s (by rw [← e])).1; omega)).trans (heap_alloc_old _ _ hls)
         have t0 : w2.cell? ⟨s, 0, none⟩ = some (.slice oa L.length oc) := (World.cell?_of_block (a := ⟨s, 0, none⟩) k2).trans y0
         have t1 : w2.frozen? ⟨s, 0, none⟩ = false := (World.frozen?_of_block (a := ⟨s, 0, none⟩) k2).trans yf
         have HF := Lib.hid (HM.out.added hgrow hown1)))
  all_goals dsimp only
  all_goals go_wp2_with fail
  all_goals simp [bodyPostD, Leaves, results, Try.results75, go_sem]
  all_goals exact ⟨_, HF.out⟩
set_option maxRecDepth 100000 in
set_option maxHeartbeats 8000000 in
theorem implLook (w0 : World) (s bc bf : Nat) : ∀ (d : Nat), ∀ (v : Value) (t : Co) (w : World) (o : Value) (L : List ByteArray) (c : ByteArray → Int) (nc : Nat), PtrCo w0 d v t → LookSt w0 s bc bf w o L c nc → (∀ x, 0 ≤ c x) → (∀ x, c x + t.bulk ≤ 1048577) → L.length + 1 + t.bulk ≤ 1048577 → nc + 2 * (1 + t.bulk) ≤ 4194304 → Calls Try.prog 75 #[.pointer (some ⟨s, 0, none⟩), v] w (LookEnd w0 s bc bf L c nc t)
  | 0, _, _, _, _, _, _, _, h, _, _, _, _, _ => by
    obtain ⟨_, _, _, _, _, _, _, _, _, _, _, _, _, _, _, _, _, _, _, _, _, _, h⟩ := h
    exact h.elim
  | d + 1, v, .node kd nm n fr ty es ns vs, w, o, L, c, nc, h, hst, hc0, hcm, hlm, hnm2 => by
    have IH : Hid (∀ (v : Value) (t : Co) (w : World) (o : Value) (L : List ByteArray) (c : ByteArray → Int) (nc : Nat), PtrCo w0 d v t → LookSt w0 s bc bf w o L c nc → (∀ x, 0 ≤ c x) → (∀ x, c x + t.bulk ≤ 1048577) → L.length + 1 + t.bulk ≤ 1048577 → nc + 2 * (1 + t.bulk) ≤ 4194304 → Calls Try.prog 75 #[.pointer (some ⟨s, 0, none⟩), v] w (LookEnd w0 s bc bf L c nc t)) := implLook w0 s bc bf d
    obtain ⟨pb, po, k0, k1, k2, k3, k4, k5, k6, k7, k8, rfl, hpl, z0, z1, z2, z3, z4, z5, z6, z7, z8, h⟩ := h
    obtain ⟨c3, c4, c5, c6, sl, el, hx, hk0, hk1, hn0, hn1, hnm, hfr, hty, ⟨a, cap, rfl, hcap, hcap2, hat⟩, hnl, a2, cap3, rfl, hcap3, hcap4, hcb⟩ := h
    injection hx with hx
    injection hx with hx
    simp at hx
    obtain ⟨rfl, rfl, rfl, rfl, rfl, rfl, rfl, rfl, rfl⟩ := hx
    have HAT := Lib.hid hat; clear hat
    have HCB := Lib.hid hcb; clear hcb
    have K0 := Lib.hid z0
    have K1 := Lib.hid z1
    have K7 := Lib.hid z7
    have K8 := Lib.hid z8
    clear z0 z1 z2 z3 z4 z5 z6 z7 z8 hfr hty
    have hbk : (Co.node kd nm n fr ty es ns vs).bulk = nm.size + (fr.size - 1) + (ty.size - 1) + Co.bulks es + (txs ns + Co.bulks vs) := rfl
    have HBK : Hid (Co.bulks es + Co.bulks vs ≤ (Co.node kd nm n fr ty es ns vs).bulk) := by show _ ≤ _; omega
    clear hbk
    have hlen : es.length ≤ 1048576 := by have h1 := Co.length_le es; have h2 := HBK.out; omega
    have hlen2 : vs.length ≤ 1048576 := by have h1 := Co.length_le vs; have h2 := HBK.out; omega
    have HNM := Lib.hid hnm; clear hnm
    have HNL := Lib.hid hnl; clear hnl
    have HC0 := Lib.hid hc0; clear hc0
    have HCM := Lib.hid hcm; clear hcm
    have HLM := Lib.hid hlm; clear hlm
    have HN2 := Lib.hid hnm2; clear hnm2
    have HS := Lib.hid hst; clear hst
    have HSZ : Hid (w0.heap.size ≤ w.heap.size) := HS.out.1.size
    have b0 : w.cell? ⟨pb, po, none⟩ = _ := (HS.out.1.cell (p := ⟨pb, po, none⟩) hpl).trans K0.out
    have b1 : w.cell? ⟨pb, po + 1, none⟩ = _ := (HS.out.1.cell (p := ⟨pb, po + 1, none⟩) hpl).trans K1.out
    by_cases q3 : kd = 3
    · subst q3
      have HP1 : Hid (pb < w.heap.size) := Nat.lt_of_lt_of_le hpl HSZ.out
      have hc3 := coll_three nm n fr ty es ns vs L c
      by_cases hp : 0 < c nm
      · rw [if_pos hp] at hc3
        refine (look_bound w0 s bc bf nc pb po o L c nm w HS.out b0 b1 HP1.out HNM.out hp).mono ?_
        rintro e w' ⟨rfl, h⟩
        exact ⟨o, nc, rfl, by rw [hc3]; exact h, by omega⟩
      · rw [if_neg hp] at hc3
        have hz : c nm = 0 := by have := HC0.out nm; omega
        cases hq : seenB L nm.data.toList with
        | true =>
          have e1 : addN L nm = L := by simp [addN, hq]
          rw [e1] at hc3
          refine (look_found w0 s bc bf nc pb po o L c nm w HS.out b0 b1 HP1.out HNM.out hz hq).mono ?_
          rintro e w' ⟨rfl, h⟩
          exact ⟨o, nc, rfl, by rw [hc3]; exact h, by omega⟩
        | false =>
          have e1 : addN L nm = L ++ [nm] := by simp [addN, hq]
          rw [e1] at hc3
          refine (look_new w0 s bc bf nc pb po o L c nm w HS.out b0 b1 hpl HNM.out (by have := HLM.out; omega) hz hq).mono ?_
          rintro e w' ⟨rfl, o', h⟩
          exact ⟨o', nc, rfl, by rw [hc3]; exact h, by omega⟩
    by_cases q4 : kd = 4
    · subst q4
      have HCO := Lib.hid (coll_four nm n fr ty es ns vs L c)
      have hcnm0 : 0 ≤ c nm := HC0.out nm
      have hcnm1 : c nm + 1 ≤ 1048578 := by have := HCM.out nm; omega
      have WF1 : Hid ((Lit.int .i64 (c nm + 1)).wf = true) := WalkArith.wf_i64 (by omega)
      have HP : Hid (∀ x, 0 ≤ bump c nm x) := bump_pos HC0.out nm
      have HQ : Hid (∀ x, bump c nm x + (Co.bulks es + Co.bulks vs) ≤ 1048578) := fun x => by
        have h1 := HCM.out x
        have h2 := HBK.out
        have h3 : bump c nm x ≤ c x + 1 := by unfold bump; split <;> omega
        omega
      have HSD : Hid (LookSt w0 s bc bf w.drew o L c nc) := Lib.hid (HS.out.below (below_drew w))
      have HPS := Lib.hid (HS.out.2.1.2.2.2)
      have hlook := HSD.out.2.2.2.2.1.run nm HNM.out
      obtain ⟨w1, hput, hcnt1, hg1⟩ := HSD.out.2.2.2.2.1.put (by have := HN2.out; unfold maxLen; omega) nm HNM.out (c nm + 1) WF1.out
      rw [cnt_bump] at hcnt1
      have HS1 := Lib.hid (HSD.out.counted hcnt1 hg1)
      clear hcnt1 hg1
      have y1 : w.cell? ⟨s, 1, none⟩ = some (.map (some bc)) := HS.out.2.2.1.2.1
      have hwr : IntKind.i64.wrap (c nm + 1) = c nm + 1 := IntWalk.i64_in _ (by omega)
      go_enter_defers Try.func75, Try.ntmps75
      go_wp2_with fail
      go_region
      clear hput hlook hwr y1 b0 b1
      have b1 : w1.cell? ⟨pb, po + 1, none⟩ = _ := (HS1.out.1.cell (p := ⟨pb, po + 1, none⟩) hpl).trans K1.out
      have bx : w1.cell? ⟨pb, po + 7, none⟩ = _ := (HS1.out.1.cell (p := ⟨pb, po + 7, none⟩) hpl).trans K7.out
      go_wp2_with fail
      clear b1
      go_loopw [77] (fun i wr => ∃ (k nk : Nat) (oo : Value), k ≤ es.length ∧ i = .int .i64 k ∧ LookSt w0 s bc bf wr oo (Co.colls L (bump c nm) (es.take k)) (bump c nm) nk ∧ nk ≤ (nc + 1) + 2 * Co.bulks (es.take k)) (fun i _ => es.length - (intOf i).toNat)
      case atStart => exact ⟨0, (nc + 1), _, by omega, rfl, by rw [List.take_zero]; simp only [Co.colls]; exact HS1.out, by simp [Co.bulks]⟩
      case round =>
        obtain ⟨k, nk, oo, hk, rfl, hst, hnk⟩ := hrel
        clear bx
        have bx := (hst.1.cell (p := ⟨pb, po + 7, none⟩) hpl).trans K7.out
        have HS := Lib.hid hst; clear hst
        have HNK := Lib.hid hnk; clear hnk
        have hcl := Co.colls_few (es.take k) L (bump c nm)
        have hbl0 := Co.bulks_le es k
        by_cases hlt : k < es.length
        · have hg := Co.bulk_get es k hlt
          have hbt := Co.bulks_take es k hlt
          have hbt2 := Co.bulks_le es (k + 1)
          obtain ⟨b, off, x0, x1, x2, x3, x4, x5, x6, x7, x8, rfl, hbl, hc0, hc1, hc2, hc3, hc4, hc5, hc6, hc7, hc8, ht⟩ := HAT.out k hlt
          have HPT : Hid (PtrCo w0 d (.pointer (some ⟨b, off + k * 9, none⟩)) es[k]) := ⟨b, off + k * 9, _, _, _, _, _, _, _, _, _, rfl, hbl, hc0, hc1, hc2, hc3, hc4, hc5, hc6, hc7, hc8, ht⟩
          clear ht hc0 hc1 hc2 hc3 hc4 hc5 hc6 hc7 hc8
          have HTK := Lib.hid (Co.colls_take es L (bump c nm) k hlt)
          have HX1 : Hid (∀ x, (bump c nm) x + es[k].bulk ≤ 1048577) := fun x => by have := HQ.out x; omega
          have HX2 : Hid ((Co.colls L (bump c nm) (es.take k)).length + 1 + es[k].bulk ≤ 1048577) := by show _ ≤ _; have h1 := HLM.out; have h2 := HBK.out; omega
          have HX3 : Hid (nk + 2 * (1 + es[k].bulk) ≤ 4194304) := by show _ ≤ _; have h1 := HN2.out; have h2 := HBK.out; have h3 := HNK.out; omega
          have HX4 : Hid (nk + 2 * (1 + es[k].bulk) ≤ (nc + 1) + 2 * Co.bulks (es.take (k + 1))) := by show _ ≤ _; have h3 := HNK.out; omega
          clear hg hbt hbt2 hcl hbl0
          go_wp2_with fail
          refine (IH.out _ es[k] _ _ _ (bump c nm) nk HPT.out HS.out HP.out HX1.out HX2.out HX3.out).mono ?_
          rintro e w2 ⟨o2, n2, rfl, hs2, hn2⟩
          rw [← HTK.out] at hs2
          have HS2 := Lib.hid hs2; clear hs2
          have HN3 : Hid (n2 ≤ (nc + 1) + 2 * Co.bulks (es.take (k + 1))) := Nat.le_trans hn2 HX4.out
          clear hn2
          go_wp2_with fail
          exact ⟨⟨k + 1, n2, o2, by omega, by go_num, HS2.out, HN3.out⟩, by simp [intOf]; omega⟩
        · obtain rfl : k = es.length := by omega
          have hfin := HS.out
          rw [List.take_length] at hfin
          have HFes := Lib.hid hfin; clear hfin
          have hnk2 : nk ≤ (nc + 1) + 2 * Co.bulks es := by have := HNK.out; rw [List.take_length] at this; exact this
          have HNKes := Lib.hid hnk2; clear hcl hbl0 hnk2
          clear HS HNK bx
          have bx := (HFes.out.1.cell (p := ⟨pb, po + 8, none⟩) hpl).trans K8.out
          go_wp2_with fail
          go_loopw [94] (fun i wr => ∃ (k nk : Nat) (oo : Value), k ≤ vs.length ∧ i = .int .i64 k ∧ LookSt w0 s bc bf wr oo (Co.colls (Co.colls L (bump c nm) es) (bump c nm) (vs.take k)) (bump c nm) nk ∧ nk ≤ ((nc + 1) + 2 * Co.bulks es) + 2 * Co.bulks (vs.take k)) (fun i _ => vs.length - (intOf i).toNat)
          case atStart => exact ⟨0, _, _, by omega, rfl, by rw [List.take_zero]; simp only [Co.colls]; exact HFes.out, by simp only [List.take_zero, Co.bulks]; exact HNKes.out⟩
          case round =>
            obtain ⟨k, nk, oo, hk, rfl, hst, hnk⟩ := hrel
            clear bx
            have bx := (hst.1.cell (p := ⟨pb, po + 8, none⟩) hpl).trans K8.out
            have HS := Lib.hid hst; clear hst
            have HNK := Lib.hid hnk; clear hnk
            have hcl := Co.colls_few (vs.take k) (Co.colls L (bump c nm) es) (bump c nm)
            have hbl0 := Co.bulks_le vs k
            by_cases hlt : k < vs.length
            · have hg := Co.bulk_get vs k hlt
              have hbt := Co.bulks_take vs k hlt
              have hbt2 := Co.bulks_le vs (k + 1)
              have hltn : k < ns.length := by rw [HNL.out]; exact hlt
              obtain ⟨b, off, x0, x1, x2, x3, x4, x5, x6, x7, x8, rfl, hbl, hnz, hcn, hc0, hc1, hc2, hc3, hc4, hc5, hc6, hc7, hc8, ht⟩ := HCB.out k hlt hltn
              have HPT : Hid (PtrCo w0 d (.pointer (some ⟨b, off + k * 10 + 1, none⟩)) vs[k]) := ⟨b, off + k * 10 + 1, _, _, _, _, _, _, _, _, _, rfl, hbl, hc0, hc1, hc2, hc3, hc4, hc5, hc6, hc7, hc8, ht⟩
              clear ht hc0 hc1 hc2 hc3 hc4 hc5 hc6 hc7 hc8 hnz hcn hltn
              have HTK := Lib.hid (Co.colls_take vs (Co.colls L (bump c nm) es) (bump c nm) k hlt)
              have HX1 : Hid (∀ x, (bump c nm) x + vs[k].bulk ≤ 1048577) := fun x => by have := HQ.out x; omega
              have HX2 : Hid ((Co.colls (Co.colls L (bump c nm) es) (bump c nm) (vs.take k)).length + 1 + vs[k].bulk ≤ 1048577) := by show _ ≤ _; have h1 := HLM.out; have h2 := HBK.out; have h5 := Co.colls_few es L (bump c nm); omega
              have HX3 : Hid (nk + 2 * (1 + vs[k].bulk) ≤ 4194304) := by show _ ≤ _; have h1 := HN2.out; have h2 := HBK.out; have h3 := HNK.out; omega
              have HX4 : Hid (nk + 2 * (1 + vs[k].bulk) ≤ ((nc + 1) + 2 * Co.bulks es) + 2 * Co.bulks (vs.take (k + 1))) := by show _ ≤ _; have h3 := HNK.out; omega
              clear hg hbt hbt2 hcl hbl0
              go_wp2_with fail
              refine (IH.out _ vs[k] _ _ _ (bump c nm) nk HPT.out HS.out HP.out HX1.out HX2.out HX3.out).mono ?_
              rintro e w2 ⟨o2, n2, rfl, hs2, hn2⟩
              rw [← HTK.out] at hs2
              have HS2 := Lib.hid hs2; clear hs2
              have HN3 : Hid (n2 ≤ ((nc + 1) + 2 * Co.bulks es) + 2 * Co.bulks (vs.take (k + 1))) := Nat.le_trans hn2 HX4.out
              clear hn2
              go_wp2_with fail
              exact ⟨⟨k + 1, n2, o2, by omega, by go_num, HS2.out, HN3.out⟩, by simp [intOf]; omega⟩
            · obtain rfl : k = vs.length := by omega
              have hfin := HS.out
              rw [List.take_length] at hfin
              have HFvs := Lib.hid hfin; clear hfin
              have hnk2 : nk ≤ ((nc + 1) + 2 * Co.bulks es) + 2 * Co.bulks vs := by have := HNK.out; rw [List.take_length] at this; exact this
              have HNKvs := Lib.hid hnk2; clear hcl hbl0 hnk2
              clear HS HNK bx
              have hcb : 1 ≤ bump c nm nm ∧ bump c nm nm ≤ 1048578 := by have e : bump c nm nm = c nm + 1 := if_pos rfl; have h1 := HCM.out nm; have h2 := HC0.out nm; omega
              have HCB4 := Lib.hid hcb; clear hcb
              have HR : Hid (nk < 4194304 ∧ nk + 1 ≤ nc + 2 * (1 + (Co.node 4 nm n fr ty es ns vs).bulk)) := by have h1 := HNKvs.out; have h2 := HBK.out; have h3 := HN2.out; exact ⟨by omega, by omega⟩
              go_wp2_with fail
              refine leaves_cons (f := 108) (args := #[.pointer (some ⟨s, 0, none⟩), .string nm]) (by simp) (by simp [go_sem]) ?_
              refine (implLeave s bc nk (bump c nm) nm .returning _ HFvs.out.2.2.1.2.1 HFvs.out.2.2.2.2.1 HR.out.1 HNM.out HCB4.out.1 HCB4.out.2).mono ?_
              rintro e u' w3 ⟨rfl, rfl, hcnt3, hg3⟩
              rw [cnt_back] at hcnt3
              have HF3 := Lib.hid (HFvs.out.counted hcnt3 hg3)
              simp [Leaves, settle, results, Try.results75, go_sem]
              exact ⟨_, _, rfl, by rw [HCO.out]; exact HF3.out, HR.out.2⟩

    have qb3 : (kd == 3) = false := by simp [q3]
    have qb4 : (kd == 4) = false := by simp [q4]
    have HCO := Lib.hid (coll_else kd nm n fr ty es ns vs L c q3 q4)
    have HP : Hid (∀ x, 0 ≤ c x) := HC0
    have HQ : Hid (∀ x, c x + (Co.bulks es + Co.bulks vs) ≤ 1048577) := fun x => by have h1 := HCM.out x; have h2 := HBK.out; omega
    clear q3 q4 b1
    have bx : w.cell? ⟨pb, po + 7, none⟩ = _ := (HS.out.1.cell (p := ⟨pb, po + 7, none⟩) hpl).trans K7.out
    have HS0 := HS
    clear HS
    go_enter_defers Try.func75, Try.ntmps75
    go_wp2_with fail
    clear b0
    go_loopw [77] (fun i wr => ∃ (k nk : Nat) (oo : Value), k ≤ es.length ∧ i = .int .i64 k ∧ LookSt w0 s bc bf wr oo (Co.colls L c (es.take k)) c nk ∧ nk ≤ nc + 2 * Co.bulks (es.take k)) (fun i _ => es.length - (intOf i).toNat)
    case atStart => exact ⟨0, nc, _, by omega, rfl, by rw [List.take_zero]; simp only [Co.colls]; exact HS0.out, by simp [Co.bulks]⟩
    case round =>
      obtain ⟨k, nk, oo, hk, rfl, hst, hnk⟩ := hrel
      clear bx
      have bx := (hst.1.cell (p := ⟨pb, po + 7, none⟩) hpl).trans K7.out
      have HS := Lib.hid hst; clear hst
      have HNK := Lib.hid hnk; clear hnk
      have hcl := Co.colls_few (es.take k) L c
      have hbl0 := Co.bulks_le es k
      by_cases hlt : k < es.length
      · have hg := Co.bulk_get es k hlt
        have hbt := Co.bulks_take es k hlt
        have hbt2 := Co.bulks_le es (k + 1)
        obtain ⟨b, off, x0, x1, x2, x3, x4, x5, x6, x7, x8, rfl, hbl, hc0, hc1, hc2, hc3, hc4, hc5, hc6, hc7, hc8, ht⟩ := HAT.out k hlt
        have HPT : Hid (PtrCo w0 d (.pointer (some ⟨b, off + k * 9, none⟩)) es[k]) := ⟨b, off + k * 9, _, _, _, _, _, _, _, _, _, rfl, hbl, hc0, hc1, hc2, hc3, hc4, hc5, hc6, hc7, hc8, ht⟩
        clear ht hc0 hc1 hc2 hc3 hc4 hc5 hc6 hc7 hc8
        have HTK := Lib.hid (Co.colls_take es L c k hlt)
        have HX1 : Hid (∀ x, c x + es[k].bulk ≤ 1048577) := fun x => by have := HQ.out x; omega
        have HX2 : Hid ((Co.colls L c (es.take k)).length + 1 + es[k].bulk ≤ 1048577) := by show _ ≤ _; have h1 := HLM.out; have h2 := HBK.out; omega
        have HX3 : Hid (nk + 2 * (1 + es[k].bulk) ≤ 4194304) := by show _ ≤ _; have h1 := HN2.out; have h2 := HBK.out; have h3 := HNK.out; omega
        have HX4 : Hid (nk + 2 * (1 + es[k].bulk) ≤ nc + 2 * Co.bulks (es.take (k + 1))) := by show _ ≤ _; have h3 := HNK.out; omega
        clear hg hbt hbt2 hcl hbl0
        go_wp2_with fail
        refine (IH.out _ es[k] _ _ _ c nk HPT.out HS.out HP.out HX1.out HX2.out HX3.out).mono ?_
        rintro e w2 ⟨o2, n2, rfl, hs2, hn2⟩
        rw [← HTK.out] at hs2
        have HS2 := Lib.hid hs2; clear hs2
        have HN3 : Hid (n2 ≤ nc + 2 * Co.bulks (es.take (k + 1))) := Nat.le_trans hn2 HX4.out
        clear hn2
        go_wp2_with fail
        exact ⟨⟨k + 1, n2, o2, by omega, by go_num, HS2.out, HN3.out⟩, by simp [intOf]; omega⟩
      · obtain rfl : k = es.length := by omega
        have hfin := HS.out
        rw [List.take_length] at hfin
        have HFes := Lib.hid hfin; clear hfin
        have hnk2 : nk ≤ nc + 2 * Co.bulks es := by have := HNK.out; rw [List.take_length] at this; exact this
        have HNKes := Lib.hid hnk2; clear hcl hbl0 hnk2
        clear HS HNK bx
        have bx := (HFes.out.1.cell (p := ⟨pb, po + 8, none⟩) hpl).trans K8.out
        go_wp2_with fail
        go_loopw [94] (fun i wr => ∃ (k nk : Nat) (oo : Value), k ≤ vs.length ∧ i = .int .i64 k ∧ LookSt w0 s bc bf wr oo (Co.colls (Co.colls L c es) c (vs.take k)) c nk ∧ nk ≤ (nc + 2 * Co.bulks es) + 2 * Co.bulks (vs.take k)) (fun i _ => vs.length - (intOf i).toNat)
        case atStart => exact ⟨0, _, _, by omega, rfl, by rw [List.take_zero]; simp only [Co.colls]; exact HFes.out, by simp only [List.take_zero, Co.bulks]; exact HNKes.out⟩
        case round =>
          obtain ⟨k, nk, oo, hk, rfl, hst, hnk⟩ := hrel
          clear bx
          have bx := (hst.1.cell (p := ⟨pb, po + 8, none⟩) hpl).trans K8.out
          have HS := Lib.hid hst; clear hst
          have HNK := Lib.hid hnk; clear hnk
          have hcl := Co.colls_few (vs.take k) (Co.colls L c es) c
          have hbl0 := Co.bulks_le vs k
          by_cases hlt : k < vs.length
          · have hg := Co.bulk_get vs k hlt
            have hbt := Co.bulks_take vs k hlt
            have hbt2 := Co.bulks_le vs (k + 1)
            have hltn : k < ns.length := by rw [HNL.out]; exact hlt
            obtain ⟨b, off, x0, x1, x2, x3, x4, x5, x6, x7, x8, rfl, hbl, hnz, hcn, hc0, hc1, hc2, hc3, hc4, hc5, hc6, hc7, hc8, ht⟩ := HCB.out k hlt hltn
            have HPT : Hid (PtrCo w0 d (.pointer (some ⟨b, off + k * 10 + 1, none⟩)) vs[k]) := ⟨b, off + k * 10 + 1, _, _, _, _, _, _, _, _, _, rfl, hbl, hc0, hc1, hc2, hc3, hc4, hc5, hc6, hc7, hc8, ht⟩
            clear ht hc0 hc1 hc2 hc3 hc4 hc5 hc6 hc7 hc8 hnz hcn hltn
            have HTK := Lib.hid (Co.colls_take vs (Co.colls L c es) c k hlt)
            have HX1 : Hid (∀ x, c x + vs[k].bulk ≤ 1048577) := fun x => by have := HQ.out x; omega
            have HX2 : Hid ((Co.colls (Co.colls L c es) c (vs.take k)).length + 1 + vs[k].bulk ≤ 1048577) := by show _ ≤ _; have h1 := HLM.out; have h2 := HBK.out; have h5 := Co.colls_few es L c; omega
            have HX3 : Hid (nk + 2 * (1 + vs[k].bulk) ≤ 4194304) := by show _ ≤ _; have h1 := HN2.out; have h2 := HBK.out; have h3 := HNK.out; omega
            have HX4 : Hid (nk + 2 * (1 + vs[k].bulk) ≤ (nc + 2 * Co.bulks es) + 2 * Co.bulks (vs.take (k + 1))) := by show _ ≤ _; have h3 := HNK.out; omega
            clear hg hbt hbt2 hcl hbl0
            go_wp2_with fail
            refine (IH.out _ vs[k] _ _ _ c nk HPT.out HS.out HP.out HX1.out HX2.out HX3.out).mono ?_
            rintro e w2 ⟨o2, n2, rfl, hs2, hn2⟩
            rw [← HTK.out] at hs2
            have HS2 := Lib.hid hs2; clear hs2
            have HN3 : Hid (n2 ≤ (nc + 2 * Co.bulks es) + 2 * Co.bulks (vs.take (k + 1))) := Nat.le_trans hn2 HX4.out
            clear hn2
            go_wp2_with fail
            exact ⟨⟨k + 1, n2, o2, by omega, by go_num, HS2.out, HN3.out⟩, by simp [intOf]; omega⟩
          · obtain rfl : k = vs.length := by omega
            have hfin := HS.out
            rw [List.take_length] at hfin
            have HFvs := Lib.hid hfin; clear hfin
            have hnk2 : nk ≤ (nc + 2 * Co.bulks es) + 2 * Co.bulks vs := by have := HNK.out; rw [List.take_length] at this; exact this
            have HNKvs := Lib.hid hnk2; clear hcl hbl0 hnk2
            clear HS HNK bx
            have HR : Hid (nk ≤ nc + 2 * (1 + (Co.node kd nm n fr ty es ns vs).bulk)) := by show _ ≤ _; have h1 := HNKvs.out; have h2 := HBK.out; omega
            go_wp2_with fail
            simp [bodyPostD, Leaves, results, Try.results75, go_sem]
            exact ⟨_, _, rfl, by rw [HCO.out]; exact HFvs.out, HR.out⟩

end Go.Proofs.Ytefoenkmppeidaa
