/-
  Proved: the walk of the law FnNames: it returns true and changes no memory that was there. On these terms: the library's table of powers of ten holds what the program's text lays.
-/
import Derived.Test.YtafehlhmkomeiaaDoorCodeArgN
import Derived.Test.YtafehlhmkomeiaaDoorDrawNames
import Derived.Test.YtafehlhmkomeiaaDoorIndex
import Derived.Test.YtafehlhmkomeiaaDoorImplFresh
import Derived.Test.YtafehlhmkomeiaaDoorSpecFresh
import Derived.Test.YtafehlhmkomeiaaDoorImplUniteN
import Derived.Test.YtafehlhmkomeiaaDoorSpecName
import Derived.Test.YtafehlhmkomeiaaDoorImplName
import Derived.BigQuiet
namespace Go.Proofs.YtafehlhmkomeiaaDoor
open Go.RowKit

theorem idx_none {x : ByteArray} : ∀ (L : List ByteArray) (k : Nat), x ∉ L → idx L x k = -1
  | [], _, _ => rfl
  | a :: r, k, h => by
    unfold idx
    have hne : (a.toList == x.toList) = false := by
      rw [beq_eq_false_iff_ne]
      intro e
      exact h (by rw [list_inj e]; simp)
    rw [if_neg (by rw [hne]; simp)]
    exact idx_none r (k + 1) (fun hm => h (List.mem_cons_of_mem _ hm))
theorem idx_self : ∀ (L : List ByteArray) (k o : Nat) (h : k < L.length), L.Nodup → idx L L[k] o = (o + k : Nat)
  | a :: r, 0, o, _, _ => by simp [idx]
  | a :: r, k + 1, o, h, hn => by
    have hn' := List.nodup_cons.1 hn
    have hk : k < r.length := by simpa using h
    have hne : (a.toList == r[k].toList) = false := by
      rw [beq_eq_false_iff_ne]
      intro e
      exact hn'.1 (by rw [list_inj e]; exact List.getElem_mem hk)
    simp only [List.getElem_cons_succ]
    unfold idx
    rw [if_neg (by rw [hne]; simp), idx_self r k (o + 1) hk hn'.2]
    congr 1; omega
theorem addN_nodup {L : List ByteArray} {x : ByteArray} (h : L.Nodup) : (addN L x).Nodup := by
  unfold addN
  by_cases hs : seenB L x.data.toList = true
  · rw [if_pos hs]; exact h
  · rw [if_neg hs]
    refine List.nodup_append.2 ⟨h, by simp, ?_⟩
    intro a ha b hb e
    simp at hb
    subst hb
    exact hs ((seenB_mem L _).2 (e ▸ ha))
theorem addAll_nodup : ∀ (ss L : List ByteArray), L.Nodup → (addAll L ss).Nodup
  | [], _, h => h
  | a :: r, L, h => addAll_nodup r (addN L a) (addN_nodup h)
theorem without_mem (s : ByteArray) : ∀ ss : List ByteArray, s ∉ without ss s
  | [] => by simp [without]
  | a :: r => by
    unfold without
    split
    · exact without_mem s r
    · rename_i h
      intro hm
      rcases List.mem_cons.1 hm with e | hm
      · exact h (by rw [e]; simp)
      · exact without_mem s r hm
set_option maxRecDepth 100000 in
set_option maxHeartbeats 1000000 in
theorem sameTexts (v1 v2 : Value) (ss : List ByteArray) (hn : ss.length ≤ 9223372036854775807) (w : World) (h1 : Strs w v1 ss) (h2 : Strs w v2 ss) :
    Calls Tryd.prog 13 #[v1, v2] w fun e w' => e = .returned (.bool true) ∧ Below w.heap.size w w' := by
  obtain ⟨a1, cap1, rfl, hcap1, hat1⟩ := h1
  obtain ⟨a2, cap2, rfl, hcap2, hat2⟩ := h2
  have HC1 := Lib.hid hat1; clear hat1
  have HC2 := Lib.hid hat2; clear hat2
  go_enter Tryd.func13, Tryd.ntmps13
  go_wp2_with fail
  go_loopw [5] (fun i wr => ∃ k : Nat, k ≤ ss.length ∧ i = .int .i64 k ∧ Below w.heap.size w wr) (fun i _ => ss.length - (intOf i).toNat)
  case atStart => exact ⟨0, by omega, rfl, Below.refl _ _⟩
  case round =>
    obtain ⟨k, hk, rfl, hb⟩ := hrel
    by_cases hlt : k < ss.length
    · obtain ⟨b1, off1, rfl, hbl1, hcell1⟩ := HC1.out k hlt
      obtain ⟨b2, off2, rfl, hbl2, hcell2⟩ := HC2.out k hlt
      have c1 : wr.cell? ⟨b1, off1 + k, none⟩ = some (.string ss[k]) := by rw [hb.cell (p := ⟨b1, off1 + k, none⟩) hbl1]; exact hcell1
      have c2 : wr.cell? ⟨b2, off2 + k, none⟩ = some (.string ss[k]) := by rw [hb.cell (p := ⟨b2, off2 + k, none⟩) hbl2]; exact hcell2
      have HB2 := Lib.hid hb; clear hb hcell1 hcell2
      go_wp2_with fail
      go_quiet (fail)
      go_wp2_with fail
      exact ⟨⟨k + 1, by omega, by go_num, below_drewN HB2.out nq⟩, by simp [intOf]; omega⟩
    · go_wp2_with fail
      go_ret
      exact ⟨rfl, hb⟩
set_option maxRecDepth 100000 in
set_option maxHeartbeats 8000000 in
theorem namesWalk (v : Value) (m : Nat) (w : World) (hc : CodeArg w v m) (htab : Lib.TabIs Tryd.prog w "internal/strconv.uint64pow10" .u64 Lib.pow10Tab) :
    Calls Tryd.prog 3 #[v] w fun e w' => e = .returned (.bool true) ∧ Below w.heap.size w w' := by
  have HL := Lib.hid htab; clear htab
  obtain ⟨a, cap, rfl, hm, _⟩ := id hc
  have HC := Lib.hid hc; clear hc
  by_cases hs : 1048576 < m
  · go_enter Tryd.func3, Tryd.ntmps3
    go_wp2
    go_ret
    exact ⟨rfl, Below.refl _ _⟩
  · have hs2 : m ≤ 1048576 := by omega
    go_enter Tryd.func3, Tryd.ntmps3
    go_wp2_with (go_at_call 4; go_in)
    refine (drawFresh _ m _ (HC.out.code hs2 (Below.refl _ _))).mono ?_
    rintro e w1 ⟨v1, ss, base, rfl, hl1, hsz1, hbs, ho1, hb1⟩
    have HS1 := Lib.hid hsz1; clear hsz1
    have HO1 := Lib.hid ho1; clear ho1
    have B1 := Lib.hid hb1; clear hb1
    go_wp2_with fail
    refine (implFresh _ ss base (by omega) (by omega) (fun j h => by have := HS1.out _ (List.getElem_mem h); omega) _ (Law.tab_below B1.out HL.out) HO1.out).mono ?_
    rintro e w2 ⟨q, rfl, hf2, hb2⟩
    have HF := Lib.hid hf2; clear hf2
    replace HO1 := Lib.hid (HO1.out.below hb2)
    have B2 := Lib.hid (B1.out.trans (hb2.mono B1.out.size)); clear hb2
    go_wp2_with fail
    refine (drawUnite _ m _ (HC.out.code hs2 B2.out)).mono ?_
    rintro e w3 ⟨v3, sa, v4, sb, rfl, hla, hsa, hlb, hsb, hoa, hob, hb3⟩
    have HSA := Lib.hid hsa; clear hsa
    have HSB := Lib.hid hsb; clear hsb
    have HOA := Lib.hid hoa; clear hoa
    have HOB := Lib.hid hob; clear hob
    replace HO1 := Lib.hid (HO1.out.below hb3)
    have B3 := Lib.hid (B2.out.trans (hb3.mono B2.out.size)); clear hb3
    go_wp2_with fail
    refine (implUnite _ _ sa sb (by omega) (fun j h => by have := HSA.out _ (List.getElem_mem h); omega) (fun j h => by have := HSB.out _ (List.getElem_mem h); omega) _ HOA.out HOB.out).mono ?_
    rintro e w5 ⟨v5, rfl, hu, hb5⟩
    have HU := Lib.hid hu.strs; clear hu
    replace HO1 := Lib.hid (HO1.out.below hb5)
    replace HOA := Lib.hid (HOA.out.below hb5)
    replace HOB := Lib.hid (HOB.out.below hb5)
    have B5 := Lib.hid (B3.out.trans (hb5.mono B3.out.size)); clear hb5
    go_wp2_with fail
    refine (drawWithout _ m _ (HC.out.code hs2 B5.out)).mono ?_
    rintro e w6 ⟨v6, sx, y, rfl, hlx, hsx, hy, hox, hb6⟩
    have HOX := Lib.hid hox; clear hox hsx
    replace HO1 := Lib.hid (HO1.out.below hb6)
    replace HOA := Lib.hid (HOA.out.below hb6)
    replace HOB := Lib.hid (HOB.out.below hb6)
    replace HU := Lib.hid (HU.out.below hb6)
    have B6 := Lib.hid (B5.out.trans (hb6.mono B5.out.size)); clear hb6
    go_wp2_with fail
    refine (drawIsName _ m _ (HC.out.code hs2 B6.out)).mono ?_
    rintro e w7 ⟨nm, rfl, hnm, hb7⟩
    replace HO1 := Lib.hid (HO1.out.below hb7)
    replace HOA := Lib.hid (HOA.out.below hb7)
    replace HOB := Lib.hid (HOB.out.below hb7)
    replace HU := Lib.hid (HU.out.below hb7)
    replace HOX := Lib.hid (HOX.out.below hb7)
    have B7 := Lib.hid (B6.out.trans (hb7.mono B6.out.size)); clear hb7
    clear B1 B2 B3 B5 B6
    go_wp2_with fail
    refine (specFresh _ ss base (by omega) (by omega) _ HO1.out).mono ?_
    rintro e w8 ⟨q2, rfl, hf8, hb8⟩
    obtain rfl := HF.out.unique hf8
    replace HO1 := Lib.hid (HO1.out.below hb8)
    replace HOA := Lib.hid (HOA.out.below hb8)
    replace HOB := Lib.hid (HOB.out.below hb8)
    replace HU := Lib.hid (HU.out.below hb8)
    replace HOX := Lib.hid (HOX.out.below hb8)
    have B8 := Lib.hid (B7.out.trans (hb8.mono B7.out.size)); clear hb8 B7
    have HN : Hid (idx ss (cand base q) 0 = -1) := idx_none ss 0 HF.out.2
    obtain ⟨fs, hfs⟩ : ∃ x, x = cand base q := ⟨_, rfl⟩
    rw [← hfs] at HN ⊢
    clear hfs HF hf8
    go_wp2_with fail
    refine (implIndex _ ss fs (by omega) _ HO1.out).mono ?_
    rintro e w9 ⟨rfl, hb9⟩
    rw [HN.out]
    replace HOA := Lib.hid (HOA.out.below hb9)
    replace HOB := Lib.hid (HOB.out.below hb9)
    replace HU := Lib.hid (HU.out.below hb9)
    replace HOX := Lib.hid (HOX.out.below hb9)
    have B9 := Lib.hid (B8.out.trans (hb9.mono B8.out.size)); clear hb9 B8 HO1
    go_wp2_with fail
    refine (specUnite _ _ sa sb (by omega) _ HOA.out HOB.out).mono ?_
    rintro e w10 ⟨v10, rfl, hu10, hb10⟩
    have HU10 := Lib.hid hu10.strs; clear hu10
    replace HU := Lib.hid (HU.out.below hb10)
    replace HOX := Lib.hid (HOX.out.below hb10)
    have B10 := Lib.hid (B9.out.trans (hb10.mono B9.out.size)); clear hb10 B9 HOA HOB
    have hlu : (addAll (addAll [] sa) sb).length ≤ 1048576 := by have h1 := addAll_few sb (addAll [] sa); have h2 := addAll_few sa []; simp at h2; omega
    have HND : Hid ((addAll (addAll [] sa) sb).Nodup) := addAll_nodup _ _ (addAll_nodup _ _ (by simp))
    obtain ⟨U, hU⟩ : ∃ U, U = addAll (addAll [] sa) sb := ⟨_, rfl⟩
    rw [← hU] at HU10 HU hlu HND
    clear hU
    go_wp2_with fail
    refine (sameTexts _ _ U (by omega) _ HU.out HU10.out).mono ?_
    rintro e w11 ⟨rfl, hb11⟩
    replace HU := Lib.hid (HU.out.below hb11)
    replace HOX := Lib.hid (HOX.out.below hb11)
    have B11 := Lib.hid (B10.out.trans (hb11.mono B10.out.size)); clear hb11 B10
    clear HU10
    go_wp2_with fail
    refine (implWithout _ sx y (by omega) _ HOX.out).mono ?_
    rintro e w12 ⟨v12, rfl, hu12, hb12⟩
    have HW := Lib.hid hu12.strs; clear hu12
    replace HU := Lib.hid (HU.out.below hb12)
    replace HOX := Lib.hid (HOX.out.below hb12)
    have B12 := Lib.hid (B11.out.trans (hb12.mono B11.out.size)); clear hb12 B11
    go_wp2_with fail
    refine (specWithout _ sx y (by omega) _ HOX.out).mono ?_
    rintro e w13 ⟨v13, rfl, hu13, hb13⟩
    have HW2 := Lib.hid hu13.strs; clear hu13
    replace HU := Lib.hid (HU.out.below hb13)
    replace HOX := Lib.hid (HOX.out.below hb13)
    replace HW := Lib.hid (HW.out.below hb13)
    have B13 := Lib.hid (B12.out.trans (hb13.mono B12.out.size)); clear hb13 B12
    have hlw := without_few y sx
    go_wp2_with fail
    refine (sameTexts _ _ (without sx y) (by omega) _ HW.out HW2.out).mono ?_
    rintro e w14 ⟨rfl, hb14⟩
    replace HU := Lib.hid (HU.out.below hb14)
    replace HOX := Lib.hid (HOX.out.below hb14)
    have B14 := Lib.hid (B13.out.trans (hb14.mono B13.out.size)); clear hb14 B13
    clear HW HW2
    obtain ⟨au, cu, hvu, hcu, hatu⟩ := HU.out
    subst hvu
    have HATU := Lib.hid hatu; clear hatu
    go_wp2_with fail
    go_loopw [12] (fun i wr => ∃ k : Nat, k ≤ U.length ∧ i = .int .i64 k ∧ Below w14.heap.size w14 wr) (fun i _ => U.length - (intOf i).toNat)
    case atStart => exact ⟨0, by omega, rfl, Below.refl _ _⟩
    case round =>
      obtain ⟨k, hk, rfl, hb⟩ := hrel
      have HBR := Lib.hid hb; clear hb
      by_cases hlt : k < U.length
      · obtain ⟨b, off, rfl, hbl, e0⟩ := HATU.out k hlt
        have e1 : wr.cell? ⟨b, off + k, none⟩ = some (.string U[k]) := (HBR.out.cell (p := ⟨b, off + k, none⟩) hbl).trans e0
        clear e0
        have HI : Hid (idx U U[k] 0 = (k : Int)) := by have := idx_self U k 0 hlt HND.out; rw [Nat.zero_add] at this; exact this
        obtain ⟨x, hx⟩ : ∃ x, x = U[k] := ⟨_, rfl⟩
        rw [← hx] at HI e1
        clear hx
        go_wp2_with fail
        refine (implIndex _ U x hlu _ (HU.out.below HBR.out)).mono ?_
        rintro e w15 ⟨rfl, hb15⟩
        rw [HI.out]
        have HB15 := Lib.hid (HBR.out.trans (hb15.mono HBR.out.size)); clear hb15 e1
        go_wp2_with fail
        exact ⟨⟨k + 1, by omega, by go_num, HB15.out⟩, by simp [intOf]; omega⟩
      · have BR := Lib.hid (B14.out.trans (HBR.out.mono B14.out.size))
        have HOX1 := Lib.hid (HOX.out.below HBR.out)
        clear HBR B14 HU HATU HOX
        go_wp2_with fail
        refine (implWithout _ sx y (by omega) _ HOX1.out).mono ?_
        rintro e w15 ⟨v15, rfl, hu15, hb15⟩
        have HW := Lib.hid hu15.strs; clear hu15
        have B15 := Lib.hid (BR.out.trans (hb15.mono BR.out.size)); clear hb15 BR HOX1
        go_wp2_with fail
        refine (implIndex _ (without sx y) y (by omega) _ HW.out).mono ?_
        rintro e w16 ⟨rfl, hb16⟩
        rw [idx_none (without sx y) 0 (without_mem y sx)]
        have B16 := Lib.hid (B15.out.trans (hb16.mono B15.out.size)); clear hb16 B15 HW
        have hnm2 : nm.size ≤ 9223372036854775807 := by omega
        go_wp2_with fail
        refine (implName nm _ hnm2).mono ?_
        rintro e w17 ⟨rfl, hb17⟩
        have B17 := Lib.hid (B16.out.trans (hb17.mono B16.out.size)); clear hb17 B16
        go_wp2_with fail
        refine (specName nm _ hnm2).mono ?_
        rintro e w18 ⟨rfl, hw18⟩
        subst hw18
        obtain ⟨nb, hnb⟩ : ∃ b, b = nameB nm := ⟨_, rfl⟩
        rw [← hnb]
        have hbb : (nb == nb) = true := by cases nb <;> rfl
        clear hnb
        go_wp2_with fail
        go_ret
        exact ⟨by simp, B17.out⟩
end Go.Proofs.YtafehlhmkomeiaaDoor
