/-
  Proved: the law FnExactChangesText: for every list of changes, impl.ChangesText returns the same as the reference and changes no argument; the tables hold what the program's text lays (the card ties them).
-/
import Derived.Test.YtdgfkmnnjhlpbaaDoorExactChangesTextM1
import Derived.Test.YtdgfkmnnjhlpbaaDoorSzExpr
import Derived.Deep.RegionHeld3
import Derived.Test.YtdgfkmnnjhlpbaaDoorExNum
import Derived.Test.YtdgfkmnnjhlpbaaDoorSpecMax
import Derived.Test.YtdgfkmnnjhlpbaaDoorName
import Derived.Laws.RangeAny
import Derived.Test.YtdgfkmnnjhlpbaaDoorSpecNote
import Derived.Test.YtdgfkmnnjhlpbaaDoorTyEq
import Derived.Test.YtdgfkmnnjhlpbaaDoorSpecValid
import Derived.Test.YtdgfkmnnjhlpbaaDoorToType
import Derived.Test.YtdgfkmnnjhlpbaaDoorArity
import Derived.Deep.RegionLaw
import Derived.Test.YtdgfkmnnjhlpbaaDoorTwo
import Derived.Test.YtdgfkmnnjhlpbaaDoorAtChrs
import Derived.Deep.AppendLies
import Derived.Test.YtdgfkmnnjhlpbaaDoorHold
import Derived.Test.YtdgfkmnnjhlpbaaDoorToChrs
import Derived.Test.YtdgfkmnnjhlpbaaDoorSzChrs
import Derived.Test.YtdgfkmnnjhlpbaaDoorEqChrs
import Derived.Test.YtdgfkmnnjhlpbaaDoorLaw
import Derived.OpenVars
import Derived.Test.YtdgfkmnnjhlpbaaDoorCards
import Derived.Test.YtdgfkmnnjhlpbaaDoorTie
import Derived.Deep.DeepHandedRow
import Derived.Lib.LaidTab
import Derived.LaidMore
import Derived.Test.YtdgfkmnnjhlpbaaDoorArgChrs
import Derived.ChangeVars
/-
  Proved: impl.exprText gives the text of an expression of the right form; the memory that was there stays as it was.
-/
namespace Go.Proofs.YtdgfkmnnjhlpbaaDoor
open Go.RowKit

theorem implBoolText (n : Int) (w : World) : Calls Tryd.prog 113 #[.int .i64 n] w fun e w' => e = .returned (.string (if n = 1 then ⟨#[35, 116]⟩ else ⟨#[35, 102]⟩)) ∧ w' = w := by
  by_cases h : n = 1
  · subst h
    go_enter Tryd.func113, Tryd.ntmps113
    go_wp2_with fail
    go_ret
    exact ⟨rfl, rfl⟩
  · have hb : (n == 1) = false := by simp [h]
    go_enter Tryd.func113, Tryd.ntmps113
    go_wp2_with fail
    go_ret
    exact ⟨rfl, rfl⟩
set_option maxRecDepth 100000 in
set_option maxHeartbeats 8000000 in
theorem implExText : ∀ (d : Nat) (v : Value) (t : Ex) (w : World), ExAt w d v t → t.form = true → t.bulk ≤ 1048576 → Pow10At w →
    Calls Tryd.prog 69 #[v] w fun e w' => e = .returned (.string t.text) ∧ Below w.heap.size w w'
  | 0, _, _, _, h, _, _, _ => h.elim
  | d + 1, v, .node kd nm n ty es, w, h, hform, hsz, hp => by
    have IH : Hid (∀ (v : Value) (t : Ex) (w : World), ExAt w d v t → t.form = true → t.bulk ≤ 1048576 → Pow10At w → Calls Tryd.prog 69 #[v] w fun e w' => e = .returned (.string t.text) ∧ Below w.heap.size w w') := implExText d
    obtain ⟨i0, hi, hz0, hz1, hz2⟩ := info_parts info_str
    have HI := Lib.hid hi; clear hi
    have HZ0 := Lib.hid hz0; clear hz0
    have HZ1 := Lib.hid hz1; clear hz1
    have HZ2 := Lib.hid hz2; clear hz2
    have HV := ex_parts h
    obtain ⟨c3, c4, sl, rfl, hk0, hk1, hn0, hn1, hnm, hty, a, cap, rfl, hcap, hcap2, hat⟩ := h
    obtain ⟨k', nm', n', tk, ta, tn, tc, sa, sn, sc, hv⟩ := HV
    injection hv with hv
    injection hv with hv
    simp at hv
    obtain ⟨rfl, rfl, rfl, rfl, rfl, rfl, rfl, rfl⟩ := hv
    have HAT := Lib.hid hat; clear hat
    have HTY := Lib.hid hty; clear hty
    have HFORM := Lib.hid hform
    have HPA := Lib.hid (form_parts hform)
    have HNR := Lib.hid (form_num hform)
    have HKR := Lib.hid (form_kind hform)
    clear hform
    have HP := Lib.hid hp; clear hp
    have hbk : (Ex.node kd nm n ty es).bulk = nm.size + (ty.size - 1) + Ex.bulks es := rfl
    have HSZ : Hid (Ex.bulks es ≤ 1048576) := by show _ ≤ _; omega
    have HNS : Hid (nm.size ≤ 1048576) := by show _ ≤ _; omega
    have HTZ : Hid (ty.size ≤ 1048577) := by show _ ≤ _; omega
    have hlen : es.length ≤ 1048576 := by have := Ex.length_le es; omega
    have HTL : Hid ((Ex.texts es).length = es.length) := Ex.texts_length es
    have HTOT : Hid (total (Ex.texts es) ≤ 41943040) := by show _ ≤ _; have h1 := Ex.texts_size es HPA.out.1; omega
    clear hsz hbk hnm hn0 hn1 hk0 hk1 hcap hcap2
    have b5 := box_cell (Below.refl (w.heap.size + 1) (w.alloc (.cells #[.int .i64 kd, .string nm, .int .i64 n, .int .i64 tk, .slice ta tn tc, .slice a es.length cap] 51))) 5
    go_enter Tryd.func69, Tryd.ntmps69
    go_wp2_with (at_make; refine wpList_make_full _ rfl _ _ 80 rfl (w.heap.size + 1) 9 i0 (.string ⟨#[]⟩) 1 Tryd.underlying80 HI.out HZ0.out HZ1.out .i64 .i64 _ _ es.length rfl rfl rfl rfl (by rw [HZ2.out]; omega) (by unfold maxLen; omega) (by simp) ?_; intro w0 hown0 hg0; refine Hid.out ?_)
    refine Lib.hid ?_
    have hb0 : Below (w.heap.size + 1) (w.alloc (.cells #[.int .i64 kd, .string nm, .int .i64 n, .int .i64 tk, .slice ta tn tc, .slice a es.length cap] 51)) w0 := (Below.refl _ (w.alloc (.cells #[.int .i64 kd, .string nm, .int .i64 n, .int .i64 tk, .slice ta tn tc, .slice a es.length cap] 51))).grown hg0 (by simp) (fun k hk => by cases hk)
    have hown1 : w0.ownsRow (w.heap.size + 1) 9 1 (.slice (some ⟨(w.heap.size + 1), 0, none⟩) es.length es.length) es.length (((Ex.texts es).take 0).map Value.string ++ List.replicate ((Ex.texts es).length - 0) (Value.string ⟨#[]⟩)) := by
      have : (madeCells (Value.string ⟨#[]⟩).cells (es.length * 1)).toList = List.replicate es.length (Value.string ⟨#[]⟩) := by rw [Nat.mul_one]; exact toList_madeCells_one _ _
      rw [this] at hown0; rw [HTL.out]; simpa using hown0
    have HO := Lib.hid hown1; clear hown1 hown0 hg0
    have HB := Lib.hid hb0; clear hb0 b5
    have b5 := box_cell HB.out 5
    go_wp2_with fail
    go_loopw [13] (fun i wr => ∃ k : Nat, k ≤ es.length ∧ i = .int .i64 k ∧ wr.ownsRow (w.heap.size + 1) 9 1 (.slice (some ⟨(w.heap.size + 1), 0, none⟩) es.length es.length) es.length (((Ex.texts es).take k).map Value.string ++ List.replicate ((Ex.texts es).length - k) (Value.string ⟨#[]⟩)) ∧ Below (w.heap.size + 1) (w.alloc (.cells #[.int .i64 kd, .string nm, .int .i64 n, .int .i64 tk, .slice ta tn tc, .slice a es.length cap] 51)) wr) (fun i _ => es.length - (intOf i).toNat)
    case atStart => exact ⟨0, by omega, rfl, HO.out, HB.out⟩
    case round =>
      obtain ⟨k, hk, rfl, hown, hb⟩ := hrel
      clear b5
      have HO2 := Lib.hid hown; clear hown
      have HB2 := Lib.hid hb; clear hb
      have b5 := box_cell HB2.out 5
      have HBB := Lib.hid (box_below HB2.out)
      by_cases hlt : k < es.length
      · obtain ⟨b, off, x0, x1, x2, x3, x4, x5, rfl, hbl, hc0, hc1, hc2, hc3, hc4, hc5, ht⟩ := HAT.out k hlt
        have hg := Ex.bulk_get es k hlt
        have hzk : es[k].bulk ≤ 1048576 := by have := HSZ.out; omega
        have hfk := Ex.forms_get es k hlt HPA.out.1
        obtain ⟨yk, ynm, yn, ytk, yta, ytn, ytc, ya, ym, yc, rfl, rfl, rfl, rfl, rfl, rfl⟩ := ex_cells ht
        have e0 : wr.cell? ⟨b, off + k * 6, none⟩ = some (.int .i64 yk) := by rw [HBB.out.cell (p := ⟨b, off + k * 6, none⟩) hbl]; exact hc0
        have e1 : wr.cell? ⟨b, off + k * 6 + 1, none⟩ = some (.string ynm) := by rw [HBB.out.cell (p := ⟨b, off + k * 6 + 1, none⟩) hbl]; exact hc1
        have e2 : wr.cell? ⟨b, off + k * 6 + 2, none⟩ = some (.int .i64 yn) := by rw [HBB.out.cell (p := ⟨b, off + k * 6 + 2, none⟩) hbl]; exact hc2
        have e3 : wr.cell? ⟨b, off + k * 6 + 3, none⟩ = some (.int .i64 ytk) := by rw [HBB.out.cell (p := ⟨b, off + k * 6 + 3, none⟩) hbl]; exact hc3
        have e4 : wr.cell? ⟨b, off + k * 6 + 4, none⟩ = some (.slice yta ytn ytc) := by rw [HBB.out.cell (p := ⟨b, off + k * 6 + 4, none⟩) hbl]; exact hc4
        have e5 : wr.cell? ⟨b, off + k * 6 + 5, none⟩ = some (.slice ya ym yc) := by rw [HBB.out.cell (p := ⟨b, off + k * 6 + 5, none⟩) hbl]; exact hc5
        have HTE := Lib.hid (ht.below HBB.out)
        have HFK := Lib.hid hfk
        clear ht hc0 hc1 hc2 hc3 hc4 hc5 hg hfk
        have hp1 := below_box wr (.cells #[.int .i64 yk, .string ynm, .int .i64 yn, .int .i64 ytk, .slice yta ytn ytc, .slice ya ym yc] 51)
        have HTE2 := Lib.hid (HTE.out.below hp1)
        have HB3 := Lib.hid (box_next HB2.out hp1)
        have HO3 := Lib.hid (own_below HO2.out hp1)
        have HP3 := Lib.hid (HP.out.below (below_thru HBB.out (Nat.le_refl _) hp1))
        clear hp1
        go_wp2_with fail
        refine (IH.out _ _ _ HTE2.out HFK.out hzk HP3.out).mono ?_
        rintro e w1 ⟨rfl, hb1⟩
        have HO4 := Lib.hid (own_below HO3.out hb1)
        have HB4 := Lib.hid (box_next HB3.out hb1)
        clear hb1 HO2 HO3
        have hlt2 : k < (Ex.texts es).length := by rw [HTL.out]; exact hlt
        have c1 : ∃ u, w1.cell? ⟨(w.heap.size + 1), k, none⟩ = some u := by
          rw [HO4.out.cellAt k (by omega)]
          exact ⟨_, List.getElem?_eq_getElem (by simp; omega)⟩
        obtain ⟨u, c1⟩ := c1
        have f1 := HO4.out.frozenAt k
        have hst := HO4.out.stored k (.string (Ex.texts es)[k])
        rw [num_next (Ex.texts es) k hlt2] at hst
        have HS := Lib.hid hst; clear hst
        have HE : Hid ((Ex.texts es)[k] = es[k].text) := Ex.texts_get es k hlt hlt2
        rw [HE.out] at HS
        clear e0 e1 e2 e3 e4 e5
        go_wp2_with fail
        exact ⟨⟨k + 1, by omega, by go_num, HS.out.1, HB4.out.setCell (Nat.le_refl _) _⟩, by simp [intOf]; omega⟩
      · obtain rfl : k = es.length := by omega
        have HL := HO2.out
        rw [← HTL.out, List.take_length, Nat.sub_self, List.replicate_zero, List.append_nil] at HL
        rw [HTL.out] at HL
        have HL2 : Hid (wr.ownsRow (w.heap.size + 1) 9 1 (.slice (some ⟨(w.heap.size + 1), 0, none⟩) es.length es.length) (Ex.texts es).length ((Ex.texts es).map Value.string)) := by rw [HTL.out]; exact HL
        clear HL HO2
        have HST := Lib.hid (Strs.of_own HL2.out)
        have HAR := Lib.hid (ArgsAt.of_own HL2.out)
        obtain ⟨p, hp⟩ : ∃ p, p = (w.heap.size + 1) := ⟨_, rfl⟩
        obtain ⟨q, hq⟩ : ∃ q, q = es.length := ⟨_, rfl⟩
        have HTM : Hid (Ex.text (.node kd nm n ty es) = exSay kd nm (numB n) ty.text n (Ex.texts es)) := by show _ = _; simp only [Ex.text]
        have HAL := HPA.out.2.1
        have HTF := HPA.out.2.2
        have hkr := HKR.out
        rcases (by omega : kd = 1 ∨ kd = 2 ∨ kd = 3 ∨ kd = 4 ∨ kd = 5 ∨ kd = 6 ∨ kd = 7 ∨ kd = 8 ∨ kd = 9 ∨ kd = 10 ∨ kd = 11 ∨ kd = 12 ∨ kd = 13 ∨ kd = 14) with rfl | rfl | rfl | rfl | rfl | rfl | rfl | rfl | rfl | rfl | rfl | rfl | rfl | rfl
        · have hq : es.length = 0 := by have : arity 1 = 0 := rfl; omega
          have HXL : Hid ((Ex.texts es).length = 0) := by show _ = _; rw [HTL.out]; exact hq
          clear b5 HAL hkr
          have b0 := box_cell HB2.out 0
          have b1 := box_cell HB2.out 1
          have b2 := box_cell HB2.out 2
          have b3 := box_cell HB2.out 3
          have b4 := box_cell HB2.out 4
          have b5 := box_cell HB2.out 5
          clear HTF
          have hnr := HNR.out
          have hnz := numB_size n (by omega) (by omega)
          have hns := HNS.out
          have HBF := Lib.hid HBB.out
          go_wp2_with fail
          refine (implFormat n (by omega) (by omega) _ (HP.out.below HBB.out)).mono ?_
          rintro e w1 ⟨rfl, hb1⟩
          replace HBF := Lib.hid (below_thru HBF.out (Nat.le_refl _) hb1)
          clear hb1
          have m1 : ¬ (9223372036854775807 < 1 + (ByteArray.mk (Lib.itoa n).toArray).size) := by have : (ByteArray.mk (Lib.itoa n).toArray).size ≤ 21 := hnz; omega
          clear hq
          go_wp2_with fail
          go_ret
          exact ⟨by rw [HTM.out]; rfl, HBF.out⟩
        · have hq : es.length = 0 := by have : arity 2 = 0 := rfl; omega
          have HXL : Hid ((Ex.texts es).length = 0) := by show _ = _; rw [HTL.out]; exact hq
          clear b5 HAL hkr
          have b0 := box_cell HB2.out 0
          have b1 := box_cell HB2.out 1
          have b2 := box_cell HB2.out 2
          have b3 := box_cell HB2.out 3
          have b4 := box_cell HB2.out 4
          have b5 := box_cell HB2.out 5
          clear HTF
          have hnr := HNR.out
          have hnz := numB_size n (by omega) (by omega)
          have hns := HNS.out
          have HBF := Lib.hid HBB.out
          clear hq
          go_wp2_with fail
          go_ret
          exact ⟨by rw [HTM.out]; rfl, HBF.out⟩
        · have hq : es.length = 1 := by have : arity 3 = 1 := rfl; omega
          have HXL : Hid ((Ex.texts es).length = 1) := by show _ = _; rw [HTL.out]; exact hq
          have HX := Lib.hid (xone_of HXL.out)
          clear b5 HAL hkr
          have b0 := box_cell HB2.out 0
          have b1 := box_cell HB2.out 1
          have b2 := box_cell HB2.out 2
          have b3 := box_cell HB2.out 3
          have b4 := box_cell HB2.out 4
          have b5 := box_cell HB2.out 5
          have HNF := Lib.hid (note_form (by simpa [typeFor] using HTF : ty.note = true))
          have HTS := ty.text_size
          have htz := HTZ.out
          clear HTF
          have hnr := HNR.out
          have hnz := numB_size n (by omega) (by omega)
          have hns := HNS.out
          have HBF := Lib.hid HBB.out
          have HT2 := Lib.hid (text_one 3 nm n ty es HXL.out)
          clear HX
          have htt := HTOT.out
          have hp0 : 0 < (Ex.texts es).length := by rw [HXL.out]; omega
          have s0 := total_get (Ex.texts es) 0 hp0
          have C0 := Lib.hid (show CellAt wr (w.heap.size + 1) 0 (.string (Ex.texts es)[0]) from ⟨HAR.out.1, HAR.out.2 0 hp0⟩)
          have hl0 : 0 < es.length := by omega
          generalize (Ex.texts es)[0]'hp0 = x0 at HT2 s0 C0
          clear hq
          have CF : ∀ (X0 : World) (v : Value) (_ : TyAt X0 d v ty), Calls Tryd.prog 61 #[v] X0 fun e w' => e = .returned (.string ty.text) ∧ Below X0.heap.size X0 w' := fun X0 v h => by have := implFormatType d v ty X0 h HTZ.out; rw [format_good HNF.out.2] at this; exact this
          have HCF := Lib.hid CF; clear CF
          generalize ty.text = ts at HCF HT2 HTS
          have m0 : ¬ (9223372036854775807 < 2 + nm.size) := by omega
          have m1 : ¬ (9223372036854775807 < 2 + nm.size + 1) := by omega
          have m2 : ¬ (9223372036854775807 < 2 + nm.size + 1 + ts.size) := by omega
          have m3 : ¬ (9223372036854775807 < 2 + nm.size + 1 + ts.size + 1) := by omega
          have m4 : ¬ (9223372036854775807 < 2 + nm.size + 1 + ts.size + 1 + x0.size) := by omega
          have m5 : ¬ (9223372036854775807 < 2 + nm.size + 1 + ts.size + 1 + x0.size + 1) := by omega
          clear hnr hnz hns HTS htz htt s0
          go_wp2_with fail
          have hbd := below_drew wr
          replace HBF := Lib.hid (below_thru HBF.out (Nat.le_refl _) hbd)
          have XR := Lib.hid ((box_of HB2.out).below hbd)
          have HTR := Lib.hid ((HTY.out.below HBB.out).below hbd)
          have HPR := Lib.hid ((HP.out.below HBB.out).below hbd)
          replace C0 := Lib.hid (C0.out.below hbd)
          clear hbd b0 b1 b2 b3 b4 b5
          go_region_held3 (fun w' => w'.cell? ⟨w.heap.size, 1, none⟩ = some (.string nm) ∧ w'.cell? ⟨w.heap.size, 3, none⟩ = some (.int .i64 tk) ∧ w'.cell? ⟨w.heap.size, 4, none⟩ = some (.slice ta tn tc) ∧ w'.cell? ⟨(w.heap.size + 1), 0, none⟩ = some (.string x0)) (exact ⟨XR.out.2 1, XR.out.2 3, XR.out.2 4, C0.out.2⟩)
            (first
             | (go_at_call 61
                refine (HCF.out _ _ HTR.out).mono ?_
                rintro e w5 ⟨rfl, hb⟩
                replace HBF := Lib.hid (below_thru HBF.out (Nat.le_refl _) hb)
                replace XR := Lib.hid (XR.out.below hb)
                replace C0 := Lib.hid (C0.out.below hb)
                clear hb))
          go_wp2_with fail
          go_ret
          exact ⟨by rw [HT2.out]; rfl, HBF.out⟩
        · have hq : es.length = 2 := by have : arity 4 = 2 := rfl; omega
          have HXL : Hid ((Ex.texts es).length = 2) := by show _ = _; rw [HTL.out]; exact hq
          have HX := Lib.hid (xtwo_of HXL.out)
          clear b5 HAL hkr
          have b0 := box_cell HB2.out 0
          have b1 := box_cell HB2.out 1
          have b2 := box_cell HB2.out 2
          have b3 := box_cell HB2.out 3
          have b4 := box_cell HB2.out 4
          have b5 := box_cell HB2.out 5
          clear HTF
          have hnr := HNR.out
          have hnz := numB_size n (by omega) (by omega)
          have hns := HNS.out
          have HBF := Lib.hid HBB.out
          have HT2 := Lib.hid (text_two 4 nm n ty es HXL.out)
          clear HX
          have htt := HTOT.out
          have hp0 : 0 < (Ex.texts es).length := by rw [HXL.out]; omega
          have s0 := total_get (Ex.texts es) 0 hp0
          have hp1 : 1 < (Ex.texts es).length := by rw [HXL.out]; omega
          have s1 := total_get (Ex.texts es) 1 hp1
          have CJ : Calls Tryd.prog 63 #[.slice (some ⟨(w.heap.size + 1), 0, none⟩) es.length es.length, .string ⟨#[32]⟩] wr fun e w' => e = .returned (.string ((Ex.texts es)[0]'hp0 ++ ⟨#[32]⟩ ++ (Ex.texts es)[1]'hp1)) ∧ Below wr.heap.size wr w' := by
            have h := implJoin _ (Ex.texts es) ⟨#[32]⟩ (by rw [HXL.out]; omega) (by omega) (by decide) wr HST.out
            unfold JoinEnd at h
            rw [join_two HXL.out] at h
            exact h
          have HCJ := Lib.hid CJ; clear CJ
          generalize (Ex.texts es)[0]'hp0 = x0 at HT2 s0 HCJ
          generalize (Ex.texts es)[1]'hp1 = x1 at HT2 s1 HCJ
          have HT3 : Hid ((Ex.node 4 nm n ty es).text = ⟨#[40]⟩ ++ (x0 ++ ⟨#[32]⟩ ++ x1) ++ ⟨#[41]⟩) := by
            show _ = _
            rw [HT2.out]
            exact two_group
          have hjs : (x0 ++ ⟨#[32]⟩ ++ x1).size ≤ 200000000 := by simp only [ByteArray.size_append, sizes_one]; omega
          generalize x0 ++ ⟨#[32]⟩ ++ x1 = J at HT3 HCJ hjs
          have m0 : ¬ (9223372036854775807 < 1 + J.size) := by omega
          have m1 : ¬ (9223372036854775807 < 1 + J.size + 1) := by omega
          clear hnr hnz hns htt hjs hq s0 hp0 s1 hp1
          go_wp2_with fail
          refine HCJ.out.mono ?_
          rintro e w5 ⟨rfl, hb⟩
          replace HBF := Lib.hid (below_thru HBF.out (Nat.le_refl _) hb)
          clear hb
          go_wp2_with fail
          go_ret
          exact ⟨by rw [HT3.out]; rfl, HBF.out⟩
        · have hq : es.length = 0 := by have : arity 5 = 0 := rfl; omega
          have HXL : Hid ((Ex.texts es).length = 0) := by show _ = _; rw [HTL.out]; exact hq
          clear b5 HAL hkr
          have b0 := box_cell HB2.out 0
          have b1 := box_cell HB2.out 1
          have b2 := box_cell HB2.out 2
          have b3 := box_cell HB2.out 3
          have b4 := box_cell HB2.out 4
          have b5 := box_cell HB2.out 5
          clear HTF
          have hnr := HNR.out
          have hnz := numB_size n (by omega) (by omega)
          have hns := HNS.out
          have HBF := Lib.hid HBB.out
          go_wp2_with fail
          refine (implFormat n (by omega) (by omega) _ (HP.out.below HBB.out)).mono ?_
          rintro e w1 ⟨rfl, hb1⟩
          replace HBF := Lib.hid (below_thru HBF.out (Nat.le_refl _) hb1)
          clear hb1
          clear hq
          go_wp2_with fail
          go_ret
          exact ⟨by rw [HTM.out]; rfl, HBF.out⟩
        · have hq : es.length = 2 := by have : arity 6 = 2 := rfl; omega
          have HXL : Hid ((Ex.texts es).length = 2) := by show _ = _; rw [HTL.out]; exact hq
          have HX := Lib.hid (xtwo_of HXL.out)
          clear b5 HAL hkr
          have b0 := box_cell HB2.out 0
          have b1 := box_cell HB2.out 1
          have b2 := box_cell HB2.out 2
          have b3 := box_cell HB2.out 3
          have b4 := box_cell HB2.out 4
          have b5 := box_cell HB2.out 5
          clear HTF
          have hnr := HNR.out
          have hnz := numB_size n (by omega) (by omega)
          have hns := HNS.out
          have HBF := Lib.hid HBB.out
          have HT2 := Lib.hid (text_two 6 nm n ty es HXL.out)
          clear HX
          have htt := HTOT.out
          have hp0 : 0 < (Ex.texts es).length := by rw [HXL.out]; omega
          have s0 := total_get (Ex.texts es) 0 hp0
          have hp1 : 1 < (Ex.texts es).length := by rw [HXL.out]; omega
          have s1 := total_get (Ex.texts es) 1 hp1
          have CJ : Calls Tryd.prog 63 #[.slice (some ⟨(w.heap.size + 1), 0, none⟩) es.length es.length, .string ⟨#[43]⟩] wr fun e w' => e = .returned (.string ((Ex.texts es)[0]'hp0 ++ ⟨#[43]⟩ ++ (Ex.texts es)[1]'hp1)) ∧ Below wr.heap.size wr w' := by
            have h := implJoin _ (Ex.texts es) ⟨#[43]⟩ (by rw [HXL.out]; omega) (by omega) (by decide) wr HST.out
            unfold JoinEnd at h
            rw [join_two HXL.out] at h
            exact h
          have HCJ := Lib.hid CJ; clear CJ
          generalize (Ex.texts es)[0]'hp0 = x0 at HT2 s0 HCJ
          generalize (Ex.texts es)[1]'hp1 = x1 at HT2 s1 HCJ
          have HT3 : Hid ((Ex.node 6 nm n ty es).text = ⟨#[40]⟩ ++ (x0 ++ ⟨#[43]⟩ ++ x1) ++ ⟨#[41]⟩) := by
            show _ = _
            rw [HT2.out]
            exact two_group
          have hjs : (x0 ++ ⟨#[43]⟩ ++ x1).size ≤ 200000000 := by simp only [ByteArray.size_append, sizes_one]; omega
          generalize x0 ++ ⟨#[43]⟩ ++ x1 = J at HT3 HCJ hjs
          have m0 : ¬ (9223372036854775807 < 1 + J.size) := by omega
          have m1 : ¬ (9223372036854775807 < 1 + J.size + 1) := by omega
          clear hnr hnz hns htt hjs hq s0 hp0 s1 hp1
          go_wp2_with fail
          refine HCJ.out.mono ?_
          rintro e w5 ⟨rfl, hb⟩
          replace HBF := Lib.hid (below_thru HBF.out (Nat.le_refl _) hb)
          clear hb
          go_wp2_with fail
          go_ret
          exact ⟨by rw [HT3.out]; rfl, HBF.out⟩
        · have hq : es.length = 2 := by have : arity 7 = 2 := rfl; omega
          have HXL : Hid ((Ex.texts es).length = 2) := by show _ = _; rw [HTL.out]; exact hq
          have HX := Lib.hid (xtwo_of HXL.out)
          clear b5 HAL hkr
          have b0 := box_cell HB2.out 0
          have b1 := box_cell HB2.out 1
          have b2 := box_cell HB2.out 2
          have b3 := box_cell HB2.out 3
          have b4 := box_cell HB2.out 4
          have b5 := box_cell HB2.out 5
          clear HTF
          have hnr := HNR.out
          have hnz := numB_size n (by omega) (by omega)
          have hns := HNS.out
          have HBF := Lib.hid HBB.out
          have HT2 := Lib.hid (text_two 7 nm n ty es HXL.out)
          clear HX
          have htt := HTOT.out
          have hp0 : 0 < (Ex.texts es).length := by rw [HXL.out]; omega
          have s0 := total_get (Ex.texts es) 0 hp0
          have hp1 : 1 < (Ex.texts es).length := by rw [HXL.out]; omega
          have s1 := total_get (Ex.texts es) 1 hp1
          have CJ : Calls Tryd.prog 63 #[.slice (some ⟨(w.heap.size + 1), 0, none⟩) es.length es.length, .string ⟨#[60]⟩] wr fun e w' => e = .returned (.string ((Ex.texts es)[0]'hp0 ++ ⟨#[60]⟩ ++ (Ex.texts es)[1]'hp1)) ∧ Below wr.heap.size wr w' := by
            have h := implJoin _ (Ex.texts es) ⟨#[60]⟩ (by rw [HXL.out]; omega) (by omega) (by decide) wr HST.out
            unfold JoinEnd at h
            rw [join_two HXL.out] at h
            exact h
          have HCJ := Lib.hid CJ; clear CJ
          generalize (Ex.texts es)[0]'hp0 = x0 at HT2 s0 HCJ
          generalize (Ex.texts es)[1]'hp1 = x1 at HT2 s1 HCJ
          have HT3 : Hid ((Ex.node 7 nm n ty es).text = ⟨#[40]⟩ ++ (x0 ++ ⟨#[60]⟩ ++ x1) ++ ⟨#[41]⟩) := by
            show _ = _
            rw [HT2.out]
            exact two_group
          have hjs : (x0 ++ ⟨#[60]⟩ ++ x1).size ≤ 200000000 := by simp only [ByteArray.size_append, sizes_one]; omega
          generalize x0 ++ ⟨#[60]⟩ ++ x1 = J at HT3 HCJ hjs
          have m0 : ¬ (9223372036854775807 < 1 + J.size) := by omega
          have m1 : ¬ (9223372036854775807 < 1 + J.size + 1) := by omega
          clear hnr hnz hns htt hjs hq s0 hp0 s1 hp1
          go_wp2_with fail
          refine HCJ.out.mono ?_
          rintro e w5 ⟨rfl, hb⟩
          replace HBF := Lib.hid (below_thru HBF.out (Nat.le_refl _) hb)
          clear hb
          go_wp2_with fail
          go_ret
          exact ⟨by rw [HT3.out]; rfl, HBF.out⟩
        · have hq : es.length = 0 := by have : arity 8 = 0 := rfl; omega
          have HXL : Hid ((Ex.texts es).length = 0) := by show _ = _; rw [HTL.out]; exact hq
          clear b5 HAL hkr
          have b0 := box_cell HB2.out 0
          have b1 := box_cell HB2.out 1
          have b2 := box_cell HB2.out 2
          have b3 := box_cell HB2.out 3
          have b4 := box_cell HB2.out 4
          have b5 := box_cell HB2.out 5
          clear HTF
          have hnr := HNR.out
          have hnz := numB_size n (by omega) (by omega)
          have hns := HNS.out
          have HBF := Lib.hid HBB.out
          clear hq
          rcases form_bool HFORM.out with rfl | rfl
          · go_wp2_with fail
            refine (implBoolText _ _).mono ?_
            rintro e w1 ⟨rfl, hw1⟩
            subst hw1
            go_wp2_with fail
            go_ret
            exact ⟨by rw [HTM.out]; rfl, HBF.out⟩
          · go_wp2_with fail
            refine (implBoolText _ _).mono ?_
            rintro e w1 ⟨rfl, hw1⟩
            subst hw1
            go_wp2_with fail
            go_ret
            exact ⟨by rw [HTM.out]; rfl, HBF.out⟩
        · have hq : es.length = 3 := by have : arity 9 = 3 := rfl; omega
          have HXL : Hid ((Ex.texts es).length = 3) := by show _ = _; rw [HTL.out]; exact hq
          have HX := Lib.hid (xthree_of HXL.out)
          clear b5 HAL hkr
          have b0 := box_cell HB2.out 0
          have b1 := box_cell HB2.out 1
          have b2 := box_cell HB2.out 2
          have b3 := box_cell HB2.out 3
          have b4 := box_cell HB2.out 4
          have b5 := box_cell HB2.out 5
          clear HTF
          have hnr := HNR.out
          have hnz := numB_size n (by omega) (by omega)
          have hns := HNS.out
          have HBF := Lib.hid HBB.out
          have HT2 := Lib.hid (text_three 9 nm n ty es HXL.out)
          clear HX
          have htt := HTOT.out
          have hp0 : 0 < (Ex.texts es).length := by rw [HXL.out]; omega
          have s0 := total_get (Ex.texts es) 0 hp0
          have hp1 : 1 < (Ex.texts es).length := by rw [HXL.out]; omega
          have s1 := total_get (Ex.texts es) 1 hp1
          have hp2 : 2 < (Ex.texts es).length := by rw [HXL.out]; omega
          have s2 := total_get (Ex.texts es) 2 hp2
          have CJ : Calls Tryd.prog 63 #[.slice (some ⟨(w.heap.size + 1), 0, none⟩) es.length es.length, .string ⟨#[32]⟩] wr fun e w' => e = .returned (.string ((Ex.texts es)[0]'hp0 ++ ⟨#[32]⟩ ++ (Ex.texts es)[1]'hp1 ++ ⟨#[32]⟩ ++ (Ex.texts es)[2]'hp2)) ∧ Below wr.heap.size wr w' := by
            have h := implJoin _ (Ex.texts es) ⟨#[32]⟩ (by rw [HXL.out]; omega) (by omega) (by decide) wr HST.out
            unfold JoinEnd at h
            rw [join_three HXL.out] at h
            exact h
          have HCJ := Lib.hid CJ; clear CJ
          generalize (Ex.texts es)[0]'hp0 = x0 at HT2 s0 HCJ
          generalize (Ex.texts es)[1]'hp1 = x1 at HT2 s1 HCJ
          generalize (Ex.texts es)[2]'hp2 = x2 at HT2 s2 HCJ
          have HT3 : Hid ((Ex.node 9 nm n ty es).text = ⟨#[40, 105, 102, 32]⟩ ++ (x0 ++ ⟨#[32]⟩ ++ x1 ++ ⟨#[32]⟩ ++ x2) ++ ⟨#[41]⟩) := by
            show _ = _
            rw [HT2.out]
            rfl
          have hjs : (x0 ++ ⟨#[32]⟩ ++ x1 ++ ⟨#[32]⟩ ++ x2).size ≤ 200000000 := by simp only [ByteArray.size_append, sizes_one]; omega
          generalize x0 ++ ⟨#[32]⟩ ++ x1 ++ ⟨#[32]⟩ ++ x2 = J at HT3 HCJ hjs
          have m0 : ¬ (9223372036854775807 < 4 + J.size) := by omega
          have m1 : ¬ (9223372036854775807 < 4 + J.size + 1) := by omega
          clear hnr hnz hns htt hjs hq s0 hp0 s1 hp1 s2 hp2
          go_wp2_with fail
          refine HCJ.out.mono ?_
          rintro e w5 ⟨rfl, hb⟩
          replace HBF := Lib.hid (below_thru HBF.out (Nat.le_refl _) hb)
          clear hb
          go_wp2_with fail
          go_ret
          exact ⟨by rw [HT3.out]; rfl, HBF.out⟩
        · have hq : es.length = 2 := by have : arity 10 = 2 := rfl; omega
          have HXL : Hid ((Ex.texts es).length = 2) := by show _ = _; rw [HTL.out]; exact hq
          have HX := Lib.hid (xtwo_of HXL.out)
          clear b5 HAL hkr
          have b0 := box_cell HB2.out 0
          have b1 := box_cell HB2.out 1
          have b2 := box_cell HB2.out 2
          have b3 := box_cell HB2.out 3
          have b4 := box_cell HB2.out 4
          have b5 := box_cell HB2.out 5
          clear HTF
          have hnr := HNR.out
          have hnz := numB_size n (by omega) (by omega)
          have hns := HNS.out
          have HBF := Lib.hid HBB.out
          have HT2 := Lib.hid (text_two 10 nm n ty es HXL.out)
          clear HX
          have htt := HTOT.out
          have hp0 : 0 < (Ex.texts es).length := by rw [HXL.out]; omega
          have s0 := total_get (Ex.texts es) 0 hp0
          have hp1 : 1 < (Ex.texts es).length := by rw [HXL.out]; omega
          have s1 := total_get (Ex.texts es) 1 hp1
          have CJ : Calls Tryd.prog 63 #[.slice (some ⟨(w.heap.size + 1), 0, none⟩) es.length es.length, .string ⟨#[44]⟩] wr fun e w' => e = .returned (.string ((Ex.texts es)[0]'hp0 ++ ⟨#[44]⟩ ++ (Ex.texts es)[1]'hp1)) ∧ Below wr.heap.size wr w' := by
            have h := implJoin _ (Ex.texts es) ⟨#[44]⟩ (by rw [HXL.out]; omega) (by omega) (by decide) wr HST.out
            unfold JoinEnd at h
            rw [join_two HXL.out] at h
            exact h
          have HCJ := Lib.hid CJ; clear CJ
          generalize (Ex.texts es)[0]'hp0 = x0 at HT2 s0 HCJ
          generalize (Ex.texts es)[1]'hp1 = x1 at HT2 s1 HCJ
          have HT3 : Hid ((Ex.node 10 nm n ty es).text = ⟨#[40]⟩ ++ (x0 ++ ⟨#[44]⟩ ++ x1) ++ ⟨#[41]⟩) := by
            show _ = _
            rw [HT2.out]
            exact two_group
          have hjs : (x0 ++ ⟨#[44]⟩ ++ x1).size ≤ 200000000 := by simp only [ByteArray.size_append, sizes_one]; omega
          generalize x0 ++ ⟨#[44]⟩ ++ x1 = J at HT3 HCJ hjs
          have m0 : ¬ (9223372036854775807 < 1 + J.size) := by omega
          have m1 : ¬ (9223372036854775807 < 1 + J.size + 1) := by omega
          clear hnr hnz hns htt hjs hq s0 hp0 s1 hp1
          go_wp2_with fail
          refine HCJ.out.mono ?_
          rintro e w5 ⟨rfl, hb⟩
          replace HBF := Lib.hid (below_thru HBF.out (Nat.le_refl _) hb)
          clear hb
          go_wp2_with fail
          go_ret
          exact ⟨by rw [HT3.out]; rfl, HBF.out⟩
        · have hq : es.length = 1 := by have : arity 11 = 1 := rfl; omega
          have HXL : Hid ((Ex.texts es).length = 1) := by show _ = _; rw [HTL.out]; exact hq
          have HX := Lib.hid (xone_of HXL.out)
          clear b5 HAL hkr
          have b0 := box_cell HB2.out 0
          have b1 := box_cell HB2.out 1
          have b2 := box_cell HB2.out 2
          have b3 := box_cell HB2.out 3
          have b4 := box_cell HB2.out 4
          have b5 := box_cell HB2.out 5
          clear HTF
          have hnr := HNR.out
          have hnz := numB_size n (by omega) (by omega)
          have hns := HNS.out
          have HBF := Lib.hid HBB.out
          have HT2 := Lib.hid (text_one 11 nm n ty es HXL.out)
          clear HX
          have htt := HTOT.out
          have hp0 : 0 < (Ex.texts es).length := by rw [HXL.out]; omega
          have s0 := total_get (Ex.texts es) 0 hp0
          have C0 := Lib.hid (show CellAt wr (w.heap.size + 1) 0 (.string (Ex.texts es)[0]) from ⟨HAR.out.1, HAR.out.2 0 hp0⟩)
          have hl0 : 0 < es.length := by omega
          generalize (Ex.texts es)[0]'hp0 = x0 at HT2 s0 C0
          clear hq
          have c0 := C0.out.2
          have m0 : ¬ (9223372036854775807 < 5 + x0.size) := by omega
          have m1 : ¬ (9223372036854775807 < 5 + x0.size + 1) := by omega
          go_wp2_with fail
          go_ret
          exact ⟨by rw [HT2.out]; rfl, HBF.out⟩
        · have hq : es.length = 1 := by have : arity 12 = 1 := rfl; omega
          have HXL : Hid ((Ex.texts es).length = 1) := by show _ = _; rw [HTL.out]; exact hq
          have HX := Lib.hid (xone_of HXL.out)
          clear b5 HAL hkr
          have b0 := box_cell HB2.out 0
          have b1 := box_cell HB2.out 1
          have b2 := box_cell HB2.out 2
          have b3 := box_cell HB2.out 3
          have b4 := box_cell HB2.out 4
          have b5 := box_cell HB2.out 5
          clear HTF
          have hnr := HNR.out
          have hnz := numB_size n (by omega) (by omega)
          have hns := HNS.out
          have HBF := Lib.hid HBB.out
          have HT2 := Lib.hid (text_one 12 nm n ty es HXL.out)
          clear HX
          have htt := HTOT.out
          have hp0 : 0 < (Ex.texts es).length := by rw [HXL.out]; omega
          have s0 := total_get (Ex.texts es) 0 hp0
          have C0 := Lib.hid (show CellAt wr (w.heap.size + 1) 0 (.string (Ex.texts es)[0]) from ⟨HAR.out.1, HAR.out.2 0 hp0⟩)
          have hl0 : 0 < es.length := by omega
          generalize (Ex.texts es)[0]'hp0 = x0 at HT2 s0 C0
          clear hq
          have c0 := C0.out.2
          have m0 : ¬ (9223372036854775807 < 5 + x0.size) := by omega
          have m1 : ¬ (9223372036854775807 < 5 + x0.size + 1) := by omega
          go_wp2_with fail
          go_ret
          exact ⟨by rw [HT2.out]; rfl, HBF.out⟩
        · have hq : es.length = 1 := by have : arity 13 = 1 := rfl; omega
          have HXL : Hid ((Ex.texts es).length = 1) := by show _ = _; rw [HTL.out]; exact hq
          have HX := Lib.hid (xone_of HXL.out)
          clear b5 HAL hkr
          have b0 := box_cell HB2.out 0
          have b1 := box_cell HB2.out 1
          have b2 := box_cell HB2.out 2
          have b3 := box_cell HB2.out 3
          have b4 := box_cell HB2.out 4
          have b5 := box_cell HB2.out 5
          have HNF := Lib.hid (note_form (by simpa [typeFor] using HTF : ty.note = true))
          have HTS := ty.text_size
          have htz := HTZ.out
          clear HTF
          have hnr := HNR.out
          have hnz := numB_size n (by omega) (by omega)
          have hns := HNS.out
          have HBF := Lib.hid HBB.out
          have HT2 := Lib.hid (text_one 13 nm n ty es HXL.out)
          clear HX
          have htt := HTOT.out
          have hp0 : 0 < (Ex.texts es).length := by rw [HXL.out]; omega
          have s0 := total_get (Ex.texts es) 0 hp0
          have C0 := Lib.hid (show CellAt wr (w.heap.size + 1) 0 (.string (Ex.texts es)[0]) from ⟨HAR.out.1, HAR.out.2 0 hp0⟩)
          have hl0 : 0 < es.length := by omega
          generalize (Ex.texts es)[0]'hp0 = x0 at HT2 s0 C0
          clear hq
          have CF : ∀ (X0 : World) (v : Value) (_ : TyAt X0 d v ty), Calls Tryd.prog 61 #[v] X0 fun e w' => e = .returned (.string ty.text) ∧ Below X0.heap.size X0 w' := fun X0 v h => by have := implFormatType d v ty X0 h HTZ.out; rw [format_good HNF.out.2] at this; exact this
          have HCF := Lib.hid CF; clear CF
          generalize ty.text = ts at HCF HT2 HTS
          have m0 : ¬ (9223372036854775807 < 1 + x0.size) := by omega
          have m1 : ¬ (9223372036854775807 < 1 + x0.size + 1) := by omega
          have m2 : ¬ (9223372036854775807 < 1 + x0.size + 1 + ts.size) := by omega
          have m3 : ¬ (9223372036854775807 < 1 + x0.size + 1 + ts.size + 1) := by omega
          clear hnr hnz hns HTS htz htt s0
          go_wp2_with fail
          have hbd := below_drew wr
          replace HBF := Lib.hid (below_thru HBF.out (Nat.le_refl _) hbd)
          have XR := Lib.hid ((box_of HB2.out).below hbd)
          have HTR := Lib.hid ((HTY.out.below HBB.out).below hbd)
          have HPR := Lib.hid ((HP.out.below HBB.out).below hbd)
          replace C0 := Lib.hid (C0.out.below hbd)
          clear hbd b0 b1 b2 b3 b4 b5
          go_region_held3 (fun w' => w'.cell? ⟨w.heap.size, 3, none⟩ = some (.int .i64 tk) ∧ w'.cell? ⟨w.heap.size, 4, none⟩ = some (.slice ta tn tc) ∧ w'.cell? ⟨(w.heap.size + 1), 0, none⟩ = some (.string x0)) (exact ⟨XR.out.2 3, XR.out.2 4, C0.out.2⟩)
            (first
             | (go_at_call 61
                refine (HCF.out _ _ HTR.out).mono ?_
                rintro e w5 ⟨rfl, hb⟩
                replace HBF := Lib.hid (below_thru HBF.out (Nat.le_refl _) hb)
                replace XR := Lib.hid (XR.out.below hb)
                replace C0 := Lib.hid (C0.out.below hb)
                clear hb))
          go_wp2_with fail
          go_ret
          exact ⟨by rw [HT2.out]; rfl, HBF.out⟩
        · have hq : es.length = 1 := by have : arity 14 = 1 := rfl; omega
          have HXL : Hid ((Ex.texts es).length = 1) := by show _ = _; rw [HTL.out]; exact hq
          have HX := Lib.hid (xone_of HXL.out)
          clear b5 HAL hkr
          have b0 := box_cell HB2.out 0
          have b1 := box_cell HB2.out 1
          have b2 := box_cell HB2.out 2
          have b3 := box_cell HB2.out 3
          have b4 := box_cell HB2.out 4
          have b5 := box_cell HB2.out 5
          clear HTF
          have hnr := HNR.out
          have hnz := numB_size n (by omega) (by omega)
          have hns := HNS.out
          have HBF := Lib.hid HBB.out
          have HT2 := Lib.hid (text_one 14 nm n ty es HXL.out)
          clear HX
          have htt := HTOT.out
          have hp0 : 0 < (Ex.texts es).length := by rw [HXL.out]; omega
          have s0 := total_get (Ex.texts es) 0 hp0
          have C0 := Lib.hid (show CellAt wr (w.heap.size + 1) 0 (.string (Ex.texts es)[0]) from ⟨HAR.out.1, HAR.out.2 0 hp0⟩)
          have hl0 : 0 < es.length := by omega
          generalize (Ex.texts es)[0]'hp0 = x0 at HT2 s0 C0
          clear hq
          have CI : ∀ (X0 : World) (_ : Pow10At X0), Calls Tryd.prog 59 #[.int .i64 n] X0 fun e w' => e = .returned (.string (numB n)) ∧ Below X0.heap.size X0 w' := fun X0 hp => implFormat n (by omega) (by omega) X0 hp
          have HCI := Lib.hid CI; clear CI
          generalize numB n = fs at HCI HT2 hnz
          have m0 : ¬ (9223372036854775807 < 1 + fs.size) := by omega
          have m1 : ¬ (9223372036854775807 < 1 + fs.size + 1) := by omega
          have m2 : ¬ (9223372036854775807 < 1 + fs.size + 1 + x0.size) := by omega
          have m3 : ¬ (9223372036854775807 < 1 + fs.size + 1 + x0.size + 1) := by omega
          clear hnr hnz hns htt s0
          go_wp2_with fail
          have hbd := below_drew wr
          replace HBF := Lib.hid (below_thru HBF.out (Nat.le_refl _) hbd)
          have XR := Lib.hid ((box_of HB2.out).below hbd)
          have HTR := Lib.hid ((HTY.out.below HBB.out).below hbd)
          have HPR := Lib.hid ((HP.out.below HBB.out).below hbd)
          replace C0 := Lib.hid (C0.out.below hbd)
          clear hbd b0 b1 b2 b3 b4 b5
          go_region_held3 (fun w' => w'.cell? ⟨w.heap.size, 2, none⟩ = some (.int .i64 n) ∧ w'.cell? ⟨(w.heap.size + 1), 0, none⟩ = some (.string x0)) (exact ⟨XR.out.2 2, C0.out.2⟩)
            (first
             | (go_at_call 59
                refine (HCI.out _ HPR.out).mono ?_
                rintro e w5 ⟨rfl, hb⟩
                replace HBF := Lib.hid (below_thru HBF.out (Nat.le_refl _) hb)
                replace XR := Lib.hid (XR.out.below hb)
                replace C0 := Lib.hid (C0.out.below hb)
                clear hb))
          go_wp2_with fail
          go_ret
          exact ⟨by rw [HT2.out]; rfl, HBF.out⟩
end Go.Proofs.YtdgfkmnnjhlpbaaDoor
/-
  Proved: spec.l6Left takes an expression's nodes but its marks from what is left; the memory that was there stays as it was.
-/
namespace Go.Proofs.YtdgfkmnnjhlpbaaDoor
open Go.RowKit

/-- What is left of a room behind an expression: below 0 only where it did not fit or has no right form. -/
def LeftsTo (t : Ex) (left r : Int) : Prop := -1 ≤ r ∧ r ≤ left ∧ (0 ≤ r → r = left - t.count) ∧ (t.form = true → (t.count : Int) ≤ left → 0 ≤ r)
/-- The same behind the first k parts. -/
def PartTo (es : List Ex) (k : Nat) (left m : Int) : Prop := -1 ≤ m ∧ m ≤ left ∧ (0 ≤ m → m = left - Ex.counts (es.take k)) ∧ (Ex.forms es = true → (Ex.counts es : Int) ≤ left → 0 ≤ m)
theorem PartTo.start {es : List Ex} {left : Int} (h : -1 ≤ left) : PartTo es 0 left left := by
  refine ⟨h, by omega, fun _ => by simp [Ex.counts], fun _ hc => by omega⟩
theorem PartTo.next {es : List Ex} {k : Nat} {left m r : Int} (h : PartTo es k left m) (hlt : k < es.length) (hm : 0 ≤ m) (h1 : LeftsTo es[k] m r) : PartTo es (k + 1) left r := by
  obtain ⟨a0, a1, a2, a3⟩ := h
  obtain ⟨b0, b1, b2, b3⟩ := h1
  have e := Ex.counts_take es k hlt
  have c := Ex.counts_le_all es (k + 1)
  have h0 := a2 hm
  refine ⟨b0, by omega, fun hr => by have := b2 hr; omega, fun hf hc => ?_⟩
  exact b3 (Ex.forms_get es k hlt hf) (by omega)
theorem LeftsTo.of_neg {kd : Int} {nm : ByteArray} {n : Int} {ty : Ty} {es : List Ex} {k c : Nat} {left l0 m : Int} (h : PartTo es k l0 m) (hn : m < 0) (hl : l0 ≤ left ∧ left - c ≤ l0 ∧ -1 ≤ l0) (hc : (Ex.node kd nm n ty es).count = c + Ex.counts es) : LeftsTo (.node kd nm n ty es) left m := by
  obtain ⟨a0, a1, a2, a3⟩ := h
  refine ⟨a0, by omega, fun hr => by omega, fun hf hcn => ?_⟩
  simp only [Ex.form, Bool.and_eq_true] at hf
  exact a3 hf.1 (by omega)
theorem LeftsTo.of_all {kd : Int} {nm : ByteArray} {n : Int} {ty : Ty} {es : List Ex} {c : Nat} {left l0 m : Int} (h : PartTo es es.length l0 m) (hl : l0 = left - c) (hc : (Ex.node kd nm n ty es).count = c + Ex.counts es) : LeftsTo (.node kd nm n ty es) left m := by
  obtain ⟨a0, a1, a2, a3⟩ := h
  rw [List.take_length] at a2
  refine ⟨a0, by omega, fun hr => by have := a2 hr; omega, fun hf hcn => ?_⟩
  simp only [Ex.form, Bool.and_eq_true] at hf
  exact a3 hf.1 (by omega)
theorem LeftsTo.bad {t : Ex} {left : Int} (hl : -1 ≤ left) (h : t.form = false) : LeftsTo t left (-1) :=
  ⟨by omega, hl, fun h => by omega, fun hf => by rw [h] at hf; cases hf⟩
set_option maxRecDepth 100000 in
set_option maxHeartbeats 4000000 in
theorem specExLeft : ∀ (d : Nat) (v : Value) (t : Ex) (left : Int) (w : World), 0 ≤ left → left ≤ 1048576 → ExAt w d v t → t.bulk ≤ 1048576 →
    Calls Tryd.prog 109 #[v, .int .i64 left] w fun e w' => ∃ r, e = .returned (.int .i64 r) ∧ LeftsTo t left r ∧ Below w.heap.size w w'
  | 0, _, _, _, _, _, _, h, _ => h.elim
  | d + 1, v, .node kd nm n ty es, left, w, hl0, hl1, h, hsz => by
    have IH : Hid (∀ (v : Value) (t : Ex) (left : Int) (w : World), 0 ≤ left → left ≤ 1048576 → ExAt w d v t → t.bulk ≤ 1048576 → Calls Tryd.prog 109 #[v, .int .i64 left] w fun e w' => ∃ r, e = .returned (.int .i64 r) ∧ LeftsTo t left r ∧ Below w.heap.size w w') := specExLeft d
    have HV := ex_parts h
    obtain ⟨c3, c4, sl, rfl, hk0, hk1, hn0, hn1, hnm, hty, a, cap, rfl, hcap, hcap2, hat⟩ := h
    obtain ⟨k', nm', n', tk, ta, tn, tc, sa, sn, sc, hv⟩ := HV
    injection hv with hv
    injection hv with hv
    simp at hv
    obtain ⟨rfl, rfl, rfl, rfl, rfl, rfl, rfl, rfl⟩ := hv
    have HAT := Lib.hid hat; clear hat
    have hbk : (Ex.node kd nm n ty es).bulk = nm.size + (ty.size - 1) + Ex.bulks es := rfl
    have HSZ : Hid (Ex.bulks es ≤ 1048576) := by show _ ≤ _; omega
    have HNM : Hid (nm.size ≤ 1048576) := by show _ ≤ _; omega
    have HTZ : Hid (ty.size ≤ 1048577) := by show _ ≤ _; omega
    have hlen : es.length ≤ 1048576 := by have := Ex.length_le es; omega
    clear hsz hbk hty
    by_cases q : kd = 14
    · subst q
      by_cases q1 : es.length = 1
      · have hpos : 0 < es.length := by omega
        have q1b : ((es.length : Int) == 1) = true := by simp [q1]
        have q1c : ((es.length : Int) != 1) = false := by simp [q1]
        clear q1
        obtain ⟨b, off, x0, x1, x2, x3, x4, x5, rfl, hbl, hc0, hc1, hc2, hc3, hc4, hc5, ht⟩ := HAT.out 0 (by omega)
        obtain ⟨yk, ynm, yn, ytk, yta, ytn, ytc, ya, ym, yc, rfl, rfl, rfl, rfl, rfl, rfl⟩ := ex_cells ht
        have HFIRST : Hid ((w.alloc (.cells #[.int .i64 14, .string nm, .int .i64 n, .int .i64 tk, .slice ta tn tc, .slice (some ⟨b, off, none⟩) es.length cap] 51)).cell? ⟨b, off, none⟩ = some (.int .i64 yk)) := by have := (below_alloc w (.cells #[.int .i64 14, .string nm, .int .i64 n, .int .i64 tk, .slice ta tn tc, .slice (some ⟨b, off, none⟩) es.length cap] 51)).cell (p := ⟨b, off, none⟩) hbl; show _ = _; rw [this]; simpa using hc0
        have e9 : w.cell? ⟨b, off, none⟩ = some (.int .i64 yk) := by simpa using hc0
        have HKIND := Lib.hid (ex_kind ht)
        clear ht hc0 hc1 hc2 hc3 hc4 hc5
        have e0 := HFIRST.out
        by_cases q2 : yk = 14
        · subst q2
          have NOFORM : Hid ((Ex.node 14 nm n ty es).form = false) := by
            have e : bareB 14 es = false := by cases es with | nil => simp at hpos | cons x r => simpa [bareB] using HKIND.out
            show _ = _; simp [Ex.form, e]
          go_enter Tryd.func109, Tryd.ntmps109
          go_wp2_with fail
          go_ret
          exact ⟨_, rfl, LeftsTo.bad (by omega) NOFORM.out, Below.refl _ _ |>.alloc (Nat.le_refl _) _⟩
        · have q2b : (yk == 14) = false := by simp [q2]
          have HFIN : Hid ((Ex.node 14 nm n ty es).count = 0 + Ex.counts es) := by show _ = _; simp [Ex.count]
          go_enter Tryd.func109, Tryd.ntmps109
          go_wp2_with fail
          refine (specBit _ _).mono ?_
          rintro e w9 ⟨rfl, rfl⟩
          go_wp2_with fail
          go_loopw [1, 5] (fun l i wr => ∃ (k : Nat) (m : Int), k ≤ es.length ∧ i = .int .i64 k ∧ l = .int .i64 m ∧ PartTo es k (left) m ∧ Below (w.heap.size + 1) (w.alloc (.cells #[.int .i64 14, .string nm, .int .i64 n, .int .i64 tk, .slice ta tn tc, .slice (some ⟨b, off, none⟩) es.length cap] 51)) wr) (fun _ i _ => es.length - (intOf i).toNat)
          case atStart => exact ⟨0, left, by omega, rfl, rfl, PartTo.start (by omega), Below.refl _ _⟩
          case round =>
            obtain ⟨k, m, hk, rfl, rfl, hm, hb⟩ := hrel
            have HM := Lib.hid hm; clear hm
            obtain ⟨mb0, mb1⟩ : -1 ≤ m ∧ m ≤ 1048576 := by have h1 := HM.out.1; have h2 := HM.out.2.1; omega
            have b0 := box_cell hb 0
            have b5 := box_cell hb 5
            have HB := Lib.hid (box_below hb)
            have HBX := Lib.hid hb; clear hb
            have HS2 := HSZ.out
            by_cases hlt : k < es.length
            · by_cases hneg : m < 0
              · go_wp2_with fail
                go_ret
                exact ⟨_, rfl, LeftsTo.of_neg (HM.out) hneg (by omega) HFIN.out, HB.out⟩
              · obtain ⟨b2, off2, x0, x1, x2, x3, x4, x5, hab, hbl, hc0, hc1, hc2, hc3, hc4, hc5, ht⟩ := HAT.out k hlt
                obtain ⟨rfl, rfl⟩ : b = b2 ∧ off = off2 := by simpa using hab
                have hg := Ex.bulk_get es k hlt
                have e0 : wr.cell? ⟨b, off + k * 6, none⟩ = some (x0) := by rw [HB.out.cell (p := ⟨b, off + k * 6, none⟩) hbl]; exact hc0
                have e1 : wr.cell? ⟨b, off + k * 6 + 1, none⟩ = some (x1) := by rw [HB.out.cell (p := ⟨b, off + k * 6 + 1, none⟩) hbl]; exact hc1
                have e2 : wr.cell? ⟨b, off + k * 6 + 2, none⟩ = some (x2) := by rw [HB.out.cell (p := ⟨b, off + k * 6 + 2, none⟩) hbl]; exact hc2
                have e3 : wr.cell? ⟨b, off + k * 6 + 3, none⟩ = some (x3) := by rw [HB.out.cell (p := ⟨b, off + k * 6 + 3, none⟩) hbl]; exact hc3
                have e4 : wr.cell? ⟨b, off + k * 6 + 4, none⟩ = some (x4) := by rw [HB.out.cell (p := ⟨b, off + k * 6 + 4, none⟩) hbl]; exact hc4
                have e5 : wr.cell? ⟨b, off + k * 6 + 5, none⟩ = some (x5) := by rw [HB.out.cell (p := ⟨b, off + k * 6 + 5, none⟩) hbl]; exact hc5
                have HT := Lib.hid (ht.below HB.out)
                clear ht hc0 hc1 hc2 hc3 hc4 hc5
                go_wp2_with fail
                refine (IH.out _ _ m wr (by omega) mb1 HT.out (by omega)).mono ?_
                rintro e w' ⟨r1, rfl, hr1, hb1⟩
                have HN := Lib.hid (box_next HBX.out hb1); clear hb1
                have HNEW := Lib.hid (HM.out.next hlt (by omega) hr1)
                clear hr1
                go_wp2_with fail
                exact ⟨⟨k + 1, _, by omega, by go_num, rfl, HNEW.out, HN.out⟩, by simp [intOf]; omega⟩
            · obtain rfl : k = es.length := by omega
              go_wp2_with fail
              go_ret
              exact ⟨_, rfl, LeftsTo.of_all HM.out (by omega) HFIN.out, HB.out⟩
      · have q1b : ((es.length : Int) == 1) = false := by simp; omega
        have NOFORM : Hid ((Ex.node 14 nm n ty es).form = false) := by
          have e : fitsB 14 nm n ty es.length = false := by
            have : ¬ ((es.length : Int) = arity 14) := by show ¬ (_ = (1 : Int)); omega
            simp [fitsB, this]
          show _ = _; simp [Ex.form, e]
        go_enter Tryd.func109, Tryd.ntmps109
        go_wp2_with fail
        go_ret
        exact ⟨_, rfl, LeftsTo.bad (by omega) NOFORM.out, Below.refl _ _ |>.alloc (Nat.le_refl _) _⟩
    · have qb0 : (kd == 14) = false := by simp [q]
      have HFIN : Hid ((Ex.node kd nm n ty es).count = 1 + Ex.counts es) := by show _ = _; simp [Ex.count, q]
      go_enter Tryd.func109, Tryd.ntmps109
      go_wp2_with fail
      refine (specBit _ _).mono ?_
      rintro e w9 ⟨rfl, rfl⟩
      go_wp2_with fail
      go_loopw [1, 5] (fun l i wr => ∃ (k : Nat) (m : Int), k ≤ es.length ∧ i = .int .i64 k ∧ l = .int .i64 m ∧ PartTo es k (left - 1) m ∧ Below (w.heap.size + 1) (w.alloc (.cells #[.int .i64 kd, .string nm, .int .i64 n, .int .i64 tk, .slice ta tn tc, .slice a es.length cap] 51)) wr) (fun _ i _ => es.length - (intOf i).toNat)
      case atStart => exact ⟨0, left - 1, by omega, rfl, rfl, PartTo.start (by omega), Below.refl _ _⟩
      case round =>
        obtain ⟨k, m, hk, rfl, rfl, hm, hb⟩ := hrel
        have HM := Lib.hid hm; clear hm
        obtain ⟨mb0, mb1⟩ : -1 ≤ m ∧ m ≤ 1048576 := by have h1 := HM.out.1; have h2 := HM.out.2.1; omega
        have b0 := box_cell hb 0
        have b5 := box_cell hb 5
        have HB := Lib.hid (box_below hb)
        have HBX := Lib.hid hb; clear hb
        have HS2 := HSZ.out
        by_cases hlt : k < es.length
        · by_cases hneg : m < 0
          · go_wp2_with fail
            go_ret
            exact ⟨_, rfl, LeftsTo.of_neg (HM.out) hneg (by omega) HFIN.out, HB.out⟩
          · obtain ⟨b, off, x0, x1, x2, x3, x4, x5, rfl, hbl, hc0, hc1, hc2, hc3, hc4, hc5, ht⟩ := HAT.out k hlt
            have hg := Ex.bulk_get es k hlt
            have e0 : wr.cell? ⟨b, off + k * 6, none⟩ = some (x0) := by rw [HB.out.cell (p := ⟨b, off + k * 6, none⟩) hbl]; exact hc0
            have e1 : wr.cell? ⟨b, off + k * 6 + 1, none⟩ = some (x1) := by rw [HB.out.cell (p := ⟨b, off + k * 6 + 1, none⟩) hbl]; exact hc1
            have e2 : wr.cell? ⟨b, off + k * 6 + 2, none⟩ = some (x2) := by rw [HB.out.cell (p := ⟨b, off + k * 6 + 2, none⟩) hbl]; exact hc2
            have e3 : wr.cell? ⟨b, off + k * 6 + 3, none⟩ = some (x3) := by rw [HB.out.cell (p := ⟨b, off + k * 6 + 3, none⟩) hbl]; exact hc3
            have e4 : wr.cell? ⟨b, off + k * 6 + 4, none⟩ = some (x4) := by rw [HB.out.cell (p := ⟨b, off + k * 6 + 4, none⟩) hbl]; exact hc4
            have e5 : wr.cell? ⟨b, off + k * 6 + 5, none⟩ = some (x5) := by rw [HB.out.cell (p := ⟨b, off + k * 6 + 5, none⟩) hbl]; exact hc5
            have HT := Lib.hid (ht.below HB.out)
            clear ht hc0 hc1 hc2 hc3 hc4 hc5
            go_wp2_with fail
            refine (IH.out _ _ m wr (by omega) mb1 HT.out (by omega)).mono ?_
            rintro e w' ⟨r1, rfl, hr1, hb1⟩
            have HN := Lib.hid (box_next HBX.out hb1); clear hb1
            have HNEW := Lib.hid (HM.out.next hlt (by omega) hr1)
            clear hr1
            go_wp2_with fail
            exact ⟨⟨k + 1, _, by omega, by go_num, rfl, HNEW.out, HN.out⟩, by simp [intOf]; omega⟩
        · obtain rfl : k = es.length := by omega
          go_wp2_with fail
          go_ret
          exact ⟨_, rfl, LeftsTo.of_all HM.out (by omega) HFIN.out, HB.out⟩
end Go.Proofs.YtdgfkmnnjhlpbaaDoor
/-
  Proved: spec.DepthOf measures the depth of an expression; the memory that was there stays as it was.
-/
namespace Go.Proofs.YtdgfkmnnjhlpbaaDoor
open Go.RowKit

set_option maxRecDepth 100000 in
set_option maxHeartbeats 2000000 in
theorem specExDepth : ∀ (d : Nat) (v : Value) (t : Ex) (w : World), ExAt w d v t → t.bulk ≤ 1048576 →
    Calls Tryd.prog 110 #[v] w fun e w' => e = .returned (.int .i64 (t.high : Int)) ∧ Below w.heap.size w w'
  | 0, _, _, _, h, _ => h.elim
  | d + 1, v, .node kd nm n ty es, w, h, hsz => by
    have IH : Hid (∀ (v : Value) (t : Ex) (w : World), ExAt w d v t → t.bulk ≤ 1048576 → Calls Tryd.prog 110 #[v] w fun e w' => e = .returned (.int .i64 (t.high : Int)) ∧ Below w.heap.size w w') := specExDepth d
    have HV := ex_parts h
    obtain ⟨c3, c4, sl, rfl, hk0, hk1, hn0, hn1, hnm, hty, a, cap, rfl, hcap, hcap2, hat⟩ := h
    obtain ⟨k', nm', n', tk, ta, tn, tc, sa, sn, sc, hv⟩ := HV
    injection hv with hv
    injection hv with hv
    simp at hv
    obtain ⟨rfl, rfl, rfl, rfl, rfl, rfl, rfl, rfl⟩ := hv
    have HAT := Lib.hid hat; clear hat
    have hbk : (Ex.node kd nm n ty es).bulk = nm.size + (ty.size - 1) + Ex.bulks es := rfl
    have HSZ : Hid (Ex.bulks es ≤ 1048576) := by show _ ≤ _; omega
    have hlen : es.length ≤ 1048576 := by have := Ex.length_le es; omega
    clear hsz hbk hty
    by_cases q : kd = 14
    · subst q
      have HFIN : Hid ((Ex.node 14 nm n ty es).high = Ex.highs es + 0) := by show _ = _; simp [Ex.high]
      go_enter Tryd.func110, Tryd.ntmps110
      go_wp2_with fail
      go_loopw [3, 4] (fun m i wr => ∃ k : Nat, k ≤ es.length ∧ i = .int .i64 k ∧ m = .int .i64 ((Ex.highs (es.take k) : Int)) ∧ Below (w.heap.size + 1) (w.alloc (.cells #[.int .i64 14, .string nm, .int .i64 n, .int .i64 tk, .slice ta tn tc, .slice a es.length cap] 51)) wr) (fun _ i _ => es.length - (intOf i).toNat)
      case atStart => exact ⟨0, by omega, rfl, by simp [Ex.highs], Below.refl _ _⟩
      case round =>
        obtain ⟨k, hk, rfl, rfl, hb⟩ := hrel
        have b0 := box_cell hb 0
        have b5 := box_cell hb 5
        have HB := Lib.hid (box_below hb)
        have HBX := Lib.hid hb; clear hb
        have HS1 := Ex.highs_part es k
        have HS2 := HSZ.out
        by_cases hlt : k < es.length
        · obtain ⟨b, off, x0, x1, x2, x3, x4, x5, rfl, hbl, hc0, hc1, hc2, hc3, hc4, hc5, ht⟩ := HAT.out k hlt
          have hg := Ex.bulk_get es k hlt
          have hg2 := Ex.high_le es[k]
          have hg3 := Ex.highs_part es (k + 1)
          have e0 : wr.cell? ⟨b, off + k * 6, none⟩ = some x0 := by rw [HB.out.cell (p := ⟨b, off + k * 6, none⟩) hbl]; exact hc0
          have e1 : wr.cell? ⟨b, off + k * 6 + 1, none⟩ = some x1 := by rw [HB.out.cell (p := ⟨b, off + k * 6 + 1, none⟩) hbl]; exact hc1
          have e2 : wr.cell? ⟨b, off + k * 6 + 2, none⟩ = some x2 := by rw [HB.out.cell (p := ⟨b, off + k * 6 + 2, none⟩) hbl]; exact hc2
          have e3 : wr.cell? ⟨b, off + k * 6 + 3, none⟩ = some x3 := by rw [HB.out.cell (p := ⟨b, off + k * 6 + 3, none⟩) hbl]; exact hc3
          have e4 : wr.cell? ⟨b, off + k * 6 + 4, none⟩ = some x4 := by rw [HB.out.cell (p := ⟨b, off + k * 6 + 4, none⟩) hbl]; exact hc4
          have e5 : wr.cell? ⟨b, off + k * 6 + 5, none⟩ = some x5 := by rw [HB.out.cell (p := ⟨b, off + k * 6 + 5, none⟩) hbl]; exact hc5
          have HT := Lib.hid (ht.below HB.out)
          have HPX := Lib.hid HBX.out
          clear ht hc0 hc1 hc2 hc3 hc4 hc5
          go_wp2_with fail
          refine (IH.out _ _ _ HT.out (by omega)).mono ?_
          rintro e w' ⟨rfl, hb1⟩
          have HN := Lib.hid (box_next HPX.out hb1); clear hb1
          have HT2 := Lib.hid (Ex.highs_take es k hlt)
          have hg4 : es[k].high ≤ 1048577 := by rw [HT2.out] at hg3; omega
          clear hg3
          go_wp2_with fail
          refine (specMax _ _ w').mono ?_
          rintro e w2 ⟨rfl, rfl⟩
          go_wp2_with fail
          exact ⟨⟨k + 1, by omega, by go_num, by rw [HT2.out]; go_num, HN.out⟩, by simp [intOf]; omega⟩
        · obtain rfl : k = es.length := by omega
          rw [List.take_length] at HS1 ⊢
          go_wp2_with fail
          refine (specBit _ _).mono ?_
          rintro e w9 ⟨rfl, rfl⟩
          go_wp2_with fail
          go_ret
          refine ⟨?_, HB.out⟩
          rw [HFIN.out]
          (first | rfl | (simp; done) | (simp; omega))
    · have qb : (kd == 14) = false := by simp [q]
      have HFIN : Hid ((Ex.node kd nm n ty es).high = Ex.highs es + 1) := by show _ = _; simp [Ex.high, q]
      go_enter Tryd.func110, Tryd.ntmps110
      go_wp2_with fail
      go_loopw [3, 4] (fun m i wr => ∃ k : Nat, k ≤ es.length ∧ i = .int .i64 k ∧ m = .int .i64 ((Ex.highs (es.take k) : Int)) ∧ Below (w.heap.size + 1) (w.alloc (.cells #[.int .i64 kd, .string nm, .int .i64 n, .int .i64 tk, .slice ta tn tc, .slice a es.length cap] 51)) wr) (fun _ i _ => es.length - (intOf i).toNat)
      case atStart => exact ⟨0, by omega, rfl, by simp [Ex.highs], Below.refl _ _⟩
      case round =>
        obtain ⟨k, hk, rfl, rfl, hb⟩ := hrel
        have b0 := box_cell hb 0
        have b5 := box_cell hb 5
        have HB := Lib.hid (box_below hb)
        have HBX := Lib.hid hb; clear hb
        have HS1 := Ex.highs_part es k
        have HS2 := HSZ.out
        by_cases hlt : k < es.length
        · obtain ⟨b, off, x0, x1, x2, x3, x4, x5, rfl, hbl, hc0, hc1, hc2, hc3, hc4, hc5, ht⟩ := HAT.out k hlt
          have hg := Ex.bulk_get es k hlt
          have hg2 := Ex.high_le es[k]
          have hg3 := Ex.highs_part es (k + 1)
          have e0 : wr.cell? ⟨b, off + k * 6, none⟩ = some x0 := by rw [HB.out.cell (p := ⟨b, off + k * 6, none⟩) hbl]; exact hc0
          have e1 : wr.cell? ⟨b, off + k * 6 + 1, none⟩ = some x1 := by rw [HB.out.cell (p := ⟨b, off + k * 6 + 1, none⟩) hbl]; exact hc1
          have e2 : wr.cell? ⟨b, off + k * 6 + 2, none⟩ = some x2 := by rw [HB.out.cell (p := ⟨b, off + k * 6 + 2, none⟩) hbl]; exact hc2
          have e3 : wr.cell? ⟨b, off + k * 6 + 3, none⟩ = some x3 := by rw [HB.out.cell (p := ⟨b, off + k * 6 + 3, none⟩) hbl]; exact hc3
          have e4 : wr.cell? ⟨b, off + k * 6 + 4, none⟩ = some x4 := by rw [HB.out.cell (p := ⟨b, off + k * 6 + 4, none⟩) hbl]; exact hc4
          have e5 : wr.cell? ⟨b, off + k * 6 + 5, none⟩ = some x5 := by rw [HB.out.cell (p := ⟨b, off + k * 6 + 5, none⟩) hbl]; exact hc5
          have HT := Lib.hid (ht.below HB.out)
          have HPX := Lib.hid HBX.out
          clear ht hc0 hc1 hc2 hc3 hc4 hc5
          go_wp2_with fail
          refine (IH.out _ _ _ HT.out (by omega)).mono ?_
          rintro e w' ⟨rfl, hb1⟩
          have HN := Lib.hid (box_next HPX.out hb1); clear hb1
          have HT2 := Lib.hid (Ex.highs_take es k hlt)
          have hg4 : es[k].high ≤ 1048577 := by rw [HT2.out] at hg3; omega
          clear hg3
          go_wp2_with fail
          refine (specMax _ _ w').mono ?_
          rintro e w2 ⟨rfl, rfl⟩
          go_wp2_with fail
          exact ⟨⟨k + 1, by omega, by go_num, by rw [HT2.out]; go_num, HN.out⟩, by simp [intOf]; omega⟩
        · obtain rfl : k = es.length := by omega
          rw [List.take_length] at HS1 ⊢
          go_wp2_with fail
          refine (specBit _ _).mono ?_
          rintro e w9 ⟨rfl, rfl⟩
          go_wp2_with fail
          go_ret
          refine ⟨?_, HB.out⟩
          rw [HFIN.out]
          (first | rfl | (simp; done) | (simp; omega))
end Go.Proofs.YtdgfkmnnjhlpbaaDoor
/-
  Proved: spec.IsValidExpr says whether an expression is valid; the memory that was there stays as it was.
-/
namespace Go.Proofs.YtdgfkmnnjhlpbaaDoor
open Go.RowKit

theorem valid_left {t : Ex} {r : Int} (h : LeftsTo t 40 r) : t.valid = (decide (0 ≤ r) && (decide (t.high ≤ 12) && t.form)) := by
  obtain ⟨a0, a1, a2, a3⟩ := h
  by_cases hr : 0 ≤ r
  · have := a2 hr
    have hc : t.count ≤ 40 := by omega
    simp [Ex.valid, hc, hr]
  · cases hf : t.form with
    | false => simp [Ex.valid, hf]
    | true =>
      have hc : ¬ (t.count ≤ 40) := fun hc => hr (a3 hf (by omega))
      simp [Ex.valid, hc, hr]
set_option maxRecDepth 100000 in
set_option maxHeartbeats 2000000 in
theorem specExValid (d : Nat) (v : Value) (t : Ex) (w : World) (h : ExAt w d v t) (hsz : t.bulk ≤ 1048576) :
    Calls Tryd.prog 65 #[v] w fun e w' => e = .returned (.bool t.valid) ∧ Below w.heap.size w w' := by
  have HT := Lib.hid h
  obtain ⟨yk, ynm, yn, ytk, yta, ytn, ytc, ya, ym, yc, rfl⟩ := ex_parts h
  clear h
  have E0 : Below w.heap.size w (w.alloc (.cells #[.int .i64 yk, .string ynm, .int .i64 yn, .int .i64 ytk, .slice yta ytn ytc, .slice ya ym yc] 51)) := below_alloc _ _
  have HT0 := Lib.hid (HT.out.below E0)
  clear E0
  go_enter Tryd.func65, Tryd.ntmps65
  go_wp2_with fail
  refine (specExLeft d _ t 40 _ (by omega) (by omega) HT0.out hsz).mono ?_
  rintro e w1 ⟨r, rfl, hr, hb1⟩
  have B1 := Lib.hid (box_next (Below.refl _ _) hb1); clear hb1
  have hv := valid_left hr
  obtain ⟨hr0, hr1, _, _⟩ := hr
  have HV := Lib.hid hv; clear hv
  have c0 := box_cell B1.out 0
  have c1 := box_cell B1.out 1
  have c2 := box_cell B1.out 2
  have c3 := box_cell B1.out 3
  have c4 := box_cell B1.out 4
  have c5 := box_cell B1.out 5
  by_cases q1 : r < 0
  · go_wp2_with fail
    go_ret
    exact ⟨by rw [HV.out]; simp; omega, box_below B1.out⟩
  · go_wp2_with fail
    refine (specExDepth d _ t _ (HT.out.below (box_below B1.out)) hsz).mono ?_
    rintro e w2 ⟨rfl, hb2⟩
    have B2 := Lib.hid (box_next B1.out hb2); clear hb2 B1 c0 c1 c2 c3 c4 c5
    have c0 := box_cell B2.out 0
    have c1 := box_cell B2.out 1
    have c2 := box_cell B2.out 2
    have c3 := box_cell B2.out 3
    have c4 := box_cell B2.out 4
    have c5 := box_cell B2.out 5
    have hdl : t.high ≤ 1048577 := by have := t.high_le; omega
    by_cases q2 : t.high ≤ 12
    · go_wp2_with fail
      refine (specExForm d _ t _ (HT.out.below (box_below B2.out)) hsz).mono ?_
      rintro e w3 ⟨rfl, hb3⟩
      have B3 := Lib.hid (box_next B2.out hb3); clear hb3 B2 c0 c1 c2 c3 c4 c5
      go_wp2_with fail
      go_ret
      exact ⟨by rw [HV.out]; simp [q2, show 0 ≤ r by omega], box_below B3.out⟩
    · go_wp2_with fail
      go_ret
      exact ⟨by rw [HV.out]; simp [q2], box_below B2.out⟩
end Go.Proofs.YtdgfkmnnjhlpbaaDoor
/-
  Proved: impl.isWord says whether a text is one of the three words; the memory that was there stays as it was.
-/
namespace Go.Proofs.YtdgfkmnnjhlpbaaDoor
open Go.RowKit

set_option maxRecDepth 100000 in
theorem implWord (s : ByteArray) (w : World) : Calls Tryd.prog 127 #[.string s] w fun e w' => e = .returned (.bool (wordB s)) ∧ w = w' := by
  cases h1 : (s.toList == [105, 102]) with
  | true =>
    go_enter Tryd.func127, Tryd.ntmps127
    go_wp2_with fail
    go_ret
    exact ⟨by simp [wordB, h1], rfl⟩
  | false =>
    cases h2 : (s.toList == [102, 115, 116]) with
    | true =>
      go_enter Tryd.func127, Tryd.ntmps127
      go_wp2_with fail
      go_ret
      exact ⟨by simp [wordB, h1, h2], rfl⟩
    | false =>
      cases h3 : (s.toList == [115, 110, 100]) with
      | true =>
        go_enter Tryd.func127, Tryd.ntmps127
        go_wp2_with fail
        go_ret
        exact ⟨by simp [wordB, h1, h2, h3], rfl⟩
      | false =>
        go_enter Tryd.func127, Tryd.ntmps127
        go_wp2_with fail
        go_ret
        exact ⟨by simp [wordB, h1, h2, h3], rfl⟩
end Go.Proofs.YtdgfkmnnjhlpbaaDoor
/-
  Proved: impl.IsName says whether a text is a name; the memory that was there stays as it was.
-/
namespace Go.Proofs.YtdgfkmnnjhlpbaaDoor
open Go.RowKit

theorem below_iter (w : World) (s : ByteArray) (k : Nat) : Below w.heap.size w (w.iter s k) := (Below.refl _ _).alloc (Nat.le_refl _) _
set_option maxRecDepth 100000 in
set_option maxHeartbeats 4000000 in
theorem implName (s : ByteArray) (w : World) (hs : s.size ≤ 9223372036854775807) : Calls Tryd.prog 103 #[.string s] w fun e w' => e = .returned (.bool (nameB s)) ∧ Below w.heap.size w w' := by
  by_cases r1 : 1 ≤ s.size
  case neg =>
    have hz : s.size = 0 := by omega
    have hl : s.toList = [] := List.eq_nil_of_length_eq_zero (by rw [size_of_toList]; exact hz)
    have h1 : (s.toList == []) = true := by rw [hl]; rfl
    have h2 : s.toList.isEmpty = true := by rw [hl]; rfl
    have HR := Lib.hid r1
    clear hz hl r1
    go_enter Tryd.func103, Tryd.ntmps103
    go_wp2_with fail
    go_ret
    exact ⟨by simp [nameB, HR.out], Below.refl _ _⟩
  have h1 : (s.toList == []) = false := toList_some r1
  have h2 : s.toList.isEmpty = false := by cases hh : s.toList with | nil => rw [hh] at h1; cases h1 | cons a r => rfl
  by_cases r2 : s.size ≤ 5
  case neg =>
    have i2 : (5 : Int) < (s.size : Int) := by omega
    go_enter Tryd.func103, Tryd.ntmps103
    go_wp2_with fail
    go_ret
    exact ⟨by simp [nameB, r2], Below.refl _ _⟩
  have i2 : ¬ ((5 : Int) < (s.size : Int)) := by omega
  cases hw : wordB s with
  | true =>
    go_enter Tryd.func103, Tryd.ntmps103
    go_wp2_with fail
    refine (implWord s w).mono ?_
    rintro e w1 ⟨rfl, rfl⟩
    go_wp2_with fail
    go_ret
    exact ⟨by simp [nameB, hw], Below.refl _ _⟩
  | false =>
    have HNB : Hid (nameB s = okB s s.size) := by show _ = _; simp [nameB, hw, r1, r2]
    go_enter Tryd.func103, Tryd.ntmps103
    go_wp2_with fail
    refine (implWord s w).mono ?_
    rintro e w1 ⟨rfl, rfl⟩
    go_wp2_with fail
    go_loopw [3] (fun _ wr => ∃ k : Nat, wr = w.iter s k ∧ k ≤ s.size ∧ okB s k = true) (fun _ wr => s.size - wr.iterPos w.heap.size)
    case atStart => exact ⟨0, rfl, by omega, rfl⟩
    case round =>
      obtain ⟨k, rfl, hk, hf⟩ := hrel
      have HF := Lib.hid hf; clear hf
      by_cases hlt : k < s.size
      · have HSUC := Lib.hid (okB_succ s k hlt)
        by_cases hasc : (s[k]'hlt).toNat < 128
        · have hnx : ∀ ty, (Instr.next (.pointer (some ⟨w.heap.size, 0, none⟩)) true ty).run Tryd.prog (w.iter s k) = _ := fun ty => run_next_ascii w s k ty hlt hasc
          by_cases l1 : 97 ≤ (s[k]'hlt).toNat ∧ (s[k]'hlt).toNat ≤ 122
          · have OK := Lib.hid (okAt_letter (k := k) l1.1 l1.2)
            obtain ⟨l1a, l1b⟩ := l1
            have l1d : decide ((97 : Int) ≤ ((s[k]'hlt).toNat : Int)) = true := by simpa using (by omega : (97 : Int) ≤ ((s[k]'hlt).toNat : Int))
            have l2d : decide (((s[k]'hlt).toNat : Int) ≤ 122) = true := by simpa using (by omega : ((s[k]'hlt).toNat : Int) ≤ 122)
            clear l1a l1b
            go_wp2_with fail
            all_goals exact ⟨⟨k + 1, rfl, hlt, by rw [HSUC.out, HF.out, OK.out]; rfl⟩, by simp; omega⟩
          · by_cases l3 : 97 ≤ (s[k]'hlt).toNat
            · skip
              by_cases z : k = 0
              · have OK := Lib.hid (okAt_bad (c := (s[k]'hlt).toNat) (k := k) (by omega) (Or.inl z))
                have l1d : decide ((97 : Int) ≤ ((s[k]'hlt).toNat : Int)) = true := by simpa using (by omega : (97 : Int) ≤ ((s[k]'hlt).toNat : Int))
                have l2d : decide (((s[k]'hlt).toNat : Int) ≤ 122) = false := by simpa using (by omega : (122 : Int) < ((s[k]'hlt).toNat : Int))
                have zb : ((k : Int) == 0) = true := by simp [z]
                clear l1 l3 z
                go_wp2_with fail
                all_goals go_ret
                all_goals exact ⟨by rw [HNB.out, okB_false s (k + 1) s.size (by rw [HSUC.out, HF.out, OK.out]; rfl) hlt]; rfl, below_iter _ _ _⟩
              · have zb : ((k : Int) == 0) = false := by simpa using z
                have z1 : 1 ≤ k := by omega
                by_cases g1 : 48 ≤ (s[k]'hlt).toNat ∧ (s[k]'hlt).toNat ≤ 57
                · have OK := Lib.hid (okAt_digit (k := k) z1 g1.1 g1.2)
                  obtain ⟨g1a, g1b⟩ := g1
                  have l1d : decide ((97 : Int) ≤ ((s[k]'hlt).toNat : Int)) = true := by simpa using (by omega : (97 : Int) ≤ ((s[k]'hlt).toNat : Int))
                  have l2d : decide (((s[k]'hlt).toNat : Int) ≤ 122) = false := by simpa using (by omega : (122 : Int) < ((s[k]'hlt).toNat : Int))
                  have g1d : decide ((48 : Int) ≤ ((s[k]'hlt).toNat : Int)) = true := by simpa using (by omega : (48 : Int) ≤ ((s[k]'hlt).toNat : Int))
                  have g2d : decide (((s[k]'hlt).toNat : Int) ≤ 57) = true := by simpa using (by omega : ((s[k]'hlt).toNat : Int) ≤ 57)
                  clear z l1 l3 g1a g1b
                  go_wp2_with fail
                  all_goals exact ⟨⟨k + 1, rfl, hlt, by rw [HSUC.out, HF.out, OK.out]; rfl⟩, by simp; omega⟩
                · have OK := Lib.hid (okAt_bad (c := (s[k]'hlt).toNat) (k := k) (by omega) (Or.inr (by omega)))
                  by_cases g2 : 48 ≤ (s[k]'hlt).toNat
                  · skip
                    have l1d : decide ((97 : Int) ≤ ((s[k]'hlt).toNat : Int)) = true := by simpa using (by omega : (97 : Int) ≤ ((s[k]'hlt).toNat : Int))
                    have l2d : decide (((s[k]'hlt).toNat : Int) ≤ 122) = false := by simpa using (by omega : (122 : Int) < ((s[k]'hlt).toNat : Int))
                    have g1d : decide ((48 : Int) ≤ ((s[k]'hlt).toNat : Int)) = true := by simpa using (by omega : (48 : Int) ≤ ((s[k]'hlt).toNat : Int))
                    have g2d : decide (((s[k]'hlt).toNat : Int) ≤ 57) = false := by simpa using (by omega : (57 : Int) < ((s[k]'hlt).toNat : Int))
                    clear z l1 l3 g1 g2
                    go_wp2_with fail
                    all_goals go_ret
                    all_goals exact ⟨by rw [HNB.out, okB_false s (k + 1) s.size (by rw [HSUC.out, HF.out, OK.out]; rfl) hlt]; rfl, below_iter _ _ _⟩
                  · skip
                    have l1d : decide ((97 : Int) ≤ ((s[k]'hlt).toNat : Int)) = true := by simpa using (by omega : (97 : Int) ≤ ((s[k]'hlt).toNat : Int))
                    have l2d : decide (((s[k]'hlt).toNat : Int) ≤ 122) = false := by simpa using (by omega : (122 : Int) < ((s[k]'hlt).toNat : Int))
                    have g1d : decide ((48 : Int) ≤ ((s[k]'hlt).toNat : Int)) = false := by simpa using (by omega : ((s[k]'hlt).toNat : Int) < 48)
                    clear z l1 l3 g1 g2
                    go_wp2_with fail
                    all_goals go_ret
                    all_goals exact ⟨by rw [HNB.out, okB_false s (k + 1) s.size (by rw [HSUC.out, HF.out, OK.out]; rfl) hlt]; rfl, below_iter _ _ _⟩
            · skip
              by_cases z : k = 0
              · have OK := Lib.hid (okAt_bad (c := (s[k]'hlt).toNat) (k := k) (by omega) (Or.inl z))
                have l1d : decide ((97 : Int) ≤ ((s[k]'hlt).toNat : Int)) = false := by simpa using (by omega : ((s[k]'hlt).toNat : Int) < 97)
                have zb : ((k : Int) == 0) = true := by simp [z]
                clear l1 l3 z
                go_wp2_with fail
                all_goals go_ret
                all_goals exact ⟨by rw [HNB.out, okB_false s (k + 1) s.size (by rw [HSUC.out, HF.out, OK.out]; rfl) hlt]; rfl, below_iter _ _ _⟩
              · have zb : ((k : Int) == 0) = false := by simpa using z
                have z1 : 1 ≤ k := by omega
                by_cases g1 : 48 ≤ (s[k]'hlt).toNat ∧ (s[k]'hlt).toNat ≤ 57
                · have OK := Lib.hid (okAt_digit (k := k) z1 g1.1 g1.2)
                  obtain ⟨g1a, g1b⟩ := g1
                  have l1d : decide ((97 : Int) ≤ ((s[k]'hlt).toNat : Int)) = false := by simpa using (by omega : ((s[k]'hlt).toNat : Int) < 97)
                  have g1d : decide ((48 : Int) ≤ ((s[k]'hlt).toNat : Int)) = true := by simpa using (by omega : (48 : Int) ≤ ((s[k]'hlt).toNat : Int))
                  have g2d : decide (((s[k]'hlt).toNat : Int) ≤ 57) = true := by simpa using (by omega : ((s[k]'hlt).toNat : Int) ≤ 57)
                  clear z l1 l3 g1a g1b
                  go_wp2_with fail
                  all_goals exact ⟨⟨k + 1, rfl, hlt, by rw [HSUC.out, HF.out, OK.out]; rfl⟩, by simp; omega⟩
                · have OK := Lib.hid (okAt_bad (c := (s[k]'hlt).toNat) (k := k) (by omega) (Or.inr (by omega)))
                  by_cases g2 : 48 ≤ (s[k]'hlt).toNat
                  · skip
                    have l1d : decide ((97 : Int) ≤ ((s[k]'hlt).toNat : Int)) = false := by simpa using (by omega : ((s[k]'hlt).toNat : Int) < 97)
                    have g1d : decide ((48 : Int) ≤ ((s[k]'hlt).toNat : Int)) = true := by simpa using (by omega : (48 : Int) ≤ ((s[k]'hlt).toNat : Int))
                    have g2d : decide (((s[k]'hlt).toNat : Int) ≤ 57) = false := by simpa using (by omega : (57 : Int) < ((s[k]'hlt).toNat : Int))
                    clear z l1 l3 g1 g2
                    go_wp2_with fail
                    all_goals go_ret
                    all_goals exact ⟨by rw [HNB.out, okB_false s (k + 1) s.size (by rw [HSUC.out, HF.out, OK.out]; rfl) hlt]; rfl, below_iter _ _ _⟩
                  · skip
                    have l1d : decide ((97 : Int) ≤ ((s[k]'hlt).toNat : Int)) = false := by simpa using (by omega : ((s[k]'hlt).toNat : Int) < 97)
                    have g1d : decide ((48 : Int) ≤ ((s[k]'hlt).toNat : Int)) = false := by simpa using (by omega : ((s[k]'hlt).toNat : Int) < 48)
                    clear z l1 l3 g1 g2
                    go_wp2_with fail
                    all_goals go_ret
                    all_goals exact ⟨by rw [HNB.out, okB_false s (k + 1) s.size (by rw [HSUC.out, HF.out, OK.out]; rfl) hlt]; rfl, below_iter _ _ _⟩
        · have hnx : ∀ ty, (Instr.next (.pointer (some ⟨w.heap.size, 0, none⟩)) true ty).run Tryd.prog (w.iter s k) = _ := fun ty => run_next_any w s k ty hlt
          have hd := (decode_high s k hlt (by omega)).1
          have OK : Hid (okAt (s[k]'hlt).toNat k = false) := okAt_bad (by omega) (Or.inr (by omega))
          have m1 : decide ((97 : Int) ≤ ((Utf8.decode s k).1 : Int)) = true := by simpa using (by omega : (97 : Int) ≤ ((Utf8.decode s k).1 : Int))
          have m2 : decide (((Utf8.decode s k).1 : Int) ≤ 122) = false := by simpa using (by omega : (122 : Int) < ((Utf8.decode s k).1 : Int))
          have m3 : decide ((48 : Int) ≤ ((Utf8.decode s k).1 : Int)) = true := by simpa using (by omega : (48 : Int) ≤ ((Utf8.decode s k).1 : Int))
          have m4 : decide (((Utf8.decode s k).1 : Int) ≤ 57) = false := by simpa using (by omega : (57 : Int) < ((Utf8.decode s k).1 : Int))
          by_cases z : k = 0
          · have zb : ((k : Int) == 0) = true := by simp [z]
            clear z
            go_wp2_with fail
            go_ret
            exact ⟨by rw [HNB.out, okB_false s (k + 1) s.size (by rw [HSUC.out, HF.out, OK.out]; rfl) hlt]; rfl, below_iter _ _ _⟩
          · have zb : ((k : Int) == 0) = false := by simpa using z
            clear z
            go_wp2_with fail
            go_ret
            exact ⟨by rw [HNB.out, okB_false s (k + 1) s.size (by rw [HSUC.out, HF.out, OK.out]; rfl) hlt]; rfl, below_iter _ _ _⟩
      · have hnx : ∀ ty, (Instr.next (.pointer (some ⟨w.heap.size, 0, none⟩)) true ty).run Tryd.prog (w.iter s k) = _ := fun ty => run_next_end w s k ty hlt
        have hks : k = s.size := by omega
        have HK := Lib.hid hks
        clear hks
        go_wp2_with fail
        go_ret
        exact ⟨by rw [HNB.out, ← HK.out, HF.out]; rfl, below_iter _ _ _⟩
end Go.Proofs.YtdgfkmnnjhlpbaaDoor
/-
  Proved: impl.IsNote says whether a type's tree is a note; it leaves the memory that was there as it was.
-/
namespace Go.Proofs.YtdgfkmnnjhlpbaaDoor
open Go.RowKit

theorem within_note (t : Ty) : within t 15 5 = t.note := by
  have e1 : decide ((t.size : Int) ≤ 15) = decide (t.size ≤ 15) := decide_eq_decide.2 (by omega)
  have e2 : decide ((t.depth : Int) ≤ 5) = decide (t.depth ≤ 5) := decide_eq_decide.2 (by omega)
  unfold within Ty.note Ty.valid
  rw [e1, e2]
  by_cases h1 : t.size ≤ 15 <;> by_cases h2 : t.depth ≤ 5
  · have h3 : t.size ≤ 800 := by omega
    have h4 : t.depth ≤ 24 := by omega
    simp [h1, h2, h3, h4]
  · simp [h2]
  · simp [h1]
  · simp [h1]

set_option maxRecDepth 100000 in
set_option maxHeartbeats 1000000 in
theorem implNote (d : Nat) (v : Value) (t : Ty) (w : World) (h : TyAt w d v t) (hsz : t.size ≤ 1048577) :
    Calls Tryd.prog 104 #[v] w fun e w' => e = .returned (.bool t.note) ∧ Below w.heap.size w w' := by
  have HT := Lib.hid h
  obtain ⟨yk, ya, yn, yc, rfl⟩ := agg_parts h
  clear h
  have X : Hid (Below w.heap.size w ((w.alloc (.cells #[.int .i64 yk, .slice ya yn yc] 31)).alloc (.cells #[.int .i64 15] 3))) := ((Below.refl _ _).alloc (Nat.le_refl _) _).alloc (by simp) _
  go_enter Tryd.func104, Tryd.ntmps104
  go_wp2_with fail
  refine (implWithin w d _ t (w.heap.size + 1) 15 5 _ HT.out X.out (by omega) hsz (by simp) (by omega) (by omega) (by omega) (by omega) (by simp [go_sem]) (by simp [go_sem])).mono ?_
  intro e w' hend
  obtain ⟨r', rfl, hr, _⟩ := hend.room
  have HB := Lib.hid (X.out.trans (hr.2.2.1.mono (Nat.le_succ _)))
  clear hend hr
  go_wp2_with fail
  go_ret
  exact ⟨by rw [within_note]; rfl, HB.out⟩
end Go.Proofs.YtdgfkmnnjhlpbaaDoor
/-
  Proved: impl.EqualType says whether two trees are equal, and leaves the memory that was there as it was.
-/
namespace Go.Proofs.YtdgfkmnnjhlpbaaDoor
open Go.RowKit

set_option maxRecDepth 100000 in
set_option maxHeartbeats 2000000 in
theorem implEqual : ∀ (d : Nat) (v1 v2 : Value) (t1 t2 : Ty) (w : World), TyAt w d v1 t1 → TyAt w d v2 t2 →
    Calls Tryd.prog 105 #[v1, v2] w fun e w' => e = .returned (.bool (t1.beq t2)) ∧ Below w.heap.size w w'
  | 0, _, _, _, _, _, h, _ => h.elim
  | d + 1, v1, v2, .node k1 cs, .node k2 bs, w, h1, h2 => by
    have IH : Hid (∀ (v1 v2 : Value) (t1 t2 : Ty) (w : World), TyAt w d v1 t1 → TyAt w d v2 t2 → Calls Tryd.prog 105 #[v1, v2] w fun e w' => e = .returned (.bool (t1.beq t2)) ∧ Below w.heap.size w w') := implEqual d
    obtain ⟨s1, rfl, hk0, hk1, a1, cap1, rfl, hcap1, hm1, hat1⟩ := h1
    obtain ⟨s2, rfl, hk2, hk3, a2, cap2, rfl, hcap2, hm2, hat2⟩ := h2
    have HA1 := Lib.hid hat1; clear hat1
    have HA2 := Lib.hid hat2; clear hat2
    by_cases q1 : k1 = k2
    · subst q1
      by_cases q2 : bs.length = cs.length
      · have HFIN : Hid ((Ty.node k1 cs).beq (Ty.node k1 bs) = Ty.beqs cs bs) := by show _ = _; simp [Ty.beq]
        rw [q2]
        go_enter Tryd.func105, Tryd.ntmps105
        go_wp2_with fail
        go_loopw [23] (fun i wr => ∃ k : Nat, k ≤ cs.length ∧ i = .int .i64 k ∧ Ty.beqs (cs.take k) (bs.take k) = true ∧ Below (w.heap.size + 2) ((w.alloc (.cells #[.int .i64 k1, .slice a1 cs.length cap1] 31)).alloc (.cells #[.int .i64 k1, .slice a2 cs.length cap2] 31)) wr) (fun i _ => cs.length - (intOf i).toNat)
        case atStart => exact ⟨0, by omega, rfl, by simp [Ty.beqs], Below.refl _ _⟩
        case round =>
          obtain ⟨k, hk, rfl, hf, hb⟩ := hrel
          have HF := Lib.hid hf; clear hf
          have y1 := two_first hb 1
          have y2 := two_next hb 1
          have HB := Lib.hid (two_below hb)
          have HBX := Lib.hid hb; clear hb
          by_cases hlt : k < cs.length
          · have hlt2 : k < bs.length := by omega
            obtain ⟨b1, off1, x0, x1, rfl, hbl1, hc10, hc11, ht1⟩ := HA1.out k hlt
            obtain ⟨b2, off2, z0, z1, rfl, hbl2, hc20, hc21, ht2⟩ := HA2.out k hlt2
            have c10 : wr.cell? ⟨b1, off1 + k * 2, none⟩ = some x0 := by rw [HB.out.cell (p := ⟨b1, off1 + k * 2, none⟩) hbl1]; exact hc10
            have c11 : wr.cell? ⟨b1, off1 + k * 2 + 1, none⟩ = some x1 := by rw [HB.out.cell (p := ⟨b1, off1 + k * 2 + 1, none⟩) hbl1]; exact hc11
            have c20 : wr.cell? ⟨b2, off2 + k * 2, none⟩ = some z0 := by rw [HB.out.cell (p := ⟨b2, off2 + k * 2, none⟩) hbl2]; exact hc20
            have c21 : wr.cell? ⟨b2, off2 + k * 2 + 1, none⟩ = some z1 := by rw [HB.out.cell (p := ⟨b2, off2 + k * 2 + 1, none⟩) hbl2]; exact hc21
            have HT1 := Lib.hid (ht1.below HB.out.drew)
            have HT2 := Lib.hid (ht2.below HB.out.drew)
            clear ht1 ht2 hc10 hc11 hc20 hc21
            go_wp2_with fail
            go_still_tail 10, (by kernel_rfl)
            change wpList _ _ _ _ _ wr.drew
            go_wp2_with fail
            refine (IH.out _ _ _ _ wr.drew HT1.out HT2.out).mono ?_
            rintro e w' ⟨rfl, hb1⟩
            have HN := Lib.hid (two_on HBX.out.drew hb1); clear hb1
            have HTK := Lib.hid (Ty.beqs_take cs bs k hlt hlt2)
            cases hfk : cs[k].beq bs[k] with
            | true =>
              have HFK := Lib.hid hfk; clear hfk
              go_wp2_with fail
              exact ⟨⟨k + 1, by omega, by go_num, by rw [HTK.out, HF.out, HFK.out]; rfl, HN.out⟩, by simp [intOf]; omega⟩
            | false =>
              have HFK := Lib.hid hfk; clear hfk
              go_wp2_with fail
              go_ret
              have e : Ty.beqs cs bs = false := Ty.beqs_false cs bs (k + 1) (by rw [HTK.out, HF.out, HFK.out]; rfl) q2.symm
              exact ⟨by rw [HFIN.out, e]; rfl, two_below HN.out⟩
          · obtain rfl : k = cs.length := by omega
            have e : Hid (Ty.beqs cs bs = true) := by
              have := HF.out
              rw [List.take_length, ← q2, List.take_length] at this; exact this
            go_wp2_with fail
            go_ret
            exact ⟨by rw [HFIN.out, e.out]; rfl, HB.out⟩
      · have HFIN : Hid ((Ty.node k1 cs).beq (Ty.node k1 bs) = false) := by show _ = _; simp [Ty.beq, Ty.beqs_len cs bs (fun e => q2 e.symm)]
        have q3 : ¬ ((cs.length : Int) = (bs.length : Int)) := by omega
        go_enter Tryd.func105, Tryd.ntmps105
        go_wp2_with fail
        go_ret
        exact ⟨by rw [HFIN.out]; rfl, ((Below.refl _ _).alloc (Nat.le_refl _) _).alloc (by simp) _⟩
    · have HFIN : Hid ((Ty.node k1 cs).beq (Ty.node k2 bs) = false) := by show _ = _; simp [Ty.beq, q1]
      go_enter Tryd.func105, Tryd.ntmps105
      go_wp2_with fail
      go_ret
      exact ⟨by rw [HFIN.out]; rfl, ((Below.refl _ _).alloc (Nat.le_refl _) _).alloc (by simp) _⟩
end Go.Proofs.YtdgfkmnnjhlpbaaDoor
/-
  Proved: plain facts on ground types; the memory that was there stays as it was.
-/
namespace Go.Proofs.YtdgfkmnnjhlpbaaDoor
open Go.RowKit

/-- The ground type of a type's kind; the zero type for others. -/
def Ty.ground : Ty → Ty
  | .node k ts => if (Ty.node k ts).valid = true then (if k = 2 then .node 2 [] else if k = 3 then .node 3 [] else if k = 4 then .node 4 [.node 1 [], .node 1 []] else if k = 5 then .node 5 [.node 1 [], .node 1 []] else .node 0 []) else .node 0 []
theorem Ty.ground_size (t : Ty) : t.ground.size ≤ 3 := by
  cases t with
  | node k ts =>
    simp only [Ty.ground]
    (repeat' split) <;> decide
theorem own_zero (w : World) (d : Nat) (k : Int) (h0 : -9223372036854775808 ≤ k) (h1 : k ≤ 9223372036854775807) : TyOwn w (d + 1) (.agg #[.int .i64 k, .slice none 0 0]) (.node k []) [] :=
  ⟨_, rfl, h0, h1, none, 0, [], [], rfl, Nat.le_refl _, by omega, rfl, rfl, (fun b hb => by cases hb), fun j hj => by simp at hj⟩
end Go.Proofs.YtdgfkmnnjhlpbaaDoor
/-
  Proved: the table of arities reads as it is written while old memory stays.
-/
namespace Go.Proofs.YtdgfkmnnjhlpbaaDoor
open Go.RowKit

def TabAt (w : World) : Prop := Lib.TabIs Tryd.prog w "loop.example/g00585/impl.arities" .i64 arTab
theorem TabAt.below {w w' : World} (h : TabAt w) (hb : Below w.heap.size w w') : TabAt w' := Law.tab_below hb h
theorem implArityAt (n : Int) (w : World) (h : TabAt w) : Calls Tryd.prog 141 #[.int .i64 n] w fun e w' => e = .returned (.int .i64 (arity n)) ∧ Below w.heap.size w w' := implArity n w h
end Go.Proofs.YtdgfkmnnjhlpbaaDoor
/-
  Proved: impl.isNameFor, impl.isNumberFor, impl.isTypeFor and impl.isExprNode say whether the fields of a node belong to its kind; the memory that was there stays as it was.
-/
namespace Go.Proofs.YtdgfkmnnjhlpbaaDoor
open Go.RowKit

set_option maxRecDepth 100000 in
theorem implNameFor (k : Int) (nm : ByteArray) (w : World) (hs : nm.size ≤ 9223372036854775807) : Calls Tryd.prog 142 #[.int .i64 k, .string nm] w fun e w' => e = .returned (.bool (nameFor k nm)) ∧ Below w.heap.size w w' := by
  by_cases q2 : k = 2
  · subst q2
    go_enter Tryd.func142, Tryd.ntmps142
    go_wp2_with fail
    refine (implName nm _ hs).mono ?_
    rintro e w1 ⟨rfl, hb⟩
    go_wp2_with fail
    go_ret
    exact ⟨by simp [nameFor], hb⟩
  by_cases q3 : k = 3
  · subst q3
    go_enter Tryd.func142, Tryd.ntmps142
    go_wp2_with fail
    refine (implName nm _ hs).mono ?_
    rintro e w1 ⟨rfl, hb⟩
    go_wp2_with fail
    go_ret
    exact ⟨by simp [nameFor], hb⟩
  have z2 : (k == 2) = false := by simp [q2]
  have z3 : (k == 3) = false := by simp [q3]
  by_cases qz : nm.size = 0
  · have e1 := text_zero qz
    have HZ : Hid (nameFor k nm = true) := by show _ = _; simp [nameFor, q2, q3, qz]
    go_enter Tryd.func142, Tryd.ntmps142
    go_wp2_with fail
    go_ret
    exact ⟨by rw [HZ.out]; rfl, Below.refl _ _⟩
  · have e1 := toList_some (s := nm) (by omega)
    have HZ : Hid (nameFor k nm = false) := by show _ = _; simp [nameFor, q2, q3, qz]
    go_enter Tryd.func142, Tryd.ntmps142
    go_wp2_with fail
    go_ret
    exact ⟨by rw [HZ.out]; rfl, Below.refl _ _⟩
set_option maxRecDepth 100000 in
theorem implNumFor (k n : Int) (w : World) : Calls Tryd.prog 143 #[.int .i64 k, .int .i64 n] w fun e w' => e = .returned (.bool (numFor k n)) ∧ Below w.heap.size w w' := by
  by_cases q1 : k = 1
  · subst q1
    by_cases r1 : 1 ≤ n
    · by_cases r2 : n ≤ 99
      · go_enter Tryd.func143, Tryd.ntmps143
        go_wp2_with fail
        go_ret
        exact ⟨by first | (simp [numFor, *]; done) | (simp [numFor, *]; omega), Below.refl _ _⟩
      · go_enter Tryd.func143, Tryd.ntmps143
        go_wp2_with fail
        go_ret
        exact ⟨by first | (simp [numFor, *]; done) | (simp [numFor, *]; omega), Below.refl _ _⟩
    · go_enter Tryd.func143, Tryd.ntmps143
      go_wp2_with fail
      go_ret
      exact ⟨by first | (simp [numFor, *]; done) | (simp [numFor, *]; omega), Below.refl _ _⟩
  by_cases q14 : k = 14
  · subst q14
    by_cases r1 : 1 ≤ n
    · by_cases r2 : n ≤ 99
      · go_enter Tryd.func143, Tryd.ntmps143
        go_wp2_with fail
        go_ret
        exact ⟨by first | (simp [numFor, *]; done) | (simp [numFor, *]; omega), Below.refl _ _⟩
      · go_enter Tryd.func143, Tryd.ntmps143
        go_wp2_with fail
        go_ret
        exact ⟨by first | (simp [numFor, *]; done) | (simp [numFor, *]; omega), Below.refl _ _⟩
    · go_enter Tryd.func143, Tryd.ntmps143
      go_wp2_with fail
      go_ret
      exact ⟨by first | (simp [numFor, *]; done) | (simp [numFor, *]; omega), Below.refl _ _⟩
  by_cases q5 : k = 5
  · subst q5
    by_cases r1 : 0 ≤ n
    · by_cases r2 : n ≤ 999
      · go_enter Tryd.func143, Tryd.ntmps143
        go_wp2_with fail
        go_ret
        exact ⟨by first | (simp [numFor, *]; done) | (simp [numFor, *]; omega), Below.refl _ _⟩
      · go_enter Tryd.func143, Tryd.ntmps143
        go_wp2_with fail
        go_ret
        exact ⟨by first | (simp [numFor, *]; done) | (simp [numFor, *]; omega), Below.refl _ _⟩
    · go_enter Tryd.func143, Tryd.ntmps143
      go_wp2_with fail
      go_ret
      exact ⟨by first | (simp [numFor, *]; done) | (simp [numFor, *]; omega), Below.refl _ _⟩
  by_cases q8 : k = 8
  · subst q8
    by_cases r0 : n = 0
    · subst r0
      go_enter Tryd.func143, Tryd.ntmps143
      go_wp2_with fail
      go_ret
      exact ⟨by simp [numFor], Below.refl _ _⟩
    · have r0b : (n == 0) = false := by simp [r0]
      by_cases r1 : n = 1
      · subst r1
        go_enter Tryd.func143, Tryd.ntmps143
        go_wp2_with fail
        go_ret
        exact ⟨by simp [numFor], Below.refl _ _⟩
      · have r1b : (n == 1) = false := by simp [r1]
        go_enter Tryd.func143, Tryd.ntmps143
        go_wp2_with fail
        go_ret
        exact ⟨by simp [numFor]; omega, Below.refl _ _⟩
  by_cases r0 : n = 0
  · subst r0
    go_enter Tryd.func143, Tryd.ntmps143
    go_wp2_with fail
    go_ret
    exact ⟨by first | (simp [numFor, *]; done) | (simp [numFor, *]; omega), Below.refl _ _⟩
  · have r0b : (n == 0) = false := by simp [r0]
    go_enter Tryd.func143, Tryd.ntmps143
    go_wp2_with fail
    go_ret
    exact ⟨by first | (simp [numFor, *]; done) | (simp [numFor, *]; omega), Below.refl _ _⟩
set_option maxRecDepth 100000 in
theorem implTypeFor (d : Nat) (v : Value) (k : Int) (ty : Ty) (w : World) (h : TyAt w d v ty) (hsz : ty.size ≤ 1048577) : Calls Tryd.prog 144 #[.int .i64 k, v] w fun e w' => e = .returned (.bool (typeFor k ty)) ∧ Below w.heap.size w w' := by
  have HT := Lib.hid h
  obtain ⟨yk, ya, yn, yc, rfl⟩ := agg_parts h
  clear h
  have E0 := below_alloc w (.cells #[.int .i64 yk, .slice ya yn yc] 31)
  have HT0 := Lib.hid (HT.out.below E0)
  have HE := Lib.hid E0
  clear E0 HT
  by_cases q3 : k = 3
  · subst q3
    go_enter Tryd.func144, Tryd.ntmps144
    go_wp2_with fail
    refine (implNote d _ ty _ HT0.out hsz).mono ?_
    rintro e w1 ⟨rfl, hb⟩
    have HB := Lib.hid (below_thru HE.out (Nat.le_refl _) hb)
    clear hb
    go_wp2_with fail
    go_ret
    exact ⟨by simp [typeFor], HB.out⟩
  by_cases q13 : k = 13
  · subst q13
    go_enter Tryd.func144, Tryd.ntmps144
    go_wp2_with fail
    refine (implNote d _ ty _ HT0.out hsz).mono ?_
    rintro e w1 ⟨rfl, hb⟩
    have HB := Lib.hid (below_thru HE.out (Nat.le_refl _) hb)
    clear hb
    go_wp2_with fail
    go_ret
    exact ⟨by simp [typeFor], HB.out⟩
  have z3 : (k == 3) = false := by simp [q3]
  have z13 : (k == 13) = false := by simp [q13]
  have qf : typeFor k ty = ty.beq (.node 0 []) := by first | (simp [typeFor, *]; done) | (simp [typeFor, *]; omega)
  cases d with
  | zero => exact HT0.out.elim
  | succ d =>
  go_enter Tryd.func144, Tryd.ntmps144
  go_wp2_with fail
  refine (implEqual (d + 1) _ _ ty (.node 0 []) _ HT0.out (own_zero _ d 0 (by omega) (by omega)).at_).mono ?_
  rintro e w1 ⟨rfl, hb⟩
  have HB := Lib.hid (below_thru HE.out (Nat.le_refl _) hb)
  clear hb
  go_wp2_with fail
  go_ret
  exact ⟨by rw [qf]; rfl, HB.out⟩
end Go.Proofs.YtdgfkmnnjhlpbaaDoor
/-
  Proved: impl.isExprNode says whether the fields and the number of parts of a node belong to its kind; the memory that was there stays as it was.
-/
namespace Go.Proofs.YtdgfkmnnjhlpbaaDoor
open Go.RowKit

set_option maxRecDepth 100000 in
set_option maxHeartbeats 1000000 in
theorem implFits (d : Nat) (v : Value) (kd : Int) (nm : ByteArray) (n : Int) (ty : Ty) (es : List Ex) (w : World) (h : ExAt w (d + 1) v (.node kd nm n ty es)) (hsz : (Ex.node kd nm n ty es).bulk ≤ 1048576) (htab : TabAt w) :
    Calls Tryd.prog 136 #[v] w fun e w' => e = .returned (.bool (fitsB kd nm n ty es.length)) ∧ Below w.heap.size w w' := by
  have HV := ex_parts h
  obtain ⟨c3, c4, sl, rfl, hk0, hk1, hn0, hn1, hnm, hty, a, cap, rfl, hcap, hcap2, hat⟩ := h
  obtain ⟨k', nm', n', tk, ta, tn, tc, sa, sn, sc, hv⟩ := HV
  injection hv with hv
  injection hv with hv
  simp at hv
  obtain ⟨rfl, rfl, rfl, rfl, rfl, rfl, rfl, rfl⟩ := hv
  have HAT := Lib.hid hat; clear hat
  have hbk : (Ex.node kd nm n ty es).bulk = nm.size + (ty.size - 1) + Ex.bulks es := rfl
  have HSZ : Hid (Ex.bulks es ≤ 1048576) := by show _ ≤ _; omega
  have HNM : Hid (nm.size ≤ 1048576) := by show _ ≤ _; omega
  have HTZ : Hid (ty.size ≤ 1048577) := by show _ ≤ _; omega
  have hlen : es.length ≤ 1048576 := by have := Ex.length_le es; omega
  have HTY := Lib.hid hty
  clear hsz hbk hty
  clear HAT HSZ
  have HNS : Hid (nm.size ≤ 9223372036854775807) := by have := HNM.out; show _ ≤ _; omega
  obtain ⟨W, hW⟩ : ∃ W, W = w.alloc (.cells #[.int .i64 kd, .string nm, .int .i64 n, .int .i64 tk, .slice ta tn tc, .slice a es.length cap] 51) := ⟨_, rfl⟩
  have B : Hid (Below w.heap.size w W) := by rw [hW]; exact below_alloc _ _
  have HTYb := Lib.hid (HTY.out.below B.out)
  have HTAB := Lib.hid (htab.below B.out)
  clear HTY htab
  have XA : Hid (BoxAt W w.heap.size #[.int .i64 kd, .string nm, .int .i64 n, .int .i64 tk, .slice ta tn tc, .slice a es.length cap]) := by rw [hW]; exact BoxAt.new _ _ _
  have C1 : ∀ q : Grown W.heap.size W, Calls Tryd.prog 141 #[.int .i64 kd] q.val fun e w' => e = .returned (.int .i64 (arity kd)) ∧ Below q.val.heap.size q.val w' := fun q => implArityAt _ _ (HTAB.out.below q.old)
  have C2 : ∀ q : Grown W.heap.size W, Calls Tryd.prog 142 #[.int .i64 kd, .string nm] q.val fun e w' => e = .returned (.bool (nameFor kd nm)) ∧ Below q.val.heap.size q.val w' := fun q => implNameFor _ _ _ HNS.out
  have C3 : ∀ q : Grown W.heap.size W, Calls Tryd.prog 143 #[.int .i64 kd, .int .i64 n] q.val fun e w' => e = .returned (.bool (numFor kd n)) ∧ Below q.val.heap.size q.val w' := fun q => implNumFor _ _ _
  have C4 : ∀ q : Grown W.heap.size W, Calls Tryd.prog 144 #[.int .i64 kd, .agg #[.int .i64 tk, .slice ta tn tc]] q.val fun e w' => e = .returned (.bool (typeFor kd ty)) ∧ Below q.val.heap.size q.val w' := fun q => implTypeFor d _ _ ty _ (HTYb.out.below q.old) HTZ.out
  have hfit : fitsB kd nm n ty es.length = (decide ((es.length : Int) = arity kd) && (nameFor kd nm && (numFor kd n && typeFor kd ty))) := rfl
  generalize fitsB kd nm n ty es.length = m at hfit ⊢
  generalize arity kd = r at hfit C1
  generalize nameFor kd nm = bn at hfit C2
  generalize numFor kd n = bu at hfit C3
  generalize typeFor kd ty = bt at hfit C4
  have HM := Lib.hid hfit
  clear hfit
  go_enter Tryd.func136, Tryd.ntmps136
  go_wp2_with fail
  rw [← hW]
  clear hW
  have a0 : ∀ q : Grown W.heap.size W, q.val.cell? ⟨w.heap.size, 0, none⟩ = _ := fun q => (XA.out.grown q).2 0
  have a1 : ∀ q : Grown W.heap.size W, q.val.cell? ⟨w.heap.size, 1, none⟩ = _ := fun q => (XA.out.grown q).2 1
  have a2 : ∀ q : Grown W.heap.size W, q.val.cell? ⟨w.heap.size, 2, none⟩ = _ := fun q => (XA.out.grown q).2 2
  have a3 : ∀ q : Grown W.heap.size W, q.val.cell? ⟨w.heap.size, 3, none⟩ = _ := fun q => (XA.out.grown q).2 3
  have a4 : ∀ q : Grown W.heap.size W, q.val.cell? ⟨w.heap.size, 4, none⟩ = _ := fun q => (XA.out.grown q).2 4
  have a5 : ∀ q : Grown W.heap.size W, q.val.cell? ⟨w.heap.size, 5, none⟩ = _ := fun q => (XA.out.grown q).2 5
  clear XA HTYb HTAB
  by_cases qa : (es.length : Int) = r
  case neg =>
    have qb : ((es.length : Int) == r) = false := by simp [qa]
    refine wp_region_grown W.heap.size (by kernel_rfl) (by kernel_rfl) ?_
    repeat (go_big_quiet_step ((first | (go_at_call 141; exact grown_of (Nat.le_refl _) (C1 _)) | (go_at_call 142; exact grown_of (Nat.le_refl _) (C2 _)) | (go_at_call 143; exact grown_of (Nat.le_refl _) (C3 _)) | (go_at_call 144; exact grown_of (Nat.le_refl _) (C4 _)))))
    refine wpQuiet_nil ?_
    rintro _ ⟨⟨wq, hq⟩, rfl⟩
    go_wp2_with fail
    go_ret
    exact ⟨by rw [HM.out]; simp [*], below_thru B.out (Nat.le_of_eq rfl) hq⟩
  have qb : ((es.length : Int) == r) = true := by simp [qa]
  cases bn
  case false =>
    refine wp_region_grown W.heap.size (by kernel_rfl) (by kernel_rfl) ?_
    repeat (go_big_quiet_step ((first | (go_at_call 141; exact grown_of (Nat.le_refl _) (C1 _)) | (go_at_call 142; exact grown_of (Nat.le_refl _) (C2 _)) | (go_at_call 143; exact grown_of (Nat.le_refl _) (C3 _)) | (go_at_call 144; exact grown_of (Nat.le_refl _) (C4 _)))))
    refine wpQuiet_nil ?_
    rintro _ ⟨⟨wq, hq⟩, rfl⟩
    go_wp2_with fail
    go_ret
    exact ⟨by rw [HM.out]; simp [*], below_thru B.out (Nat.le_of_eq rfl) hq⟩
  cases bu
  case false =>
    refine wp_region_grown W.heap.size (by kernel_rfl) (by kernel_rfl) ?_
    repeat (go_big_quiet_step ((first | (go_at_call 141; exact grown_of (Nat.le_refl _) (C1 _)) | (go_at_call 142; exact grown_of (Nat.le_refl _) (C2 _)) | (go_at_call 143; exact grown_of (Nat.le_refl _) (C3 _)) | (go_at_call 144; exact grown_of (Nat.le_refl _) (C4 _)))))
    refine wpQuiet_nil ?_
    rintro _ ⟨⟨wq, hq⟩, rfl⟩
    go_wp2_with fail
    go_ret
    exact ⟨by rw [HM.out]; simp [*], below_thru B.out (Nat.le_of_eq rfl) hq⟩
  refine wp_region_grown W.heap.size (by kernel_rfl) (by kernel_rfl) ?_
  repeat (go_big_quiet_step ((first | (go_at_call 141; exact grown_of (Nat.le_refl _) (C1 _)) | (go_at_call 142; exact grown_of (Nat.le_refl _) (C2 _)) | (go_at_call 143; exact grown_of (Nat.le_refl _) (C3 _)) | (go_at_call 144; exact grown_of (Nat.le_refl _) (C4 _)))))
  refine wpQuiet_nil ?_
  rintro _ ⟨⟨wq, hq⟩, rfl⟩
  go_wp2_with fail
  go_ret
  exact ⟨by rw [HM.out]; simp [*], below_thru B.out (Nat.le_of_eq rfl) hq⟩
end Go.Proofs.YtdgfkmnnjhlpbaaDoor
/-
  Proved: impl.exprWithin says whether an expression's tree is of the right form and fits into the room and the depth that are left; it counts the room down, and touches nothing else.
-/
namespace Go.Proofs.YtdgfkmnnjhlpbaaDoor
open Go.RowKit

def xwithin (t : Ex) (r dp : Int) : Bool := decide ((t.count : Int) ≤ r) && (decide ((t.high : Int) ≤ dp) && t.form)
def XEnd (p : Nat) (r dp : Int) (t : Ex) (w : World) (e : Ending) (w' : World) : Prop :=
  ∃ r' : Int, e = .returned (.bool (xwithin t r dp)) ∧ Room p r' w w' ∧ (xwithin t r dp = true → r' = r - t.count)
theorem XEnd.of {p : Nat} {r dp r' : Int} {t : Ex} {w w' : World} {b : Bool} (hb : xwithin t r dp = b) (hr : Room p r' w w') (h : b = true → r' = r - t.count) : XEnd p r dp t w (.returned (.bool b)) w' := by
  subst hb; exact ⟨r', rfl, hr, h⟩
theorem xwithin_form {t : Ex} {r dp : Int} (h : t.form = false) : xwithin t r dp = false := by simp [xwithin, h]
theorem xwithin_true {t : Ex} {r dp : Int} (h : xwithin t r dp = true) : (t.count : Int) ≤ r ∧ (t.high : Int) ≤ dp ∧ t.form = true := by
  simp only [xwithin, Bool.and_eq_true, decide_eq_true_eq] at h
  exact h
theorem xwithin_mk {t : Ex} {r dp : Int} (h1 : (t.count : Int) ≤ r) (h2 : (t.high : Int) ≤ dp) (h3 : t.form = true) : xwithin t r dp = true := by
  simp only [xwithin, Bool.and_eq_true, decide_eq_true_eq]
  exact ⟨h1, h2, h3⟩
theorem xwithin_mark {nm : ByteArray} {n : Int} {ty : Ty} {x : Ex} {r dp : Int} (hf : fitsB 14 nm n ty 1 = true) (hk : x.kind ≠ 14) : xwithin (.node 14 nm n ty [x]) r dp = xwithin x r dp := by
  have e1 : (Ex.node 14 nm n ty [x]).count = x.count := by simp [Ex.count, Ex.counts]
  have e2 : (Ex.node 14 nm n ty [x]).high = x.high := by simp [Ex.high, Ex.highs]
  have e3 : (Ex.node 14 nm n ty [x]).form = x.form := by simp [Ex.form, Ex.forms, bareB, hk, hf]
  unfold xwithin; rw [e1, e2, e3]
theorem xwithin_sub {kd : Int} {nm : ByteArray} {n : Int} {ty : Ty} {es : List Ex} {r dp r2 : Int} {k : Nat} (hk : kd ≠ 14) (h : k < es.length) (hr : r2 = r - 1 - Ex.counts (es.take k)) (hf : xwithin es[k] r2 (dp - 1) = false) : xwithin (.node kd nm n ty es) r dp = false := by
  cases hw : xwithin (.node kd nm n ty es) r dp with
  | false => rfl
  | true =>
    obtain ⟨w1, w2, w3⟩ := xwithin_true hw
    simp only [Ex.count, Ex.high, Ex.form, if_neg hk, Bool.and_eq_true] at w1 w2 w3
    have h1 := Ex.counts_take es k h
    have h2 := Ex.counts_le_all es (k + 1)
    have h3 := Ex.highs_get es k h
    have h4 := Ex.forms_get es k h w3.1
    have : xwithin es[k] r2 (dp - 1) = true := xwithin_mk (by omega) (by omega) h4
    rw [this] at hf; cases hf
theorem room_start {p : Nat} {r : Int} {w w2 : World} (hp : p < w.heap.size) (hb : Below w.heap.size w w2) (e0 : w.cell? ⟨p, 0, none⟩ = some (.int .i64 r)) (e1 : w.frozen? ⟨p, 0, none⟩ = false) : Room p r w w2 :=
  ⟨(hb.cell (p := ⟨p, 0, none⟩) hp).trans e0, (hb.frozen (p := ⟨p, 0, none⟩) hp).trans e1, hb.mono (Nat.le_of_lt hp), fun b h _ => hb.block b h⟩
set_option maxRecDepth 100000 in
set_option maxHeartbeats 4000000 in
theorem implExWithin (w0 : World) (htab : TabAt w0) : ∀ (d : Nat) (v : Value) (t : Ex) (p : Nat) (r dp : Int) (w : World), ExAt w0 d v t → Below w0.heap.size w0 w → w0.heap.size ≤ p → t.bulk ≤ 1048576 → p < w.heap.size → 0 ≤ r → r ≤ 1048576 → 0 ≤ dp → dp ≤ 100 → w.cell? ⟨p, 0, none⟩ = some (.int .i64 r) → w.frozen? ⟨p, 0, none⟩ = false → Calls Tryd.prog 112 #[v, .pointer (some ⟨p, 0, none⟩), .int .i64 dp] w (XEnd p r dp t w)
  | 0, _, _, _, _, _, _, h, _, _, _, _, _, _, _, _, _, _ => h.elim
  | d + 1, v, .node kd nm n ty es, p, r, dp, w, h, hw0, hp0, hsz, hp, hr0, hr1, hd0, hd1, hcell, hfroz => by
    have IH : Hid (∀ (v : Value) (t : Ex) (p : Nat) (r dp : Int) (w : World), ExAt w0 d v t → Below w0.heap.size w0 w → w0.heap.size ≤ p → t.bulk ≤ 1048576 → p < w.heap.size → 0 ≤ r → r ≤ 1048576 → 0 ≤ dp → dp ≤ 100 → w.cell? ⟨p, 0, none⟩ = some (.int .i64 r) → w.frozen? ⟨p, 0, none⟩ = false → Calls Tryd.prog 112 #[v, .pointer (some ⟨p, 0, none⟩), .int .i64 dp] w (XEnd p r dp t w)) := implExWithin w0 htab d
    have HWH := Lib.hid h
    have HBK := Lib.hid hsz
    have HV := ex_parts h
    obtain ⟨c3, c4, sl, rfl, hk0, hk1, hn0, hn1, hnm, hty, a, cap, rfl, hcap, hcap2, hat⟩ := h
    obtain ⟨k', nm', n', tk, ta, tn, tc, sa, sn, sc, hv⟩ := HV
    injection hv with hv
    injection hv with hv
    simp at hv
    obtain ⟨rfl, rfl, rfl, rfl, rfl, rfl, rfl, rfl⟩ := hv
    have HAT := Lib.hid hat; clear hat
    have hbk : (Ex.node kd nm n ty es).bulk = nm.size + (ty.size - 1) + Ex.bulks es := rfl
    have HSZ : Hid (Ex.bulks es ≤ 1048576) := by show _ ≤ _; omega
    have HNM : Hid (nm.size ≤ 1048576) := by show _ ≤ _; omega
    have HTZ : Hid (ty.size ≤ 1048577) := by show _ ≤ _; omega
    have hlen : es.length ≤ 1048576 := by have := Ex.length_le es; omega
    clear hsz hbk hty
    have HW0 := Lib.hid hw0; clear hw0
    have HTB := Lib.hid (htab.below (HW0.out.alloc HW0.out.size (.cells #[.int .i64 kd, .string nm, .int .i64 n, .int .i64 tk, .slice ta tn tc, .slice a es.length cap] 51)))
    have HWX := Lib.hid (HWH.out.below (HW0.out.alloc HW0.out.size (.cells #[.int .i64 kd, .string nm, .int .i64 n, .int .i64 tk, .slice ta tn tc, .slice a es.length cap] 51)))
    have HC0 := Lib.hid hcell; have HC1 := Lib.hid hfroz
    clear hcell hfroz
    go_enter Tryd.func112, Tryd.ntmps112
    go_wp2_with fail
    refine (implFits d _ kd nm n ty es _ HWX.out HBK.out HTB.out).mono ?_
    rintro e w2 ⟨rfl, hb2⟩
    have B2 := Lib.hid (below_on (below_alloc w _) hb2 (by simp))
    have XA := Lib.hid ((BoxAt.new w #[.int .i64 kd, .string nm, .int .i64 n, .int .i64 tk, .slice ta tn tc, .slice a es.length cap] 51).below hb2)
    have R2 := Lib.hid (room_start hp B2.out HC0.out HC1.out)
    clear hb2 HWX HTB
    obtain ⟨hz2, e0, e1⟩ : w.heap.size ≤ w2.heap.size ∧ w2.cell? ⟨p, 0, none⟩ = some (.int .i64 r) ∧ w2.frozen? ⟨p, 0, none⟩ = false := ⟨B2.out.size, R2.out.1, R2.out.2.1⟩
    have b0 := XA.out.2 0
    have b1 := XA.out.2 1
    have b2 := XA.out.2 2
    have b3 := XA.out.2 3
    have b4 := XA.out.2 4
    have b5 := XA.out.2 5
    cases hfit : fitsB kd nm n ty es.length with
    | false =>
      have HNO := Lib.hid (xwithin_form (r := r) (dp := dp) (show (Ex.node kd nm n ty es).form = false by simp [Ex.form, hfit]))
      clear hfit
      go_wp2_with fail
      go_ret
      exact XEnd.of HNO.out R2.out (fun h => by cases h)
    | true =>
      have HFIT := Lib.hid hfit; clear hfit
      by_cases q : kd = 14
      · subst q
        have hl : es.length = 1 := by
          have h := HFIT.out
          simp only [fitsB, Bool.and_eq_true, decide_eq_true_eq] at h
          have h1 : (es.length : Int) = 1 := h.1
          omega
        obtain ⟨b, off, x0, x1, x2, x3, x4, x5, rfl, hbl, hc0, hc1, hc2, hc3, hc4, hc5, ht⟩ := HAT.out 0 (by omega)
        have hg := Ex.bulk_get es 0 (by omega)
        have HS2 := HSZ.out
        obtain ⟨yk, ynm, yn, ytk, yta, ytn, ytc, ya, ym, yc, rfl, rfl, rfl, rfl, rfl, rfl⟩ := ex_cells ht
        simp only [Nat.zero_mul, Nat.add_zero] at hc0 hc1 hc2 hc3 hc4 hc5
        have a0 : w2.cell? ⟨b, off, none⟩ = some (.int .i64 yk) := by rw [((HW0.out.trans (B2.out.mono HW0.out.size)).cell (p := ⟨b, off, none⟩) hbl)]; exact hc0
        have a1 : w2.cell? ⟨b, off + 1, none⟩ = some (.string ynm) := by rw [((HW0.out.trans (B2.out.mono HW0.out.size)).cell (p := ⟨b, off + 1, none⟩) hbl)]; exact hc1
        have a2 : w2.cell? ⟨b, off + 2, none⟩ = some (.int .i64 yn) := by rw [((HW0.out.trans (B2.out.mono HW0.out.size)).cell (p := ⟨b, off + 2, none⟩) hbl)]; exact hc2
        have a3 : w2.cell? ⟨b, off + 3, none⟩ = some (.int .i64 ytk) := by rw [((HW0.out.trans (B2.out.mono HW0.out.size)).cell (p := ⟨b, off + 3, none⟩) hbl)]; exact hc3
        have a4 : w2.cell? ⟨b, off + 4, none⟩ = some (.slice yta ytn ytc) := by rw [((HW0.out.trans (B2.out.mono HW0.out.size)).cell (p := ⟨b, off + 4, none⟩) hbl)]; exact hc4
        have a5 : w2.cell? ⟨b, off + 5, none⟩ = some (.slice ya ym yc) := by rw [((HW0.out.trans (B2.out.mono HW0.out.size)).cell (p := ⟨b, off + 5, none⟩) hbl)]; exact hc5
        obtain ⟨x, hx⟩ := List.length_eq_one_iff.1 hl
        have hx0 : es[0] = x := by subst hx; rfl
        have hkind : x.kind = yk := by rw [← hx0]; exact ex_kind ht
        have hgx : 1 + x.bulk ≤ Ex.bulks es := by rw [← hx0]; exact hg
        have HT : Hid (ExAt w0 d (.agg #[.int .i64 yk, .string ynm, .int .i64 yn, .int .i64 ytk, .slice yta ytn ytc, .slice ya ym yc]) x) := by show ExAt _ _ _ _; rw [← hx0]; exact ht
        have HX := Lib.hid hx
        have HL := Lib.hid hl
        have hpos : 0 < es.length := by omega
        have HKIND := Lib.hid hkind
        clear hc0 hc1 hc2 hc3 hc4 hc5 ht hx hx0 hg hl hkind
        by_cases q2 : yk = 14
        · subst q2
          have HNO := Lib.hid (xwithin_form (r := r) (dp := dp) (show (Ex.node 14 nm n ty es).form = false by rw [HX.out]; have h := HKIND.out; simp [Ex.form, bareB, h]))
          go_wp2_with fail
          go_ret
          exact XEnd.of HNO.out R2.out (fun h => by cases h)
        · have q2b : (yk == 14) = false := by simp [q2]
          have q2c : (yk != 14) = true := by simp [q2]
          have HEQ := Lib.hid (show xwithin (.node 14 nm n ty es) r dp = xwithin x r dp by rw [HX.out]; exact xwithin_mark (by have := HFIT.out; rw [HL.out] at this; exact this) (by rw [HKIND.out]; exact q2))
          have HCT : Hid ((Ex.node 14 nm n ty es).count = x.count) := by show _ = _; rw [HX.out]; simp [Ex.count, Ex.counts]
          have HB20 := Lib.hid (HW0.out.trans (B2.out.mono HW0.out.size))
          go_wp2_with fail
          refine (IH.out _ x p r dp w2 HT.out HB20.out hp0 (by omega) (by omega) hr0 hr1 hd0 hd1 e0 e1).mono ?_
          rintro e w3 ⟨r3, rfl, hR3, h3⟩
          have HR3 := Lib.hid (R2.out.on hR3)
          have H3 := Lib.hid h3
          clear hR3 h3
          go_wp2_with fail
          go_ret
          exact XEnd.of HEQ.out HR3.out (fun h => by rw [HCT.out]; exact H3.out h)
      · have qb0 : (kd == 14) = false := by simp [q]
        have HFIN : Hid ((Ex.node kd nm n ty es).count = 1 + Ex.counts es) := by show _ = _; simp [Ex.count, q]
        have HHI : Hid ((Ex.node kd nm n ty es).high = Ex.highs es + 1) := by show _ = _; simp [Ex.high, q]
        have R3 := Lib.hid (Room.stored (r := r - 1) hp B2.out e0 e1)
        have hpw : ¬ (p = w.heap.size) := by omega
        have EARLY : Hid (r < 1 ∨ dp = 0 → xwithin (.node kd nm n ty es) r dp = false) := fun h => by
          cases hw : xwithin (.node kd nm n ty es) r dp with
          | false => rfl
          | true =>
            obtain ⟨w1, w2, w3⟩ := xwithin_true hw
            rw [HFIN.out] at w1
            rw [HHI.out] at w2
            omega
        by_cases hr : r < 1
        · go_wp2_with fail
          go_ret
          exact XEnd.of (EARLY.out (Or.inl hr)) R3.out (fun h => by cases h)
        by_cases hd : dp = 0
        · have hdb : (dp == 0) = true := by simp [hd]
          go_wp2_with fail
          go_ret
          exact XEnd.of (EARLY.out (Or.inr hd)) R3.out (fun h => by cases h)
        have hdb : (dp == 0) = false := by simp [hd]
        clear EARLY
        have HXA3 := Lib.hid (XA.out.stored (q := p) (j := 0) (u := .int .i64 (r - 1)) (fun h => hpw h.symm))
        have HZ3 : Hid (w2.heap.size ≤ (w2.setCell ⟨p, 0, none⟩ (.int .i64 (r - 1))).heap.size) := by show _ ≤ _; simp
        go_wp2_with fail
        go_loopw [46] (fun i wr => ∃ k : Nat, k ≤ es.length ∧ i = .int .i64 k ∧ 0 ≤ r - 1 - (Ex.counts (es.take k) : Int) ∧ (Ex.highs (es.take k) : Int) ≤ dp - 1 ∧ Ex.forms (es.take k) = true ∧ Room p (r - 1 - Ex.counts (es.take k)) w wr ∧ BoxAt wr w.heap.size #[.int .i64 kd, .string nm, .int .i64 n, .int .i64 tk, .slice ta tn tc, .slice a es.length cap]) (fun i _ => es.length - (intOf i).toNat)
        case atStart => exact ⟨0, by omega, rfl, by simp [Ex.counts]; omega, by simp [Ex.highs]; omega, by simp [Ex.forms], by simpa [Ex.counts] using R3.out, HXA3.out⟩
        case round =>
          obtain ⟨k, hk, rfl, hs, hds, hf, hroom, hbx⟩ := hrel
          have b0 := hbx.2 0
          have b1 := hbx.2 1
          have b2 := hbx.2 2
          have b3 := hbx.2 3
          have b4 := hbx.2 4
          have b5 := hbx.2 5
          have HS := Lib.hid hs
          have HD := Lib.hid hds
          have HF := Lib.hid hf
          have HR := Lib.hid hroom
          have HX := Lib.hid hbx
          clear hs hds hf hroom hbx
          by_cases hlt : k < es.length
          · obtain ⟨b, off, x0, x1, x2, x3, x4, x5, rfl, hbl, hc0, hc1, hc2, hc3, hc4, hc5, ht⟩ := HAT.out k hlt
            have hg := Ex.bulk_get es k hlt
            have HS2 := HSZ.out
            obtain ⟨yk, ynm, yn, ytk, yta, ytn, ytc, ya, ym, yc, rfl, rfl, rfl, rfl, rfl, rfl⟩ := ex_cells ht
            have HB0r : Hid (Below w0.heap.size w0 wr) := HW0.out.trans (HR.out.2.2.1.mono hp0)
            have g0 : wr.cell? ⟨b, off + k * 6, none⟩ = some (.int .i64 yk) := by rw [HB0r.out.cell (p := ⟨b, off + k * 6, none⟩) hbl]; exact hc0
            have g1 : wr.cell? ⟨b, off + k * 6 + 1, none⟩ = some (.string ynm) := by rw [HB0r.out.cell (p := ⟨b, off + k * 6 + 1, none⟩) hbl]; exact hc1
            have g2 : wr.cell? ⟨b, off + k * 6 + 2, none⟩ = some (.int .i64 yn) := by rw [HB0r.out.cell (p := ⟨b, off + k * 6 + 2, none⟩) hbl]; exact hc2
            have g3 : wr.cell? ⟨b, off + k * 6 + 3, none⟩ = some (.int .i64 ytk) := by rw [HB0r.out.cell (p := ⟨b, off + k * 6 + 3, none⟩) hbl]; exact hc3
            have g4 : wr.cell? ⟨b, off + k * 6 + 4, none⟩ = some (.slice yta ytn ytc) := by rw [HB0r.out.cell (p := ⟨b, off + k * 6 + 4, none⟩) hbl]; exact hc4
            have g5 : wr.cell? ⟨b, off + k * 6 + 5, none⟩ = some (.slice ya ym yc) := by rw [HB0r.out.cell (p := ⟨b, off + k * 6 + 5, none⟩) hbl]; exact hc5
            have HT := Lib.hid ht
            clear ht hc0 hc1 hc2 hc3 hc4 hc5
            have hzr : w.heap.size ≤ wr.heap.size := HR.out.2.2.1.size
            have HB0b := Lib.hid (HB0r.out.alloc HB0r.out.size (.cells #[.int .i64 yk, .string ynm, .int .i64 yn, .int .i64 ytk, .slice yta ytn ytc, .slice ya ym yc] 51))
            have HRb := Lib.hid (HR.out.below hp (below_alloc wr (.cells #[.int .i64 yk, .string ynm, .int .i64 yn, .int .i64 ytk, .slice yta ytn ytc, .slice ya ym yc] 51)))
            have HXb := Lib.hid (HX.out.below (below_alloc wr (.cells #[.int .i64 yk, .string ynm, .int .i64 yn, .int .i64 ytk, .slice yta ytn ytc, .slice ya ym yc] 51)))
            have hs0 := HS.out
            have hcl : (Ex.counts (es.take k) : Int) ≤ 1048576 := by have := Ex.counts_part es k; omega
            go_wp2_with fail
            refine (IH.out _ es[k] p (r - 1 - Ex.counts (es.take k)) (dp - 1) (wr.alloc (.cells #[.int .i64 yk, .string ynm, .int .i64 yn, .int .i64 ytk, .slice yta ytn ytc, .slice ya ym yc] 51)) HT.out HB0b.out hp0 (by omega) (by simp; omega) (by omega) (by omega) (by omega) (by omega) HRb.out.1 HRb.out.2.1).mono ?_
            rintro e w3 ⟨r3, rfl, hR3, h3⟩
            have HX3 := Lib.hid (BoxAt.kept HXb.out hR3.2.2.1.size (hR3.2.2.2 _ HXb.out.1 (fun h => hpw h.symm)))
            have HR3 := Lib.hid (HRb.out.on hR3)
            have H3 := Lib.hid h3
            clear hR3 h3
            have HT2 := Lib.hid (Ex.counts_take es k hlt)
            cases hw : xwithin es[k] (r - 1 - Ex.counts (es.take k)) (dp - 1) with
            | false =>
              have HNO := Lib.hid (xwithin_sub (nm := nm) (n := n) (ty := ty) (r := r) q hlt rfl hw)
              clear hw
              go_wp2_with fail
              go_ret
              exact XEnd.of HNO.out HR3.out (fun h => by cases h)
            | true =>
              obtain ⟨v1, v2, v3⟩ := xwithin_true hw
              have hr3 := H3.out hw
              have HHT := Lib.hid (Ex.highs_take es k hlt)
              have HFT := Lib.hid (Ex.forms_take es k hlt)
              have HV1 := Lib.hid v1
              have HV2 := Lib.hid v2
              have HV3 := Lib.hid v3
              have HRR := Lib.hid hr3
              clear hw v1 v2 v3 hr3
              go_wp2_with fail
              refine ⟨⟨k + 1, by omega, by go_num, ?_, ?_, ?_, ?_, HX3.out⟩, by simp [intOf]; omega⟩
              · have h1 := HV1.out; rw [HT2.out]; omega
              · have h1 := HV2.out; have h2 := HD.out; rw [HHT.out]; omega
              · rw [HFT.out, HF.out, HV3.out]; rfl
              · have h1 := HR3.out; rw [HRR.out] at h1; rw [HT2.out]; have e : r - 1 - (Ex.counts (es.take k) : Int) - (es[k].count : Int) = r - 1 - ((Ex.counts (es.take k) + es[k].count : Nat) : Int) := by omega
                rw [e] at h1; exact h1
          · obtain rfl : k = es.length := by omega
            have HNO : Hid (xwithin (.node kd nm n ty es) r dp = true) := by
              have h1 := HS.out
              have h2 := HD.out
              have h3 := HF.out
              rw [List.take_length] at h1 h2 h3
              refine xwithin_mk (by rw [HFIN.out]; omega) (by rw [HHI.out]; omega) ?_
              have e : bareB kd es = true := by cases es with | nil => rfl | cons x r => simp [bareB, q]
              have hft := HFIT.out
              simp only [Ex.form, h3, e, hft, Bool.and_self]
            have HRL : Hid (Room p (r - 1 - Ex.counts es) w wr) := by have := HR.out; rw [List.take_length] at this; exact this
            go_wp2_with fail
            go_ret
            exact XEnd.of HNO.out HRL.out (fun _ => by rw [HFIN.out]; omega)
theorem xwithin_valid (t : Ex) : xwithin t 40 12 = t.valid := by
  have e1 : decide ((t.count : Int) ≤ 40) = decide (t.count ≤ 40) := decide_eq_decide.2 (by omega)
  have e2 : decide ((t.high : Int) ≤ 12) = decide (t.high ≤ 12) := decide_eq_decide.2 (by omega)
  unfold xwithin Ex.valid
  rw [e1, e2]
set_option maxRecDepth 100000 in
set_option maxHeartbeats 1000000 in
theorem implExValid (d : Nat) (v : Value) (t : Ex) (w : World) (h : ExAt w d v t) (hsz : t.bulk ≤ 1048576) (htab : TabAt w) :
    Calls Tryd.prog 68 #[v] w fun e w' => e = .returned (.bool t.valid) ∧ Below w.heap.size w w' := by
  have HT := Lib.hid h
  obtain ⟨yk, ynm, yn, ytk, yta, ytn, ytc, ya, ym, yc, rfl⟩ := ex_parts h
  clear h
  have X : Hid (Below w.heap.size w ((w.alloc (.cells #[.int .i64 yk, .string ynm, .int .i64 yn, .int .i64 ytk, .slice yta ytn ytc, .slice ya ym yc] 51)).alloc (.cells #[.int .i64 40] 3))) := ((Below.refl _ _).alloc (Nat.le_refl _) _).alloc (by simp) _
  go_enter Tryd.func68, Tryd.ntmps68
  go_wp2_with fail
  refine (implExWithin w htab d _ t (w.heap.size + 1) 40 12 _ HT.out X.out (by omega) hsz (by simp) (by omega) (by omega) (by omega) (by omega) (by simp [go_sem]) (by simp [go_sem])).mono ?_
  rintro e w' ⟨r', rfl, hr, _⟩
  have HB := Lib.hid (X.out.trans (hr.2.2.1.mono (Nat.le_succ _)))
  clear hr
  go_wp2_with fail
  go_ret
  exact ⟨by rw [xwithin_valid]; rfl, HB.out⟩
end Go.Proofs.YtdgfkmnnjhlpbaaDoor
/-
  Proved: FormatExpr gives the text of a valid expression, the empty text for others; the memory that was there stays as it was. On these terms: the table of arities and the library's table of powers of ten hold what the program's text lays.
-/
namespace Go.Proofs.YtdgfkmnnjhlpbaaDoor
open Go.RowKit

def ExTabs (w : World) : Prop := TabAt w ∧ Pow10At w
theorem ExTabs.below {w w' : World} (h : ExTabs w) (hb : Below w.heap.size w w') : ExTabs w' := ⟨h.1.below hb, h.2.below hb⟩
set_option maxRecDepth 100000 in
set_option maxHeartbeats 1000000 in
theorem specFormatExpr (d : Nat) (v : Value) (t : Ex) (w : World) (h : ExAt w d v t) (hsz : t.bulk ≤ 1048576) :
    Calls Tryd.prog 22 #[v] w fun e w' => e = .returned (.string t.shown) ∧ Below w.heap.size w w' := by
  have HT := Lib.hid h
  obtain ⟨yk, ynm, yn, ytk, yta, ytn, ytc, ya, ym, yc, rfl⟩ := ex_parts h
  clear h
  have B : Hid (Below w.heap.size w (w.alloc (.cells #[.int .i64 yk, .string ynm, .int .i64 yn, .int .i64 ytk, .slice yta ytn ytc, .slice ya ym yc] 51))) := below_alloc _ _
  have HA := Lib.hid (HT.out.below B.out)
  have XA : Hid (BoxAt (w.alloc (.cells #[.int .i64 yk, .string ynm, .int .i64 yn, .int .i64 ytk, .slice yta ytn ytc, .slice ya ym yc] 51)) w.heap.size #[.int .i64 yk, .string ynm, .int .i64 yn, .int .i64 ytk, .slice yta ytn ytc, .slice ya ym yc]) := BoxAt.new _ _ _
  clear HT
  go_enter Tryd.func22, Tryd.ntmps22
  go_wp2_with fail
  refine (specExValid d _ t _ HA.out hsz).mono ?_
  rintro e w1 ⟨rfl, hb⟩
  replace B := Lib.hid (below_thru B.out (Nat.le_refl _) hb)
  replace HA := Lib.hid (HA.out.below hb)
  replace XA := Lib.hid (XA.out.below hb)
  clear hb
  cases hv : t.valid with
  | false =>
    have HV := Lib.hid (shown_bad hv); clear hv
    go_wp2_with fail
    go_ret
    exact ⟨by rw [HV.out]; rfl, B.out⟩
  | true =>
    have HV := Lib.hid (shown_good hv)
    have hfm : t.form = true := by simp only [Ex.valid, Bool.and_eq_true] at hv; exact hv.2.2
    clear hv
    have a0 := XA.out.2 0
    have a1 := XA.out.2 1
    have a2 := XA.out.2 2
    have a3 := XA.out.2 3
    have a4 := XA.out.2 4
    have a5 := XA.out.2 5
    go_wp2_with fail
    refine (specExText d _ t _ HA.out hfm hsz).mono ?_
    rintro e w2 ⟨rfl, hb⟩
    have B2 := Lib.hid (below_thru B.out (Nat.le_refl _) hb)
    clear hb hfm
    go_wp2_with fail
    go_ret
    exact ⟨by rw [HV.out]; rfl, B2.out⟩
set_option maxRecDepth 100000 in
set_option maxHeartbeats 1000000 in
theorem implFormatExpr (d : Nat) (v : Value) (t : Ex) (w : World) (h : ExAt w d v t) (hsz : t.bulk ≤ 1048576) (htab : ExTabs w) :
    Calls Tryd.prog 24 #[v] w fun e w' => e = .returned (.string t.shown) ∧ Below w.heap.size w w' := by
  have HT := Lib.hid h
  obtain ⟨yk, ynm, yn, ytk, yta, ytn, ytc, ya, ym, yc, rfl⟩ := ex_parts h
  clear h
  have B : Hid (Below w.heap.size w (w.alloc (.cells #[.int .i64 yk, .string ynm, .int .i64 yn, .int .i64 ytk, .slice yta ytn ytc, .slice ya ym yc] 51))) := below_alloc _ _
  have HA := Lib.hid (HT.out.below B.out)
  have XA : Hid (BoxAt (w.alloc (.cells #[.int .i64 yk, .string ynm, .int .i64 yn, .int .i64 ytk, .slice yta ytn ytc, .slice ya ym yc] 51)) w.heap.size #[.int .i64 yk, .string ynm, .int .i64 yn, .int .i64 ytk, .slice yta ytn ytc, .slice ya ym yc]) := BoxAt.new _ _ _
  have HTB := Lib.hid (htab.below B.out)
  clear htab
  clear HT
  go_enter Tryd.func24, Tryd.ntmps24
  go_wp2_with fail
  refine (implExValid d _ t _ HA.out hsz HTB.out.1).mono ?_
  rintro e w1 ⟨rfl, hb⟩
  replace B := Lib.hid (below_thru B.out (Nat.le_refl _) hb)
  replace HA := Lib.hid (HA.out.below hb)
  replace XA := Lib.hid (XA.out.below hb)
  replace HTB := Lib.hid (HTB.out.below hb)
  clear hb
  cases hv : t.valid with
  | false =>
    have HV := Lib.hid (shown_bad hv); clear hv
    go_wp2_with fail
    go_ret
    exact ⟨by rw [HV.out]; rfl, B.out⟩
  | true =>
    have HV := Lib.hid (shown_good hv)
    have hfm : t.form = true := by simp only [Ex.valid, Bool.and_eq_true] at hv; exact hv.2.2
    clear hv
    have a0 := XA.out.2 0
    have a1 := XA.out.2 1
    have a2 := XA.out.2 2
    have a3 := XA.out.2 3
    have a4 := XA.out.2 4
    have a5 := XA.out.2 5
    go_wp2_with fail
    refine (implExText d _ t _ HA.out hfm hsz HTB.out.2).mono ?_
    rintro e w2 ⟨rfl, hb⟩
    have B2 := Lib.hid (below_thru B.out (Nat.le_refl _) hb)
    clear hb hfm
    go_wp2_with fail
    go_ret
    exact ⟨by rw [HV.out]; rfl, B2.out⟩
end Go.Proofs.YtdgfkmnnjhlpbaaDoor
/-
  Proved: plain facts on the texts of lists of changes; no program.
-/
namespace Go.Proofs.YtdgfkmnnjhlpbaaDoor
open Go.RowKit

theorem pathText_size (ns : List Int) (hr : i64s ns) : (pathText ns).size ≤ 22 * ns.length + 1 := by
  cases ns with
  | nil => show 1 ≤ _; omega
  | cons n r =>
    have h1 := joined_len (numerals (n :: r)) ⟨#[46]⟩ (numerals (n :: r)).length (Nat.le_refl _)
    rw [joined_all, List.take_length] at h1
    have h2 := numerals_total (n :: r) hr
    rw [numerals_length] at h1
    have h3 : (ByteArray.mk #[46]).size = 1 := rfl
    rw [h3] at h1
    show (Lib.join _ _).toArray.size ≤ _
    rw [List.size_toArray]
    exact Nat.le_trans h1 (by omega)
def Chr.say (c : Chr) : ByteArray := pathText c.path ++ ⟨#[58]⟩ ++ c.ex.shown
def chTexts : List Chr → List ByteArray
  | [] => []
  | c :: r => c.say :: chTexts r
def chText (l : List Chr) : ByteArray := ⟨(Lib.join ((chTexts l).map (·.data.toList)) [59, 32]).toArray⟩
theorem chTexts_length (l : List Chr) : (chTexts l).length = l.length := by
  induction l with
  | nil => rfl
  | cons a r ih => simp [chTexts, ih]
theorem chTexts_get (l : List Chr) : ∀ (k : Nat) (h : k < l.length) (h2 : k < (chTexts l).length), (chTexts l)[k] = l[k].say := by
  induction l with
  | nil => intro k h; simp at h
  | cons a r ih =>
    intro k h h2
    cases k with
    | zero => rfl
    | succ k => simp only [chTexts, List.getElem_cons_succ]; exact ih k (by simpa using h) _
theorem chTexts_take (l : List Chr) : ∀ (k : Nat) (h : k < l.length), chTexts (l.take (k + 1)) = chTexts (l.take k) ++ [l[k].say] := by
  induction l with
  | nil => intro k h; simp at h
  | cons a r ih =>
    intro k h
    cases k with
    | zero => simp [chTexts]
    | succ k => simp only [List.take_succ_cons, chTexts, List.getElem_cons_succ, List.cons_append]; rw [ih k (by simpa using h)]
theorem say_size (c : Chr) (hr : i64s c.path) : c.say.size ≤ 62 * (1 + c.bulk) := by
  have h1 := pathText_size c.path hr
  have h2 := shown_size c.ex
  have h3 : (ByteArray.mk #[58]).size = 1 := rfl
  have h4 : c.bulk = c.path.length + c.ex.bulk := rfl
  unfold Chr.say
  rw [ByteArray.size_append, ByteArray.size_append, h3, h4]
  omega
theorem chTexts_size : ∀ l : List Chr, (∀ c ∈ l, i64s c.path) → total (chTexts l) ≤ 62 * Chr.bulks l
  | [], _ => by simp [chTexts, total]
  | c :: r, h => by
    have h1 := say_size c (h c (by simp))
    have h2 := chTexts_size r fun x hx => h x (by simp [hx])
    simp only [chTexts, total, Chr.bulks]
    omega
theorem chrs_ranged {w : World} {d : Nat} {v : Value} {l : List Chr} (h : ChrsAt w d v l) : ∀ c ∈ l, i64s c.path := by
  obtain ⟨a, cap, _, _, _, hat⟩ := h
  intro c hc
  obtain ⟨j, hj, rfl⟩ := List.getElem_of_mem hc
  obtain ⟨b, off, c0, c1, c2, c3, c4, c5, c6, _, _, _, _, _, _, _, _, _, ht⟩ := hat j hj
  obtain ⟨_, _, _, _, _, _, _, _, _, _, _, _, _, _, hp, _⟩ := ht
  exact hp.2
end Go.Proofs.YtdgfkmnnjhlpbaaDoor
/-
  Proved: spec.ChangesText gives the texts of the changes, a semicolon and a blank between them; the memory that was there stays as it was.
-/
namespace Go.Proofs.YtdgfkmnnjhlpbaaDoor
open Go.RowKit

set_option maxRecDepth 100000 in
set_option maxHeartbeats 4000000 in
theorem specChText (d : Nat) (v : Value) (l : List Chr) (w : World) (h : ChrsAt w d v l) (hsz : Chr.bulks l ≤ 1048576) :
    Calls Tryd.prog 27 #[v] w fun e w' => e = .returned (.string (chText l)) ∧ Below w.heap.size w w' := by
  obtain ⟨i0, hi, hz0, hz1, hz2⟩ := info_parts info_str
  have HI := Lib.hid hi; clear hi
  have HZ0 := Lib.hid hz0; clear hz0
  have HZ1 := Lib.hid hz1; clear hz1
  have HZ2 := Lib.hid hz2; clear hz2
  have HRG := Lib.hid (chrs_ranged h)
  have HSZ := Lib.hid hsz
  have hlen : l.length ≤ 1048576 := by have := Chr.length_le l; omega
  obtain ⟨a, cap, rfl, hcap, hcap2, hat⟩ := h
  have HAT := Lib.hid hat; clear hat hsz
  have HTL : Hid ((chTexts l).length = l.length) := chTexts_length l
  have HTOT : Hid (total (chTexts l) ≤ 65011712) := by show _ ≤ _; have h1 := chTexts_size l HRG.out; have h2 := HSZ.out; omega
  go_enter Tryd.func27, Tryd.ntmps27
  go_wp2_with fail
  go_loopw [3, 4] (fun v i wr => ∃ k : Nat, k ≤ l.length ∧ i = .int .i64 k ∧ wr.ownsRow w.heap.size 9 1 v k ((chTexts (l.take k)).map Value.string) ∧ Below w.heap.size w wr) (fun _ i _ => l.length - (intOf i).toNat)
  case atStart => exact ⟨0, by omega, rfl, by simpa [chTexts] using World.ownsRow_made w #[] 0 (Nat.le_refl _) (Nat.zero_le _) rfl, (Below.refl _ _).alloc (Nat.le_refl _) _⟩
  case round =>
    obtain ⟨k, hk, rfl, hown, hb⟩ := hrel
    have HO2 := Lib.hid hown; clear hown
    have HB2 := Lib.hid hb; clear hb
    by_cases hlt : k < l.length
    · obtain ⟨b, off, x0, x1, x2, x3, x4, x5, x6, rfl, hbl, hc0, hc1, hc2, hc3, hc4, hc5, hc6, ht⟩ := HAT.out k hlt
      have hg := Chr.bulk_get l k hlt
      have hbk : l[k].bulk = l[k].path.length + l[k].ex.bulk := rfl
      have hpl : l[k].path.length ≤ 1048576 := by have := HSZ.out; omega
      have hxb : l[k].ex.bulk ≤ 1048576 := by have := HSZ.out; omega
      have HRK := Lib.hid (HRG.out l[k] (List.getElem_mem hlt))
      have m0 : ¬ (9223372036854775807 < (pathText l[k].path).size + 1) := by have := pathText_size l[k].path HRK.out; omega
      have m1 : ¬ (9223372036854775807 < (pathText l[k].path).size + 1 + l[k].ex.shown.size) := by have h1 := pathText_size l[k].path HRK.out; have h2 := shown_size l[k].ex; omega
      obtain ⟨pa, pn, pc, yk, ynm, yn, ytk, yta, ytn, ytc, ya, ym, yc, hv, hp, he⟩ := ht
      injection hv with hv
      injection hv with hv
      simp only [List.cons.injEq, and_true] at hv
      obtain ⟨rfl, rfl, rfl, rfl, rfl, rfl, rfl⟩ := hv
      have HINT := Lib.hid (hp.1.1.below HB2.out)
      have HTE := Lib.hid (he.below HB2.out)
      have e0 : wr.cell? ⟨b, off + k * 7, none⟩ = some (.slice pa pn pc) := (HB2.out.cell (p := ⟨b, off + k * 7, none⟩) hbl).trans hc0
      have e1 : wr.cell? ⟨b, off + k * 7 + 1, none⟩ = some (.int .i64 yk) := (HB2.out.cell (p := ⟨b, off + k * 7 + 1, none⟩) hbl).trans hc1
      have e2 : wr.cell? ⟨b, off + k * 7 + 2, none⟩ = some (.string ynm) := (HB2.out.cell (p := ⟨b, off + k * 7 + 2, none⟩) hbl).trans hc2
      have e3 : wr.cell? ⟨b, off + k * 7 + 3, none⟩ = some (.int .i64 yn) := (HB2.out.cell (p := ⟨b, off + k * 7 + 3, none⟩) hbl).trans hc3
      have e4 : wr.cell? ⟨b, off + k * 7 + 4, none⟩ = some (.int .i64 ytk) := (HB2.out.cell (p := ⟨b, off + k * 7 + 4, none⟩) hbl).trans hc4
      have e5 : wr.cell? ⟨b, off + k * 7 + 5, none⟩ = some (.slice yta ytn ytc) := (HB2.out.cell (p := ⟨b, off + k * 7 + 5, none⟩) hbl).trans hc5
      have e6 : wr.cell? ⟨b, off + k * 7 + 6, none⟩ = some (.slice ya ym yc) := (HB2.out.cell (p := ⟨b, off + k * 7 + 6, none⟩) hbl).trans hc6
      have HBL : Hid (b < wr.heap.size) := Nat.lt_of_lt_of_le hbl HB2.out.size
      clear hp he hc0 hc1 hc2 hc3 hc4 hc5 hc6 hg hbk
      obtain ⟨oa, oc, rfl⟩ := own_slice HO2.out
      go_wp2_with fail
      have hbd := below_drew wr
      replace HINT := Lib.hid (HINT.out.below hbd)
      replace HTE := Lib.hid (HTE.out.below hbd)
      replace HB2 := Lib.hid (below_thru HB2.out (Nat.le_refl _) hbd)
      replace HO2 := Lib.hid (own_below HO2.out hbd)
      replace e0 := (hbd.cell (p := ⟨b, off + k * 7, none⟩) HBL.out).trans e0
      replace e1 := (hbd.cell (p := ⟨b, off + k * 7 + 1, none⟩) HBL.out).trans e1
      replace e2 := (hbd.cell (p := ⟨b, off + k * 7 + 2, none⟩) HBL.out).trans e2
      replace e3 := (hbd.cell (p := ⟨b, off + k * 7 + 3, none⟩) HBL.out).trans e3
      replace e4 := (hbd.cell (p := ⟨b, off + k * 7 + 4, none⟩) HBL.out).trans e4
      replace e5 := (hbd.cell (p := ⟨b, off + k * 7 + 5, none⟩) HBL.out).trans e5
      replace e6 := (hbd.cell (p := ⟨b, off + k * 7 + 6, none⟩) HBL.out).trans e6
      replace HBL : Hid (b < _) := Nat.lt_of_lt_of_le HBL.out hbd.size
      clear hbd
      go_region_law (first
        | (refine step_append_lies _ (by rfl) (.tmp 12) (.tmp 27) 80 (by rfl) w.heap.size 9 i0 (.string ⟨#[]⟩) 1 16 Tryd.underlying80 HI.out HZ0.out HZ1.out HZ2.out rfl (by omega) (.slice oa k oc) k ((chTexts (l.take k)).map Value.string) (by simp [Act.eval]) (HO2.out.alloc _) ⟨w'.heap.size, 0, none⟩ 1 1 [.string (pathText l[k].path ++ ⟨#[58]⟩ ++ l[k].ex.shown)] (by simp [Act.eval]) rfl (new_one _ _ _) (by simp [Value.oneCell']) (by omega) (by unfold maxLen; omega) (by omega) (by have := HB2.out.size; simp; omega) (w'.heap.size + 1) (by simp) ?_
           intro g gc w1 hown1 hgrow hat1 hlt1
           have HBW : Hid (Below w.heap.size w w1) := (HB2.out.alloc HB2.out.size _).grown hgrow (by have := HB2.out.size; simp; omega) (fun k hk => (HO2.out.lt k hk).1)
           have HOW : Hid (w1.ownsRow w.heap.size 9 1 (.slice (some ⟨g, 0, none⟩) (k + 1) gc) (k + 1) ((chTexts (l.take (k + 1))).map Value.string)) := by rw [chTexts_take l k hlt, List.map_append]; exact hown1
           clear hown1 hgrow hat1 hlt1)
        | (go_simp
           go_at_call 72
           refine (specPathText _ l[k].path hpl HRK.out _ HINT.out).mono ?_
           rintro e w' ⟨rfl, hb⟩
           replace HINT := Lib.hid (HINT.out.below hb)
           replace HTE := Lib.hid (HTE.out.below hb)
           replace HB2 := Lib.hid (below_thru HB2.out (Nat.le_refl _) hb)
           replace HO2 := Lib.hid (own_below HO2.out hb)
           replace e0 := (hb.cell (p := ⟨b, off + k * 7, none⟩) HBL.out).trans e0
           replace e1 := (hb.cell (p := ⟨b, off + k * 7 + 1, none⟩) HBL.out).trans e1
           replace e2 := (hb.cell (p := ⟨b, off + k * 7 + 2, none⟩) HBL.out).trans e2
           replace e3 := (hb.cell (p := ⟨b, off + k * 7 + 3, none⟩) HBL.out).trans e3
           replace e4 := (hb.cell (p := ⟨b, off + k * 7 + 4, none⟩) HBL.out).trans e4
           replace e5 := (hb.cell (p := ⟨b, off + k * 7 + 5, none⟩) HBL.out).trans e5
           replace e6 := (hb.cell (p := ⟨b, off + k * 7 + 6, none⟩) HBL.out).trans e6
           replace HBL : Hid (b < _) := Nat.lt_of_lt_of_le HBL.out hb.size
           clear hb)
        | (go_simp
           go_at_call 22
           refine (specFormatExpr d _ l[k].ex _ HTE.out hxb).mono ?_
           rintro e w' ⟨rfl, hb⟩
           replace HINT := Lib.hid (HINT.out.below hb)
           replace HTE := Lib.hid (HTE.out.below hb)
           replace HB2 := Lib.hid (below_thru HB2.out (Nat.le_refl _) hb)
           replace HO2 := Lib.hid (own_below HO2.out hb)
           replace e0 := (hb.cell (p := ⟨b, off + k * 7, none⟩) HBL.out).trans e0
           replace e1 := (hb.cell (p := ⟨b, off + k * 7 + 1, none⟩) HBL.out).trans e1
           replace e2 := (hb.cell (p := ⟨b, off + k * 7 + 2, none⟩) HBL.out).trans e2
           replace e3 := (hb.cell (p := ⟨b, off + k * 7 + 3, none⟩) HBL.out).trans e3
           replace e4 := (hb.cell (p := ⟨b, off + k * 7 + 4, none⟩) HBL.out).trans e4
           replace e5 := (hb.cell (p := ⟨b, off + k * 7 + 5, none⟩) HBL.out).trans e5
           replace e6 := (hb.cell (p := ⟨b, off + k * 7 + 6, none⟩) HBL.out).trans e6
           replace HBL : Hid (b < _) := Nat.lt_of_lt_of_le HBL.out hb.size
           clear hb))
      all_goals
        go_wp2_with fail
        exact ⟨⟨k + 1, by omega, by go_num, HOW.out, HBW.out⟩, by simp [intOf]; omega⟩
    · obtain rfl : k = l.length := by omega
      have HL := HO2.out
      rw [List.take_length, ← HTL.out] at HL
      have HS := Lib.hid (Strs.of_own HL)
      obtain ⟨oa, oc, rfl⟩ := own_slice HL
      clear HL HO2
      go_wp2_with fail
      refine (specJoin _ (chTexts l) ⟨#[59, 32]⟩ (by rw [HTL.out]; exact hlen) (by have := HTOT.out; omega) (by decide) _ HS.out).mono ?_
      rintro e w1 ⟨rfl, hb1⟩
      have HB1 := Lib.hid (below_thru HB2.out (Nat.le_refl _) hb1)
      clear hb1
      go_wp2_with fail
      go_ret
      exact ⟨rfl, HB1.out⟩
end Go.Proofs.YtdgfkmnnjhlpbaaDoor
/-
  Proved: impl.ChangesText gives the texts of the changes, a semicolon and a blank between them; the memory that was there stays as it was.
-/
namespace Go.Proofs.YtdgfkmnnjhlpbaaDoor
open Go.RowKit

set_option maxRecDepth 100000 in
set_option maxHeartbeats 4000000 in
theorem implChText (d : Nat) (v : Value) (l : List Chr) (w : World) (h : ChrsAt w d v l) (hsz : Chr.bulks l ≤ 1048576) (htab : ExTabs w) :
    Calls Tryd.prog 29 #[v] w fun e w' => e = .returned (.string (chText l)) ∧ Below w.heap.size w w' := by
  obtain ⟨i0, hi, hz0, hz1, hz2⟩ := info_parts info_str
  have HI := Lib.hid hi; clear hi
  have HZ0 := Lib.hid hz0; clear hz0
  have HZ1 := Lib.hid hz1; clear hz1
  have HZ2 := Lib.hid hz2; clear hz2
  have HRG := Lib.hid (chrs_ranged h)
  have HSZ := Lib.hid hsz
  have hlen : l.length ≤ 1048576 := by have := Chr.length_le l; omega
  obtain ⟨a, cap, rfl, hcap, hcap2, hat⟩ := h
  have HAT := Lib.hid hat; clear hat hsz
  have HTL : Hid ((chTexts l).length = l.length) := chTexts_length l
  have HTOT : Hid (total (chTexts l) ≤ 65011712) := by show _ ≤ _; have h1 := chTexts_size l HRG.out; have h2 := HSZ.out; omega
  have HTB := Lib.hid htab; clear htab
  go_enter Tryd.func29, Tryd.ntmps29
  go_wp2_with (at_make; refine wpList_make_full _ rfl _ _ 80 rfl w.heap.size 9 i0 (.string ⟨#[]⟩) 1 Tryd.underlying80 HI.out HZ0.out HZ1.out .i64 .i64 _ _ l.length rfl rfl rfl rfl (by rw [HZ2.out]; omega) (by unfold maxLen; omega) (Nat.le_refl _) ?_; intro w0 hown0 hg0; refine Hid.out ?_)
  refine Lib.hid ?_
  have hb0 : Below w.heap.size w w0 := (Below.refl _ w).grown hg0 (Nat.le_refl _) (fun k hk => by cases hk)
  have hown1 : w0.ownsRow w.heap.size 9 1 (.slice (some ⟨w.heap.size, 0, none⟩) l.length l.length) l.length (((chTexts l).take 0).map Value.string ++ List.replicate ((chTexts l).length - 0) (Value.string ⟨#[]⟩)) := by
    have : (madeCells (Value.string ⟨#[]⟩).cells (l.length * 1)).toList = List.replicate l.length (Value.string ⟨#[]⟩) := by rw [Nat.mul_one]; exact toList_madeCells_one _ _
    rw [this] at hown0; rw [HTL.out]; simpa using hown0
  have HO := Lib.hid hown1; clear hown1 hown0 hg0
  have HB := Lib.hid hb0; clear hb0
  go_wp2_with fail
  go_loopw [11] (fun i wr => ∃ k : Nat, k ≤ l.length ∧ i = .int .i64 k ∧ wr.ownsRow w.heap.size 9 1 (.slice (some ⟨w.heap.size, 0, none⟩) l.length l.length) l.length (((chTexts l).take k).map Value.string ++ List.replicate ((chTexts l).length - k) (Value.string ⟨#[]⟩)) ∧ Below w.heap.size w wr) (fun i _ => l.length - (intOf i).toNat)
  case atStart => exact ⟨0, by omega, rfl, HO.out, HB.out⟩
  case round =>
    obtain ⟨k, hk, rfl, hown, hb⟩ := hrel
    have HO2 := Lib.hid hown; clear hown
    have HB2 := Lib.hid hb; clear hb
    by_cases hlt : k < l.length
    · obtain ⟨b, off, x0, x1, x2, x3, x4, x5, x6, rfl, hbl, hc0, hc1, hc2, hc3, hc4, hc5, hc6, ht⟩ := HAT.out k hlt
      have hg := Chr.bulk_get l k hlt
      have hbk : l[k].bulk = l[k].path.length + l[k].ex.bulk := rfl
      have hpl : l[k].path.length ≤ 1048576 := by have := HSZ.out; omega
      have hxb : l[k].ex.bulk ≤ 1048576 := by have := HSZ.out; omega
      have HRK := Lib.hid (HRG.out l[k] (List.getElem_mem hlt))
      have m0 : ¬ (9223372036854775807 < (pathText l[k].path).size + 1) := by have := pathText_size l[k].path HRK.out; omega
      have m1 : ¬ (9223372036854775807 < (pathText l[k].path).size + 1 + l[k].ex.shown.size) := by have h1 := pathText_size l[k].path HRK.out; have h2 := shown_size l[k].ex; omega
      obtain ⟨pa, pn, pc, yk, ynm, yn, ytk, yta, ytn, ytc, ya, ym, yc, hv, hp, he⟩ := ht
      injection hv with hv
      injection hv with hv
      simp only [List.cons.injEq, and_true] at hv
      obtain ⟨rfl, rfl, rfl, rfl, rfl, rfl, rfl⟩ := hv
      have HINT := Lib.hid (hp.1.1.below HB2.out)
      have HTE := Lib.hid (he.below HB2.out)
      have e0 : wr.cell? ⟨b, off + k * 7, none⟩ = some (.slice pa pn pc) := (HB2.out.cell (p := ⟨b, off + k * 7, none⟩) hbl).trans hc0
      have e1 : wr.cell? ⟨b, off + k * 7 + 1, none⟩ = some (.int .i64 yk) := (HB2.out.cell (p := ⟨b, off + k * 7 + 1, none⟩) hbl).trans hc1
      have e2 : wr.cell? ⟨b, off + k * 7 + 2, none⟩ = some (.string ynm) := (HB2.out.cell (p := ⟨b, off + k * 7 + 2, none⟩) hbl).trans hc2
      have e3 : wr.cell? ⟨b, off + k * 7 + 3, none⟩ = some (.int .i64 yn) := (HB2.out.cell (p := ⟨b, off + k * 7 + 3, none⟩) hbl).trans hc3
      have e4 : wr.cell? ⟨b, off + k * 7 + 4, none⟩ = some (.int .i64 ytk) := (HB2.out.cell (p := ⟨b, off + k * 7 + 4, none⟩) hbl).trans hc4
      have e5 : wr.cell? ⟨b, off + k * 7 + 5, none⟩ = some (.slice yta ytn ytc) := (HB2.out.cell (p := ⟨b, off + k * 7 + 5, none⟩) hbl).trans hc5
      have e6 : wr.cell? ⟨b, off + k * 7 + 6, none⟩ = some (.slice ya ym yc) := (HB2.out.cell (p := ⟨b, off + k * 7 + 6, none⟩) hbl).trans hc6
      have HBL : Hid (b < wr.heap.size) := Nat.lt_of_lt_of_le hbl HB2.out.size
      clear hp he hc0 hc1 hc2 hc3 hc4 hc5 hc6 hg hbk
      have hlt2 : k < (chTexts l).length := by rw [HTL.out]; exact hlt
      have hp1 := below_box wr (.cells #[.slice pa pn pc, .int .i64 yk, .string ynm, .int .i64 yn, .int .i64 ytk, .slice yta ytn ytc, .slice ya ym yc] 97)
      have XC : Hid (BoxAt (wr.alloc (.cells #[.slice pa pn pc, .int .i64 yk, .string ynm, .int .i64 yn, .int .i64 ytk, .slice yta ytn ytc, .slice ya ym yc] 97)) wr.heap.size #[.slice pa pn pc, .int .i64 yk, .string ynm, .int .i64 yn, .int .i64 ytk, .slice yta ytn ytc, .slice ya ym yc]) := BoxAt.new _ _ _
      have HTW := Lib.hid (HTB.out.below HB2.out)
      replace HINT := Lib.hid (HINT.out.below hp1)
      replace HTE := Lib.hid (HTE.out.below hp1)
      replace HB2 := Lib.hid (below_thru HB2.out (Nat.le_refl _) hp1)
      replace HO2 := Lib.hid (own_below HO2.out hp1)
      replace HTW := Lib.hid (HTW.out.below hp1)
      clear hp1
      go_wp2_with fail
      clear e0 e1 e2 e3 e4 e5 e6
      have hbd := below_drew (wr.alloc (.cells #[.slice pa pn pc, .int .i64 yk, .string ynm, .int .i64 yn, .int .i64 ytk, .slice yta ytn ytc, .slice ya ym yc] 97))
      replace HINT := Lib.hid (HINT.out.below hbd)
      replace HTE := Lib.hid (HTE.out.below hbd)
      replace HB2 := Lib.hid (below_thru HB2.out (Nat.le_refl _) hbd)
      replace HO2 := Lib.hid (own_below HO2.out hbd)
      replace HTW := Lib.hid (HTW.out.below hbd)
      replace XC := Lib.hid (XC.out.below hbd)
      clear hbd
      have c0 := XC.out.2 0
      have c1 := XC.out.2 1
      have c2 := XC.out.2 2
      have c3 := XC.out.2 3
      have c4 := XC.out.2 4
      have c5 := XC.out.2 5
      have c6 := XC.out.2 6
      have c7 : ∃ u, (wr.alloc (.cells #[.slice pa pn pc, .int .i64 yk, .string ynm, .int .i64 yn, .int .i64 ytk, .slice yta ytn ytc, .slice ya ym yc] 97)).drew.cell? ⟨w.heap.size, k, none⟩ = some u := by
        rw [HO2.out.cellAt k (by omega)]
        exact ⟨_, List.getElem?_eq_getElem (by simp; omega)⟩
      obtain ⟨u, c7⟩ := c7
      have f7 := HO2.out.frozenAt k
      go_region_law (first
        | (go_simp
           go_at_call 74
           refine (implPathText _ l[k].path hpl HRK.out _ HTW.out.2 HINT.out).mono ?_
           rintro e w' ⟨rfl, hb⟩
           replace HINT := Lib.hid (HINT.out.below hb)
           replace HTE := Lib.hid (HTE.out.below hb)
           replace HB2 := Lib.hid (below_thru HB2.out (Nat.le_refl _) hb)
           replace HO2 := Lib.hid (own_below HO2.out hb)
           replace HTW := Lib.hid (HTW.out.below hb)
           replace XC := Lib.hid (XC.out.below hb)
           clear hb c0 c1 c2 c3 c4 c5 c6 c7 f7
           have c0 := XC.out.2 0
           have c1 := XC.out.2 1
           have c2 := XC.out.2 2
           have c3 := XC.out.2 3
           have c4 := XC.out.2 4
           have c5 := XC.out.2 5
           have c6 := XC.out.2 6
           have c7 : ∃ u, w'.cell? ⟨w.heap.size, k, none⟩ = some u := by
             rw [HO2.out.cellAt k (by omega)]
             exact ⟨_, List.getElem?_eq_getElem (by simp; omega)⟩
           obtain ⟨u, c7⟩ := c7
           have f7 := HO2.out.frozenAt k)
        | (go_simp
           go_at_call 24
           refine (implFormatExpr d _ l[k].ex _ HTE.out hxb HTW.out).mono ?_
           rintro e w' ⟨rfl, hb⟩
           replace HINT := Lib.hid (HINT.out.below hb)
           replace HTE := Lib.hid (HTE.out.below hb)
           replace HB2 := Lib.hid (below_thru HB2.out (Nat.le_refl _) hb)
           replace HO2 := Lib.hid (own_below HO2.out hb)
           replace HTW := Lib.hid (HTW.out.below hb)
           replace XC := Lib.hid (XC.out.below hb)
           clear hb c0 c1 c2 c3 c4 c5 c6 c7 f7
           have c0 := XC.out.2 0
           have c1 := XC.out.2 1
           have c2 := XC.out.2 2
           have c3 := XC.out.2 3
           have c4 := XC.out.2 4
           have c5 := XC.out.2 5
           have c6 := XC.out.2 6
           have c7 : ∃ u, w'.cell? ⟨w.heap.size, k, none⟩ = some u := by
             rw [HO2.out.cellAt k (by omega)]
             exact ⟨_, List.getElem?_eq_getElem (by simp; omega)⟩
           obtain ⟨u, c7⟩ := c7
           have f7 := HO2.out.frozenAt k))
      all_goals
        have hst := HO2.out.stored k (.string (chTexts l)[k])
        rw [num_next (chTexts l) k hlt2] at hst
        have HS := Lib.hid hst; clear hst
        have HE : Hid ((chTexts l)[k] = l[k].say) := chTexts_get l k hlt hlt2
        rw [HE.out] at HS
        clear c0 c1 c2 c3 c4 c5 c6
        go_wp2_with fail
        exact ⟨⟨k + 1, by omega, by go_num, HS.out.1, HB2.out.setCell (Nat.le_refl _) _⟩, by simp [intOf]; omega⟩
    · obtain rfl : k = l.length := by omega
      have HL := HO2.out
      rw [← HTL.out, List.take_length, Nat.sub_self, List.replicate_zero, List.append_nil] at HL
      have HS := Lib.hid (Strs.of_own HL)
      clear HL HO2
      rw [HTL.out] at HS
      go_wp2_with fail
      refine (implJoin _ (chTexts l) ⟨#[59, 32]⟩ (by rw [HTL.out]; exact hlen) (by have := HTOT.out; omega) (by decide) _ HS.out).mono ?_
      rintro e w1 ⟨rfl, hb1⟩
      have HB1 := Lib.hid (below_thru HB2.out (Nat.le_refl _) hb1)
      clear hb1
      go_wp2_with fail
      go_ret
      exact ⟨rfl, HB1.out⟩
end Go.Proofs.YtdgfkmnnjhlpbaaDoor
/-
  Proved: the law FnExactChangesText answers true for every argument, and leaves the memory that was there as it was.
-/
namespace Go.Proofs.YtdgfkmnnjhlpbaaDoor
open Go.RowKit

set_option maxRecDepth 100000 in
set_option maxHeartbeats 2000000 in
theorem changesTextWalk (d : Nat) (v1 : Value) (t1 : List Chr) (w : World) (h1 : ChrsAt w d v1 t1) (htab : ExTabs w) :
    Calls Tryd.prog 6 #[v1] w fun e w' => e = .returned (.bool true) ∧ Below w.heap.size w w' := by
  obtain ⟨a1a, a1n, a1c, rfl⟩ := chrs_parts h1
  have B : Hid (Below w.heap.size w w) := Below.refl _ _
  have HTAB := Lib.hid (htab.below B.out)
  clear htab
  have HA1 := Lib.hid (h1.below B.out)
  clear h1
  go_enter Tryd.func6, Tryd.ntmps6
  go_wp2_with fail
  refine (szChrs d _ t1 1048576 _ (by omega) (by omega) HA1.out).mono ?_
  rintro e w1 ⟨r1, rfl, hb, hr1⟩
  replace B := Lib.hid (below_thru B.out (Nat.le_refl _) hb)
  replace HTAB := Lib.hid (HTAB.out.below hb)
  replace HA1 := Lib.hid (HA1.out.below hb)
  clear hb
  rcases hr1 with ⟨hr1, hs1⟩ | ⟨hr1, hs1⟩
  · go_wp2_with fail
    go_ret
    exact ⟨rfl, B.out⟩
  have hq1 : r1 ≤ 1048576 := by omega
  have hn1 : Chr.bulks t1 ≤ 1048576 := by omega
  clear hs1
  go_wp2_with fail
  refine (toChrs d _ t1 _ hn1 HA1.out).mono ?_
  rintro e w2 ⟨s1, fp, rfl, ht, hf, hb⟩
  replace B := Lib.hid (below_thru B.out (Nat.le_refl _) hb)
  replace HTAB := Lib.hid (HTAB.out.below hb)
  replace HA1 := Lib.hid (HA1.out.below hb)
  clear hb
  have Hs1 := Lib.hid ht.at_
  clear ht hf
  go_wp2_with fail
  refine (specChText d s1 t1 _ Hs1.out hn1).mono ?_
  rintro e w3 ⟨rfl, hb⟩
  replace B := Lib.hid (below_thru B.out (Nat.le_refl _) hb)
  replace HTAB := Lib.hid (HTAB.out.below hb)
  replace HA1 := Lib.hid (HA1.out.below hb)
  clear hb
  clear Hs1
  go_wp2_with fail
  refine (toChrs d _ t1 _ hn1 HA1.out).mono ?_
  rintro e w4 ⟨x1, fp, rfl, ht, hf, hb⟩
  replace B := Lib.hid (below_thru B.out (Nat.le_refl _) hb)
  replace HTAB := Lib.hid (HTAB.out.below hb)
  replace HA1 := Lib.hid (HA1.out.below hb)
  clear hb
  obtain ⟨x1a, x1n, x1c, rfl⟩ := chrs_parts ht.at_
  have HX1 := Lib.hid ht.at_
  clear ht hf
  go_wp2_with fail
  refine (implChText d _ t1 _ HX1.out hn1 HTAB.out).mono ?_
  rintro e w5 ⟨rfl, hb⟩
  replace B := Lib.hid (below_thru B.out (Nat.le_refl _) hb)
  replace HTAB := Lib.hid (HTAB.out.below hb)
  replace HA1 := Lib.hid (HA1.out.below hb)
  replace HX1 := Lib.hid (HX1.out.below hb)
  clear hb
  go_wp2_with fail
  refine (toChrs d _ t1 _ hn1 HA1.out).mono ?_
  rintro e w6 ⟨y1, fp, rfl, ht, hf, hb⟩
  replace B := Lib.hid (below_thru B.out (Nat.le_refl _) hb)
  replace HTAB := Lib.hid (HTAB.out.below hb)
  replace HA1 := Lib.hid (HA1.out.below hb)
  replace HX1 := Lib.hid (HX1.out.below hb)
  clear hb
  have Hy1 := Lib.hid ht.at_
  clear ht hf
  go_wp2_with fail
  refine (eqChrs d _ y1 t1 _ HX1.out Hy1.out).mono ?_
  rintro e w7 ⟨rfl, hb⟩
  replace B := Lib.hid (below_thru B.out (Nat.le_refl _) hb)
  replace HTAB := Lib.hid (HTAB.out.below hb)
  replace HA1 := Lib.hid (HA1.out.below hb)
  replace HX1 := Lib.hid (HX1.out.below hb)
  clear hb
  clear Hy1
  go_wp2_with fail
  go_ret
  exact ⟨rfl, B.out⟩
end Go.Proofs.YtdgfkmnnjhlpbaaDoor
/-
  Proved: a law that returns true and leaves all memory that was there before as it was meets its row's end, also where the row names variables to be read again.
-/
namespace Go.Proofs.YtdgfkmnnjhlpbaaDoor.Law
open Go.ChangeShapes Go.WideShapes Go.ChangeAt Go.RowKit
variable {H : Type} {enc : TypeId × Value → H} {P : Program} {W W' : World}

theorem law_post_vars {f : Func} {s : ChangeSpec} {args : Array Value} {ds gs : List (DataW H)} {before : List MemPlace} {tb : TypeId}
    (hW : DataW.Whole enc P f.params.toList s.vars false W args.toList ds gs before) (hv : varsRowed P s.vars = true)
    (hres : f.resultTypes = #[tb]) (ub : P.underlying tb = some .bool) (hl : laidOutB P = true)
    (hr : (f.params.toList.all fun t => P.readableRec t && decide (t < P.types.size)) = true)
    (hfn : s.fn H (ds ++ gs) = { results := [.lit (.bool true)], args := ds, vars := gs })
    (hb : Below W.heap.size W W') : s.post enc P f false true false false W args (.bool true) W' := by
  have hlt := hW.lt
  have hW' := hW
  obtain ⟨p, q, hA, hV, rfl, hfz, hnd⟩ := hW
  refine ⟨ds, gs, _, [], p, q, hW', ?_, ?_, ?_, hb.frame _, fun h => by cases h⟩
  · rw [hres, hfn]
    exact trodAll_mk1 (shut_bool ub true)
  · rw [hfn]
    exact trodAll_below hl hb hr hA (fun x hx => hlt x (by simp [hx]))
  · rw [hfn]
    exact Below.trodVars hl hb hv hV
end Go.Proofs.YtdgfkmnnjhlpbaaDoor.Law
namespace Go.Proofs.YtdgfkmnnjhlpbaaDoor.ExactChangesText
open Go.ChangeShapes Go.WideShapes Go.ChangeAt Go.RowKit Go.WideMaps Go.WideElems
open Go.ChangeMaps (setBlock shut_map_nil open_string shut_string keptBut_setBlock frozen?_setBlock heap_setBlock_same)
set_option maxRecDepth 100000 in
theorem contract (H : Type) (enc : TypeId × Value → H) (W : World) (base : Nat) (args : Array Value) (ds gs : List (DataW H)) (before : List MemPlace)
    (hval : ∀ (j : Nat) t v, Tryd.f6.params[j]? = some t → args[j]? = some v → Value.okWide Tryd.prog W .any base t v)
    (hW : DataW.Whole enc Tryd.prog Tryd.f6.params.toList Rows.fnExactChangesTextSpec.vars false W args.toList ds gs before) (hL : laidMetH Tryd.prog Rows.fnExactChangesTextRow.laid W)
    (_hsz : (DataW.weightsEach Tryd.prog (Tryd.f6.params.toList ++ (OpenSpec.ofChange Rows.fnExactChangesTextSpec).bare.plain.varTypes Tryd.prog) (ds ++ gs)).all (· ≤ reachBytes) = true) (_hsh : W.ShapedOpen Tryd.prog) :
    Calls Tryd.prog 6 args W fun e W' => ∃ v, e = .returned v ∧ Rows.fnExactChangesTextSpec.post enc Tryd.prog Tryd.f6 false true false false W args v W' := by
  have hW' := hW
  obtain ⟨p, q, hA0, hV, rfl, hfz, hnd⟩ := hW
  have hA : DataW.TrodAll enc Tryd.prog W 0 (fun _ => true) true Tryd.f6.params.toList args.toList ds p := hA0
  rw [Tryd.params6] at hA hval
  obtain ⟨v0, vs0, d0, ds0, p0, q0, hargs, rfl, rfl, h0, r0⟩ := trodAll_cons hA
  obtain ⟨rfl, rfl, rfl⟩ := trodAll_nil r0
  obtain rfl : args = #[v0] := by cases args; simp_all
  obtain ⟨gg, gt, gcs, gfuel, gd, gp, rfl, _⟩ := trodVars_one hV
  rw [MakeChecks.laidMetH_plain _ _ _ (by kernel_rfl)] at hL
  obtain ⟨e0, t0, ht0⟩ := chrs_of_arg (hval 0 55 v0 rfl rfl) h0
  have htab : ExTabs W := ⟨Lib.tabIs_of_head (rest := []) (g := 2) (t := 170) (e := 3) (n := 15) (by kernel_rfl) (by kernel_rfl) Tryd.underlying170 Tryd.underlying3 (by kernel_rfl) (by kernel_rfl) hL.tail.tail.tail, Lib.tabIs_of_head (g := 3) (t := 171) (e := 162) (n := 20) (by kernel_rfl) (by kernel_rfl) Tryd.underlying171 Tryd.underlying162 (by kernel_rfl) (by kernel_rfl) hL.tail.tail⟩
  refine Calls.mono (changesTextWalk e0 v0 t0 W ht0 htab) fun e W' ⟨he, hg⟩ => ?_
  subst he
  exact ⟨_, rfl, Law.law_post_vars hW' (by kernel_rfl) (by kernel_rfl) Tryd.underlying4 (by kernel_rfl) (by kernel_rfl) rfl hg⟩
set_option maxRecDepth 100000 in
theorem laid_met (os : Os) : laidMet Tryd.prog Rows.fnExactChangesTextRow.laid (((World.doorLaid Tryd.prog 512 os)).forCall (fun _ _ => 0) ⟨#[], #[.slice none 0 0], []⟩).memory :=
  laidMet_of_run' 8 (by kernel_rfl) (by kernel_rfl)
theorem reads (os : Os) {H : Type} (enc : TypeId × Value → H) : ∃ places, DataW.whole enc Tryd.prog (((World.doorLaid Tryd.prog 512 os)).forCall (fun _ _ => 0) ⟨#[], #[.slice none 0 0], []⟩).memory Tryd.f6.params.toList Rows.fnExactChangesTextSpec.vars false (#[.slice none 0 0] : Array Value).toList 8 = some ([.nil], [Rows.laid_loop_example_g00585_impl_arities], places) :=
  ⟨MemPlace.row ⟨2, 0, none⟩ 15, by kernel_rfl⟩
set_option maxRecDepth 100000 in
theorem lifted (os : Os) (started : os.Started) (H : Type) (enc : TypeId × Value → H) (F : Stop.Interp) :
    ReturnsInHanded {} Tryd.checked os 6 .any ((OpenSpec.ofChange Rows.fnExactChangesTextSpec).preRow enc Tryd.prog Tryd.f6 Rows.fnExactChangesTextRow.domain false Rows.fnExactChangesTextRow.laid) (((OpenSpec.ofChange Rows.fnExactChangesTextSpec).at F).post enc Tryd.prog Tryd.f6 false true false false) := by
  obtain ⟨places, hx⟩ := reads os enc
  refine returnsInHanded_of_row (C := Tryd.checked) (s := OpenSpec.ofChange Rows.fnExactChangesTextSpec) (by kernel_rfl) started (by kernel_rfl) Tryd.func6
    (witness_row_atRef (enc := enc) (C := Tryd.checked) false (World.doorLaid Tryd.prog 512 os) #[.slice none 0 0] rfl (by kernel_rfl) (by kernel_rfl) (by kernel_rfl)
      (OpenSpec.preRow_of_cond 8 hx (by kernel_rfl) (fun k hk => by cases hk) (by kernel_rfl) (laid_met os))) ?_
  intro W base args ds gs before hval hW _ _ hsz hL hsh _
  exact contract H enc W base args ds gs before hval hW hL hsz hsh
theorem said : Rows.FnExactChangesTextSaid :=
  OpenClaim.holds_of_cond 6 Tryd.f6 rfl rfl rfl rfl rfl rfl rfl ⟨rfl, rfl, rfl, rfl, rfl⟩ rfl rfl rfl rfl rfl (by kernel_rfl) Tryd.func6 (by kernel_rfl)
    (of_decide_eq_true (by kernel_rfl)) (by unfold Func.isWrapper; first | (rw [if_pos (by decide +kernel)]; kernel_rfl) | (rw [if_neg (by decide +kernel)]; exact ⟨rfl, rfl⟩))
    (fun os started H enc _ F => by rw [OpenClaim.pre_eq_preRow]; exact lifted os started H enc F)
theorem plain (f : FuncId) (fn : Func) (hf : Tryd.pinned.checked.prog.funcNamed "loop.example/g00585/laws.FnExactChangesText" = some f) (hfn : Tryd.pinned.checked.prog.funcs[f]? = some fn) :
    true = Tryd.pinned.checked.prog.looks [] ∧ ∀ (j : Nat) t, fn.params[j]? = some t → Tryd.pinned.checked.prog.wantsStandIn t = false := by
  obtain rfl : f = 6 := Option.some.inj ((show Tryd.prog.funcNamed "loop.example/g00585/laws.FnExactChangesText" = some 6 by kernel_rfl).symm.trans hf) |>.symm
  obtain rfl : fn = Tryd.f6 := (Option.some.inj (Tryd.func6.symm.trans hfn)).symm
  refine ⟨by kernel_rfl, fun j t ht => ?_⟩
  rw [Tryd.params6] at ht
  have hm : t ∈ [55] := by simpa using Array.mem_of_getElem? ht
  have hall : ([55].all fun u => !Tryd.prog.wantsStandIn u) = true := by kernel_rfl
  exact (show Tryd.prog.wantsStandIn t = false by simpa using List.all_eq_true.1 hall t hm)
theorem card : Rows.FnExactChangesTextCardSaid :=
  Claim7.holds_tied_plain_at .later [] _ _ _ _ said (fun _ h => by cases h) (by kernel_rfl) (fun _ h => by cases h) fnExactChangesText_row_tie rfl ⟨rfl, rfl⟩ (by kernel_rfl) rfl plain (by kernel_rfl)
end Go.Proofs.YtdgfkmnnjhlpbaaDoor.ExactChangesText
