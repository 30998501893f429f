/-
  Proved: impl.exprWithin says whether an expression's tree is of the right form and fits into the room and the depth that are left; it counts the room down, and touches nothing else.
-/
import Derived.Test.YteffjeejbdjjpaaGreatDoorWellG21
import Derived.Test.YteffjeejbdjjpaaGreatDoorWellG6
import Derived.Test.YteffjeejbdjjpaaGreatDoorWellG23
import Derived.Test.YteffjeejbdjjpaaGreatDoorWellG4
namespace Go.Proofs.YteffjeejbdjjpaaGreatDoor
open Go.RowKit

def xwithin (t : Ex) (r dp : Int) : Bool := decide ((t.count : Int) ≤ r) && (decide ((t.high : Int) ≤ dp) && t.form)
def XEnd (p : Nat) (r dp : Int) (t : Ex) (w : World) (e : Ending) (w' : World) : Prop :=
  ∃ r' : Int, e = .returned (.bool (xwithin t r dp)) ∧ Room p r' w w' ∧ (xwithin t r dp = true → r' = r - t.count)
theorem XEnd.of {p : Nat} {r dp r' : Int} {t : Ex} {w w' : World} {b : Bool} (hb : xwithin t r dp = b) (hr : Room p r' w w') (h : b = true → r' = r - t.count) : XEnd p r dp t w (.returned (.bool b)) w' := by
  subst hb; exact ⟨r', rfl, hr, h⟩
theorem xwithin_form {t : Ex} {r dp : Int} (h : t.form = false) : xwithin t r dp = false := by simp [xwithin, h]
theorem xwithin_true {t : Ex} {r dp : Int} (h : xwithin t r dp = true) : (t.count : Int) ≤ r ∧ (t.high : Int) ≤ dp ∧ t.form = true := by
  simp only [xwithin, Bool.and_eq_true, decide_eq_true_eq] at h
  exact h
theorem xwithin_mk {t : Ex} {r dp : Int} (h1 : (t.count : Int) ≤ r) (h2 : (t.high : Int) ≤ dp) (h3 : t.form = true) : xwithin t r dp = true := by
  simp only [xwithin, Bool.and_eq_true, decide_eq_true_eq]
  exact ⟨h1, h2, h3⟩
theorem xwithin_mark {nm : ByteArray} {n : Int} {ty : Ty} {x : Ex} {r dp : Int} (hf : fitsB 14 nm n ty 1 = true) (hk : x.kind ≠ 14) : xwithin (.node 14 nm n ty [x]) r dp = xwithin x r dp := by
  have e1 : (Ex.node 14 nm n ty [x]).count = x.count := by simp [Ex.count, Ex.counts]
  have e2 : (Ex.node 14 nm n ty [x]).high = x.high := by simp [Ex.high, Ex.highs]
  have e3 : (Ex.node 14 nm n ty [x]).form = x.form := by simp [Ex.form, Ex.forms, bareB, hk, hf]
  unfold xwithin; rw [e1, e2, e3]
theorem xwithin_sub {kd : Int} {nm : ByteArray} {n : Int} {ty : Ty} {es : List Ex} {r dp r2 : Int} {k : Nat} (hk : kd ≠ 14) (h : k < es.length) (hr : r2 = r - 1 - Ex.counts (es.take k)) (hf : xwithin es[k] r2 (dp - 1) = false) : xwithin (.node kd nm n ty es) r dp = false := by
  cases hw : xwithin (.node kd nm n ty es) r dp with
  | false => rfl
  | true =>
    obtain ⟨w1, w2, w3⟩ := xwithin_true hw
    simp only [Ex.count, Ex.high, Ex.form, if_neg hk, Bool.and_eq_true] at w1 w2 w3
    have h1 := Ex.counts_take es k h
    have h2 := Ex.counts_le_all es (k + 1)
    have h3 := Ex.highs_get es k h
    have h4 := Ex.forms_get es k h w3.1
    have : xwithin es[k] r2 (dp - 1) = true := xwithin_mk (by omega) (by omega) h4
    rw [this] at hf; cases hf
theorem room_start {p : Nat} {r : Int} {w w2 : World} (hp : p < w.heap.size) (hb : Below w.heap.size w w2) (e0 : w.cell? ⟨p, 0, none⟩ = some (.int .i64 r)) (e1 : w.frozen? ⟨p, 0, none⟩ = false) : Room p r w w2 :=
  ⟨(hb.cell (p := ⟨p, 0, none⟩) hp).trans e0, (hb.frozen (p := ⟨p, 0, none⟩) hp).trans e1, hb.mono (Nat.le_of_lt hp), fun b h _ => hb.block b h⟩
set_option maxRecDepth 100000 in
set_option maxHeartbeats 4000000 in
theorem implExWithin (w0 : World) (htab : TabAt w0) : ∀ (d : Nat) (v : Value) (t : Ex) (p : Nat) (r dp : Int) (w : World), ExAt w0 d v t → Below w0.heap.size w0 w → w0.heap.size ≤ p → t.bulk ≤ 1048576 → p < w.heap.size → 0 ≤ r → r ≤ 1048576 → 0 ≤ dp → dp ≤ 100 → w.cell? ⟨p, 0, none⟩ = some (.int .i64 r) → w.frozen? ⟨p, 0, none⟩ = false → Calls Tryz.prog 66 #[v, .pointer (some ⟨p, 0, none⟩), .int .i64 dp] w (XEnd p r dp t w)
  | 0, _, _, _, _, _, _, h, _, _, _, _, _, _, _, _, _, _ => h.elim
  | d + 1, v, .node kd nm n ty es, p, r, dp, w, h, hw0, hp0, hsz, hp, hr0, hr1, hd0, hd1, hcell, hfroz => by
    have IH : Hid (∀ (v : Value) (t : Ex) (p : Nat) (r dp : Int) (w : World), ExAt w0 d v t → Below w0.heap.size w0 w → w0.heap.size ≤ p → t.bulk ≤ 1048576 → p < w.heap.size → 0 ≤ r → r ≤ 1048576 → 0 ≤ dp → dp ≤ 100 → w.cell? ⟨p, 0, none⟩ = some (.int .i64 r) → w.frozen? ⟨p, 0, none⟩ = false → Calls Tryz.prog 66 #[v, .pointer (some ⟨p, 0, none⟩), .int .i64 dp] w (XEnd p r dp t w)) := implExWithin w0 htab d
    have HWH := Lib.hid h
    have HBK := Lib.hid hsz
    have HV := ex_parts h
    obtain ⟨c3, c4, sl, rfl, hk0, hk1, hn0, hn1, hnm, hty, a, cap, rfl, hcap, hcap2, hat⟩ := h
    obtain ⟨k', nm', n', tk, ta, tn, tc, sa, sn, sc, hv⟩ := HV
    injection hv with hv
    injection hv with hv
    simp at hv
    obtain ⟨rfl, rfl, rfl, rfl, rfl, rfl, rfl, rfl⟩ := hv
    have HAT := Lib.hid hat; clear hat
    have hbk : (Ex.node kd nm n ty es).bulk = nm.size + (ty.size - 1) + Ex.bulks es := rfl
    have HSZ : Hid (Ex.bulks es ≤ 1048576) := by show _ ≤ _; omega
    have HNM : Hid (nm.size ≤ 1048576) := by show _ ≤ _; omega
    have HTZ : Hid (ty.size ≤ 1048577) := by show _ ≤ _; omega
    have hlen : es.length ≤ 1048576 := by have := Ex.length_le es; omega
    clear hsz hbk hty
    have HW0 := Lib.hid hw0; clear hw0
    have HTB := Lib.hid (htab.below (HW0.out.alloc HW0.out.size (.cells #[.int .i64 kd, .string nm, .int .i64 n, .int .i64 tk, .slice ta tn tc, .slice a es.length cap] 40)))
    have HWX := Lib.hid (HWH.out.below (HW0.out.alloc HW0.out.size (.cells #[.int .i64 kd, .string nm, .int .i64 n, .int .i64 tk, .slice ta tn tc, .slice a es.length cap] 40)))
    have HC0 := Lib.hid hcell; have HC1 := Lib.hid hfroz
    clear hcell hfroz
    go_enter Tryz.func66, Tryz.ntmps66
    go_wp2_with fail
    refine (implFits d _ kd nm n ty es _ HWX.out HBK.out HTB.out).mono ?_
    rintro e w2 ⟨rfl, hb2⟩
    have B2 := Lib.hid (below_on (below_alloc w _) hb2 (by simp))
    have XA := Lib.hid ((BoxAt.new w #[.int .i64 kd, .string nm, .int .i64 n, .int .i64 tk, .slice ta tn tc, .slice a es.length cap] 40).below hb2)
    have R2 := Lib.hid (room_start hp B2.out HC0.out HC1.out)
    clear hb2 HWX HTB
    obtain ⟨hz2, e0, e1⟩ : w.heap.size ≤ w2.heap.size ∧ w2.cell? ⟨p, 0, none⟩ = some (.int .i64 r) ∧ w2.frozen? ⟨p, 0, none⟩ = false := ⟨B2.out.size, R2.out.1, R2.out.2.1⟩
    have b0 := XA.out.2 0
    have b1 := XA.out.2 1
    have b2 := XA.out.2 2
    have b3 := XA.out.2 3
    have b4 := XA.out.2 4
    have b5 := XA.out.2 5
    cases hfit : fitsB kd nm n ty es.length with
    | false =>
      have HNO := Lib.hid (xwithin_form (r := r) (dp := dp) (show (Ex.node kd nm n ty es).form = false by simp [Ex.form, hfit]))
      clear hfit
      go_wp2_with fail
      go_ret
      exact XEnd.of HNO.out R2.out (fun h => by cases h)
    | true =>
      have HFIT := Lib.hid hfit; clear hfit
      by_cases q : kd = 14
      · subst q
        have hl : es.length = 1 := by
          have h := HFIT.out
          simp only [fitsB, Bool.and_eq_true, decide_eq_true_eq] at h
          have h1 : (es.length : Int) = 1 := h.1
          omega
        obtain ⟨b, off, x0, x1, x2, x3, x4, x5, rfl, hbl, hc0, hc1, hc2, hc3, hc4, hc5, ht⟩ := HAT.out 0 (by omega)
        have hg := Ex.bulk_get es 0 (by omega)
        have HS2 := HSZ.out
        obtain ⟨yk, ynm, yn, ytk, yta, ytn, ytc, ya, ym, yc, rfl, rfl, rfl, rfl, rfl, rfl⟩ := ex_cells ht
        simp only [Nat.zero_mul, Nat.add_zero] at hc0 hc1 hc2 hc3 hc4 hc5
        have a0 : w2.cell? ⟨b, off, none⟩ = some (.int .i64 yk) := by rw [((HW0.out.trans (B2.out.mono HW0.out.size)).cell (p := ⟨b, off, none⟩) hbl)]; exact hc0
        have a1 : w2.cell? ⟨b, off + 1, none⟩ = some (.string ynm) := by rw [((HW0.out.trans (B2.out.mono HW0.out.size)).cell (p := ⟨b, off + 1, none⟩) hbl)]; exact hc1
        have a2 : w2.cell? ⟨b, off + 2, none⟩ = some (.int .i64 yn) := by rw [((HW0.out.trans (B2.out.mono HW0.out.size)).cell (p := ⟨b, off + 2, none⟩) hbl)]; exact hc2
        have a3 : w2.cell? ⟨b, off + 3, none⟩ = some (.int .i64 ytk) := by rw [((HW0.out.trans (B2.out.mono HW0.out.size)).cell (p := ⟨b, off + 3, none⟩) hbl)]; exact hc3
        have a4 : w2.cell? ⟨b, off + 4, none⟩ = some (.slice yta ytn ytc) := by rw [((HW0.out.trans (B2.out.mono HW0.out.size)).cell (p := ⟨b, off + 4, none⟩) hbl)]; exact hc4
        have a5 : w2.cell? ⟨b, off + 5, none⟩ = some (.slice ya ym yc) := by rw [((HW0.out.trans (B2.out.mono HW0.out.size)).cell (p := ⟨b, off + 5, none⟩) hbl)]; exact hc5
        obtain ⟨x, hx⟩ := List.length_eq_one_iff.1 hl
        have hx0 : es[0] = x := by subst hx; rfl
        have hkind : x.kind = yk := by rw [← hx0]; exact ex_kind ht
        have hgx : 1 + x.bulk ≤ Ex.bulks es := by rw [← hx0]; exact hg
        have HT : Hid (ExAt w0 d (.agg #[.int .i64 yk, .string ynm, .int .i64 yn, .int .i64 ytk, .slice yta ytn ytc, .slice ya ym yc]) x) := by show ExAt _ _ _ _; rw [← hx0]; exact ht
        have HX := Lib.hid hx
        have HL := Lib.hid hl
        have hpos : 0 < es.length := by omega
        have HKIND := Lib.hid hkind
        clear hc0 hc1 hc2 hc3 hc4 hc5 ht hx hx0 hg hl hkind
        by_cases q2 : yk = 14
        · subst q2
          have HNO := Lib.hid (xwithin_form (r := r) (dp := dp) (show (Ex.node 14 nm n ty es).form = false by rw [HX.out]; have h := HKIND.out; simp [Ex.form, bareB, h]))
          go_wp2_with fail
          go_ret
          exact XEnd.of HNO.out R2.out (fun h => by cases h)
        · have q2b : (yk == 14) = false := by simp [q2]
          have q2c : (yk != 14) = true := by simp [q2]
          have HEQ := Lib.hid (show xwithin (.node 14 nm n ty es) r dp = xwithin x r dp by rw [HX.out]; exact xwithin_mark (by have := HFIT.out; rw [HL.out] at this; exact this) (by rw [HKIND.out]; exact q2))
          have HCT : Hid ((Ex.node 14 nm n ty es).count = x.count) := by show _ = _; rw [HX.out]; simp [Ex.count, Ex.counts]
          have HB20 := Lib.hid (HW0.out.trans (B2.out.mono HW0.out.size))
          go_wp2_with fail
          refine (IH.out _ x p r dp w2 HT.out HB20.out hp0 (by omega) (by omega) hr0 hr1 hd0 hd1 e0 e1).mono ?_
          rintro e w3 ⟨r3, rfl, hR3, h3⟩
          have HR3 := Lib.hid (R2.out.on hR3)
          have H3 := Lib.hid h3
          clear hR3 h3
          go_wp2_with fail
          go_ret
          exact XEnd.of HEQ.out HR3.out (fun h => by rw [HCT.out]; exact H3.out h)
      · have qb0 : (kd == 14) = false := by simp [q]
        have HFIN : Hid ((Ex.node kd nm n ty es).count = 1 + Ex.counts es) := by show _ = _; simp [Ex.count, q]
        have HHI : Hid ((Ex.node kd nm n ty es).high = Ex.highs es + 1) := by show _ = _; simp [Ex.high, q]
        have R3 := Lib.hid (Room.stored (r := r - 1) hp B2.out e0 e1)
        have hpw : ¬ (p = w.heap.size) := by omega
        have EARLY : Hid (r < 1 ∨ dp = 0 → xwithin (.node kd nm n ty es) r dp = false) := fun h => by
          cases hw : xwithin (.node kd nm n ty es) r dp with
          | false => rfl
          | true =>
            obtain ⟨w1, w2, w3⟩ := xwithin_true hw
            rw [HFIN.out] at w1
            rw [HHI.out] at w2
            omega
        by_cases hr : r < 1
        · go_wp2_with fail
          go_ret
          exact XEnd.of (EARLY.out (Or.inl hr)) R3.out (fun h => by cases h)
        by_cases hd : dp = 0
        · have hdb : (dp == 0) = true := by simp [hd]
          go_wp2_with fail
          go_ret
          exact XEnd.of (EARLY.out (Or.inr hd)) R3.out (fun h => by cases h)
        have hdb : (dp == 0) = false := by simp [hd]
        clear EARLY
        have HXA3 := Lib.hid (XA.out.stored (q := p) (j := 0) (u := .int .i64 (r - 1)) (fun h => hpw h.symm))
        have HZ3 : Hid (w2.heap.size ≤ (w2.setCell ⟨p, 0, none⟩ (.int .i64 (r - 1))).heap.size) := by show _ ≤ _; simp
        go_wp2_with fail
        go_loopw [46] (fun i wr => ∃ k : Nat, k ≤ es.length ∧ i = .int .i64 k ∧ 0 ≤ r - 1 - (Ex.counts (es.take k) : Int) ∧ (Ex.highs (es.take k) : Int) ≤ dp - 1 ∧ Ex.forms (es.take k) = true ∧ Room p (r - 1 - Ex.counts (es.take k)) w wr ∧ BoxAt wr w.heap.size #[.int .i64 kd, .string nm, .int .i64 n, .int .i64 tk, .slice ta tn tc, .slice a es.length cap]) (fun i _ => es.length - (intOf i).toNat)
        case atStart => exact ⟨0, by omega, rfl, by simp [Ex.counts]; omega, by simp [Ex.highs]; omega, by simp [Ex.forms], by simpa [Ex.counts] using R3.out, HXA3.out⟩
        case round =>
          obtain ⟨k, hk, rfl, hs, hds, hf, hroom, hbx⟩ := hrel
          have b0 := hbx.2 0
          have b1 := hbx.2 1
          have b2 := hbx.2 2
          have b3 := hbx.2 3
          have b4 := hbx.2 4
          have b5 := hbx.2 5
          have HS := Lib.hid hs
          have HD := Lib.hid hds
          have HF := Lib.hid hf
          have HR := Lib.hid hroom
          have HX := Lib.hid hbx
          clear hs hds hf hroom hbx
          by_cases hlt : k < es.length
          · obtain ⟨b, off, x0, x1, x2, x3, x4, x5, rfl, hbl, hc0, hc1, hc2, hc3, hc4, hc5, ht⟩ := HAT.out k hlt
            have hg := Ex.bulk_get es k hlt
            have HS2 := HSZ.out
            obtain ⟨yk, ynm, yn, ytk, yta, ytn, ytc, ya, ym, yc, rfl, rfl, rfl, rfl, rfl, rfl⟩ := ex_cells ht
            have HB0r : Hid (Below w0.heap.size w0 wr) := HW0.out.trans (HR.out.2.2.1.mono hp0)
            have g0 : wr.cell? ⟨b, off + k * 6, none⟩ = some (.int .i64 yk) := by rw [HB0r.out.cell (p := ⟨b, off + k * 6, none⟩) hbl]; exact hc0
            have g1 : wr.cell? ⟨b, off + k * 6 + 1, none⟩ = some (.string ynm) := by rw [HB0r.out.cell (p := ⟨b, off + k * 6 + 1, none⟩) hbl]; exact hc1
            have g2 : wr.cell? ⟨b, off + k * 6 + 2, none⟩ = some (.int .i64 yn) := by rw [HB0r.out.cell (p := ⟨b, off + k * 6 + 2, none⟩) hbl]; exact hc2
            have g3 : wr.cell? ⟨b, off + k * 6 + 3, none⟩ = some (.int .i64 ytk) := by rw [HB0r.out.cell (p := ⟨b, off + k * 6 + 3, none⟩) hbl]; exact hc3
            have g4 : wr.cell? ⟨b, off + k * 6 + 4, none⟩ = some (.slice yta ytn ytc) := by rw [HB0r.out.cell (p := ⟨b, off + k * 6 + 4, none⟩) hbl]; exact hc4
            have g5 : wr.cell? ⟨b, off + k * 6 + 5, none⟩ = some (.slice ya ym yc) := by rw [HB0r.out.cell (p := ⟨b, off + k * 6 + 5, none⟩) hbl]; exact hc5
            have HT := Lib.hid ht
            clear ht hc0 hc1 hc2 hc3 hc4 hc5
            have hzr : w.heap.size ≤ wr.heap.size := HR.out.2.2.1.size
            have HB0b := Lib.hid (HB0r.out.alloc HB0r.out.size (.cells #[.int .i64 yk, .string ynm, .int .i64 yn, .int .i64 ytk, .slice yta ytn ytc, .slice ya ym yc] 40))
            have HRb := Lib.hid (HR.out.below hp (below_alloc wr (.cells #[.int .i64 yk, .string ynm, .int .i64 yn, .int .i64 ytk, .slice yta ytn ytc, .slice ya ym yc] 40)))
            have HXb := Lib.hid (HX.out.below (below_alloc wr (.cells #[.int .i64 yk, .string ynm, .int .i64 yn, .int .i64 ytk, .slice yta ytn ytc, .slice ya ym yc] 40)))
            have hs0 := HS.out
            have hcl : (Ex.counts (es.take k) : Int) ≤ 1048576 := by have := Ex.counts_part es k; omega
            go_wp2_with fail
            refine (IH.out _ es[k] p (r - 1 - Ex.counts (es.take k)) (dp - 1) (wr.alloc (.cells #[.int .i64 yk, .string ynm, .int .i64 yn, .int .i64 ytk, .slice yta ytn ytc, .slice ya ym yc] 40)) HT.out HB0b.out hp0 (by omega) (by simp; omega) (by omega) (by omega) (by omega) (by omega) HRb.out.1 HRb.out.2.1).mono ?_
            rintro e w3 ⟨r3, rfl, hR3, h3⟩
            have HX3 := Lib.hid (BoxAt.kept HXb.out hR3.2.2.1.size (hR3.2.2.2 _ HXb.out.1 (fun h => hpw h.symm)))
            have HR3 := Lib.hid (HRb.out.on hR3)
            have H3 := Lib.hid h3
            clear hR3 h3
            have HT2 := Lib.hid (Ex.counts_take es k hlt)
            cases hw : xwithin es[k] (r - 1 - Ex.counts (es.take k)) (dp - 1) with
            | false =>
              have HNO := Lib.hid (xwithin_sub (nm := nm) (n := n) (ty := ty) (r := r) q hlt rfl hw)
              clear hw
              go_wp2_with fail
              go_ret
              exact XEnd.of HNO.out HR3.out (fun h => by cases h)
            | true =>
              obtain ⟨v1, v2, v3⟩ := xwithin_true hw
              have hr3 := H3.out hw
              have HHT := Lib.hid (Ex.highs_take es k hlt)
              have HFT := Lib.hid (Ex.forms_take es k hlt)
              have HV1 := Lib.hid v1
              have HV2 := Lib.hid v2
              have HV3 := Lib.hid v3
              have HRR := Lib.hid hr3
              clear hw v1 v2 v3 hr3
              go_wp2_with fail
              refine ⟨⟨k + 1, by omega, by go_num, ?_, ?_, ?_, ?_, HX3.out⟩, by simp [intOf]; omega⟩
              · have h1 := HV1.out; rw [HT2.out]; omega
              · have h1 := HV2.out; have h2 := HD.out; rw [HHT.out]; omega
              · rw [HFT.out, HF.out, HV3.out]; rfl
              · have h1 := HR3.out; rw [HRR.out] at h1; rw [HT2.out]; have e : r - 1 - (Ex.counts (es.take k) : Int) - (es[k].count : Int) = r - 1 - ((Ex.counts (es.take k) + es[k].count : Nat) : Int) := by omega
                rw [e] at h1; exact h1
          · obtain rfl : k = es.length := by omega
            have HNO : Hid (xwithin (.node kd nm n ty es) r dp = true) := by
              have h1 := HS.out
              have h2 := HD.out
              have h3 := HF.out
              rw [List.take_length] at h1 h2 h3
              refine xwithin_mk (by rw [HFIN.out]; omega) (by rw [HHI.out]; omega) ?_
              have e : bareB kd es = true := by cases es with | nil => rfl | cons x r => simp [bareB, q]
              have hft := HFIT.out
              simp only [Ex.form, h3, e, hft, Bool.and_self]
            have HRL : Hid (Room p (r - 1 - Ex.counts es) w wr) := by have := HR.out; rw [List.take_length] at this; exact this
            go_wp2_with fail
            go_ret
            exact XEnd.of HNO.out HRL.out (fun _ => by rw [HFIN.out]; omega)
theorem xwithin_valid (t : Ex) : xwithin t 40 12 = t.valid := by
  have e1 : decide ((t.count : Int) ≤ 40) = decide (t.count ≤ 40) := decide_eq_decide.2 (by omega)
  have e2 : decide ((t.high : Int) ≤ 12) = decide (t.high ≤ 12) := decide_eq_decide.2 (by omega)
  unfold xwithin Ex.valid
  rw [e1, e2]
set_option maxRecDepth 100000 in
set_option maxHeartbeats 1000000 in
theorem implExValid (d : Nat) (v : Value) (t : Ex) (w : World) (h : ExAt w d v t) (hsz : t.bulk ≤ 1048576) (htab : TabAt w) :
    Calls Tryz.prog 33 #[v] w fun e w' => e = .returned (.bool t.valid) ∧ Below w.heap.size w w' := by
  have HT := Lib.hid h
  obtain ⟨yk, ynm, yn, ytk, yta, ytn, ytc, ya, ym, yc, rfl⟩ := ex_parts h
  clear h
  have X : Hid (Below w.heap.size w ((w.alloc (.cells #[.int .i64 yk, .string ynm, .int .i64 yn, .int .i64 ytk, .slice yta ytn ytc, .slice ya ym yc] 40)).alloc (.cells #[.int .i64 40] 3))) := ((Below.refl _ _).alloc (Nat.le_refl _) _).alloc (by simp) _
  go_enter Tryz.func33, Tryz.ntmps33
  go_wp2_with fail
  refine (implExWithin w htab d _ t (w.heap.size + 1) 40 12 _ HT.out X.out (by omega) hsz (by simp) (by omega) (by omega) (by omega) (by omega) (by simp [go_sem]) (by simp [go_sem])).mono ?_
  rintro e w' ⟨r', rfl, hr, _⟩
  have HB := Lib.hid (X.out.trans (hr.2.2.1.mono (Nat.le_succ _)))
  clear hr
  go_wp2_with fail
  go_ret
  exact ⟨by rw [xwithin_valid]; rfl, HB.out⟩
end Go.Proofs.YteffjeejbdjjpaaGreatDoor
