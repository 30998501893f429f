/-
  Proved: the law FnExactEditText: for every edit, impl.EditText returns the same as the reference and changes no argument; the tables hold what the program's text lays (the card ties them).
-/
import Derived.Test.YtimigpdbegfjaaaGreatDoorExactEditTextM1
import Derived.Test.YtimigpdbegfjaaaGreatDoorTwo
import Derived.Test.YtimigpdbegfjaaaGreatDoorExprArg
import Derived.Test.YtimigpdbegfjaaaGreatDoorInts
import Derived.Test.YtimigpdbegfjaaaGreatDoorSpecValid
import Derived.Test.YtimigpdbegfjaaaGreatDoorExForm
import Derived.Test.YtimigpdbegfjaaaGreatDoorEditAt
import Derived.Test.YtimigpdbegfjaaaGreatDoorToExpr
import Derived.Test.YtimigpdbegfjaaaGreatDoorHold
import Derived.Test.YtimigpdbegfjaaaGreatDoorPart
import Derived.Deep.AppendLies
import Derived.Test.YtimigpdbegfjaaaGreatDoorToType
import Derived.Deep.RegionLaw
import Derived.Deep.DeepCutAuto
import Derived.Deep.RegionHeld3
import Derived.Test.YtimigpdbegfjaaaGreatDoorExTree
import Derived.Test.YtimigpdbegfjaaaGreatDoorSpecIn
import Derived.Test.YtimigpdbegfjaaaGreatDoorPut
import Derived.BigQuiet
import Derived.Deep.QuietTactic
import Derived.Test.YtimigpdbegfjaaaGreatDoorToEdit
import Derived.Test.YtimigpdbegfjaaaGreatDoorSzEdit
import Derived.Test.YtimigpdbegfjaaaGreatDoorEqEdit
import Derived.Test.YtimigpdbegfjaaaGreatDoorLaw
import Derived.OpenVars
import Derived.Test.YtimigpdbegfjaaaGreatDoorCards
import Derived.Test.YtimigpdbegfjaaaGreatDoorTie
import Derived.Deep.DeepHandedRow
import Derived.Lib.LaidTab
import Derived.LaidMore
import Derived.Test.YtimigpdbegfjaaaGreatDoorEditArg
import Derived.ChangeVars
/-
  Proved: impl.exprWithin says whether an expression's tree is of the right form and fits into the room and the depth that are left; it counts the room down, and touches nothing else.
-/
namespace Go.Proofs.YtimigpdbegfjaaaGreatDoor
open Go.RowKit

def xwithin (t : Ex) (r dp : Int) : Bool := decide ((t.count : Int) ≤ r) && (decide ((t.high : Int) ≤ dp) && t.form)
def XEnd (p : Nat) (r dp : Int) (t : Ex) (w : World) (e : Ending) (w' : World) : Prop :=
  ∃ r' : Int, e = .returned (.bool (xwithin t r dp)) ∧ Room p r' w w' ∧ (xwithin t r dp = true → r' = r - t.count)
theorem XEnd.of {p : Nat} {r dp r' : Int} {t : Ex} {w w' : World} {b : Bool} (hb : xwithin t r dp = b) (hr : Room p r' w w') (h : b = true → r' = r - t.count) : XEnd p r dp t w (.returned (.bool b)) w' := by
  subst hb; exact ⟨r', rfl, hr, h⟩
theorem xwithin_form {t : Ex} {r dp : Int} (h : t.form = false) : xwithin t r dp = false := by simp [xwithin, h]
theorem xwithin_true {t : Ex} {r dp : Int} (h : xwithin t r dp = true) : (t.count : Int) ≤ r ∧ (t.high : Int) ≤ dp ∧ t.form = true := by
  simp only [xwithin, Bool.and_eq_true, decide_eq_true_eq] at h
  exact h
theorem xwithin_mk {t : Ex} {r dp : Int} (h1 : (t.count : Int) ≤ r) (h2 : (t.high : Int) ≤ dp) (h3 : t.form = true) : xwithin t r dp = true := by
  simp only [xwithin, Bool.and_eq_true, decide_eq_true_eq]
  exact ⟨h1, h2, h3⟩
theorem xwithin_mark {nm : ByteArray} {n : Int} {ty : Ty} {x : Ex} {r dp : Int} (hf : fitsB 14 nm n ty 1 = true) (hk : x.kind ≠ 14) : xwithin (.node 14 nm n ty [x]) r dp = xwithin x r dp := by
  have e1 : (Ex.node 14 nm n ty [x]).count = x.count := by simp [Ex.count, Ex.counts]
  have e2 : (Ex.node 14 nm n ty [x]).high = x.high := by simp [Ex.high, Ex.highs]
  have e3 : (Ex.node 14 nm n ty [x]).form = x.form := by simp [Ex.form, Ex.forms, bareB, hk, hf]
  unfold xwithin; rw [e1, e2, e3]
theorem xwithin_sub {kd : Int} {nm : ByteArray} {n : Int} {ty : Ty} {es : List Ex} {r dp r2 : Int} {k : Nat} (hk : kd ≠ 14) (h : k < es.length) (hr : r2 = r - 1 - Ex.counts (es.take k)) (hf : xwithin es[k] r2 (dp - 1) = false) : xwithin (.node kd nm n ty es) r dp = false := by
  cases hw : xwithin (.node kd nm n ty es) r dp with
  | false => rfl
  | true =>
    obtain ⟨w1, w2, w3⟩ := xwithin_true hw
    simp only [Ex.count, Ex.high, Ex.form, if_neg hk, Bool.and_eq_true] at w1 w2 w3
    have h1 := Ex.counts_take es k h
    have h2 := Ex.counts_le_all es (k + 1)
    have h3 := Ex.highs_get es k h
    have h4 := Ex.forms_get es k h w3.1
    have : xwithin es[k] r2 (dp - 1) = true := xwithin_mk (by omega) (by omega) h4
    rw [this] at hf; cases hf
theorem room_start {p : Nat} {r : Int} {w w2 : World} (hp : p < w.heap.size) (hb : Below w.heap.size w w2) (e0 : w.cell? ⟨p, 0, none⟩ = some (.int .i64 r)) (e1 : w.frozen? ⟨p, 0, none⟩ = false) : Room p r w w2 :=
  ⟨(hb.cell (p := ⟨p, 0, none⟩) hp).trans e0, (hb.frozen (p := ⟨p, 0, none⟩) hp).trans e1, hb.mono (Nat.le_of_lt hp), fun b h _ => hb.block b h⟩
set_option maxRecDepth 100000 in
set_option maxHeartbeats 4000000 in
theorem implExWithin (w0 : World) (htab : TabAt w0) : ∀ (d : Nat) (v : Value) (t : Ex) (p : Nat) (r dp : Int) (w : World), ExAt w0 d v t → Below w0.heap.size w0 w → w0.heap.size ≤ p → t.bulk ≤ 1048576 → p < w.heap.size → 0 ≤ r → r ≤ 1048576 → 0 ≤ dp → dp ≤ 100 → w.cell? ⟨p, 0, none⟩ = some (.int .i64 r) → w.frozen? ⟨p, 0, none⟩ = false → Calls Tryz.prog 49 #[v, .pointer (some ⟨p, 0, none⟩), .int .i64 dp] w (XEnd p r dp t w)
  | 0, _, _, _, _, _, _, h, _, _, _, _, _, _, _, _, _, _ => h.elim
  | d + 1, v, .node kd nm n ty es, p, r, dp, w, h, hw0, hp0, hsz, hp, hr0, hr1, hd0, hd1, hcell, hfroz => by
    have IH : Hid (∀ (v : Value) (t : Ex) (p : Nat) (r dp : Int) (w : World), ExAt w0 d v t → Below w0.heap.size w0 w → w0.heap.size ≤ p → t.bulk ≤ 1048576 → p < w.heap.size → 0 ≤ r → r ≤ 1048576 → 0 ≤ dp → dp ≤ 100 → w.cell? ⟨p, 0, none⟩ = some (.int .i64 r) → w.frozen? ⟨p, 0, none⟩ = false → Calls Tryz.prog 49 #[v, .pointer (some ⟨p, 0, none⟩), .int .i64 dp] w (XEnd p r dp t w)) := implExWithin w0 htab d
    have HWH := Lib.hid h
    have HBK := Lib.hid hsz
    have HV := ex_parts h
    obtain ⟨c3, c4, sl, rfl, hk0, hk1, hn0, hn1, hnm, hty, a, cap, rfl, hcap, hcap2, hat⟩ := h
    obtain ⟨k', nm', n', tk, ta, tn, tc, sa, sn, sc, hv⟩ := HV
    injection hv with hv
    injection hv with hv
    simp at hv
    obtain ⟨rfl, rfl, rfl, rfl, rfl, rfl, rfl, rfl⟩ := hv
    have HAT := Lib.hid hat; clear hat
    have hbk : (Ex.node kd nm n ty es).bulk = nm.size + (ty.size - 1) + Ex.bulks es := rfl
    have HSZ : Hid (Ex.bulks es ≤ 1048576) := by show _ ≤ _; omega
    have HNM : Hid (nm.size ≤ 1048576) := by show _ ≤ _; omega
    have HTZ : Hid (ty.size ≤ 1048577) := by show _ ≤ _; omega
    have hlen : es.length ≤ 1048576 := by have := Ex.length_le es; omega
    clear hsz hbk hty
    have HW0 := Lib.hid hw0; clear hw0
    have HTB := Lib.hid (htab.below (HW0.out.alloc HW0.out.size (.cells #[.int .i64 kd, .string nm, .int .i64 n, .int .i64 tk, .slice ta tn tc, .slice a es.length cap] 38)))
    have HWX := Lib.hid (HWH.out.below (HW0.out.alloc HW0.out.size (.cells #[.int .i64 kd, .string nm, .int .i64 n, .int .i64 tk, .slice ta tn tc, .slice a es.length cap] 38)))
    have HC0 := Lib.hid hcell; have HC1 := Lib.hid hfroz
    clear hcell hfroz
    go_enter Tryz.func49, Tryz.ntmps49
    go_wp2_with fail
    refine (implFits d _ kd nm n ty es _ HWX.out HBK.out HTB.out).mono ?_
    rintro e w2 ⟨rfl, hb2⟩
    have B2 := Lib.hid (below_on (below_alloc w _) hb2 (by simp))
    have XA := Lib.hid ((BoxAt.new w #[.int .i64 kd, .string nm, .int .i64 n, .int .i64 tk, .slice ta tn tc, .slice a es.length cap] 38).below hb2)
    have R2 := Lib.hid (room_start hp B2.out HC0.out HC1.out)
    clear hb2 HWX HTB
    obtain ⟨hz2, e0, e1⟩ : w.heap.size ≤ w2.heap.size ∧ w2.cell? ⟨p, 0, none⟩ = some (.int .i64 r) ∧ w2.frozen? ⟨p, 0, none⟩ = false := ⟨B2.out.size, R2.out.1, R2.out.2.1⟩
    have b0 := XA.out.2 0
    have b1 := XA.out.2 1
    have b2 := XA.out.2 2
    have b3 := XA.out.2 3
    have b4 := XA.out.2 4
    have b5 := XA.out.2 5
    cases hfit : fitsB kd nm n ty es.length with
    | false =>
      have HNO := Lib.hid (xwithin_form (r := r) (dp := dp) (show (Ex.node kd nm n ty es).form = false by simp [Ex.form, hfit]))
      clear hfit
      go_wp2_with fail
      go_ret
      exact XEnd.of HNO.out R2.out (fun h => by cases h)
    | true =>
      have HFIT := Lib.hid hfit; clear hfit
      by_cases q : kd = 14
      · subst q
        have hl : es.length = 1 := by
          have h := HFIT.out
          simp only [fitsB, Bool.and_eq_true, decide_eq_true_eq] at h
          have h1 : (es.length : Int) = 1 := h.1
          omega
        obtain ⟨b, off, x0, x1, x2, x3, x4, x5, rfl, hbl, hc0, hc1, hc2, hc3, hc4, hc5, ht⟩ := HAT.out 0 (by omega)
        have hg := Ex.bulk_get es 0 (by omega)
        have HS2 := HSZ.out
        obtain ⟨yk, ynm, yn, ytk, yta, ytn, ytc, ya, ym, yc, rfl, rfl, rfl, rfl, rfl, rfl⟩ := ex_cells ht
        simp only [Nat.zero_mul, Nat.add_zero] at hc0 hc1 hc2 hc3 hc4 hc5
        have a0 : w2.cell? ⟨b, off, none⟩ = some (.int .i64 yk) := by rw [((HW0.out.trans (B2.out.mono HW0.out.size)).cell (p := ⟨b, off, none⟩) hbl)]; exact hc0
        have a1 : w2.cell? ⟨b, off + 1, none⟩ = some (.string ynm) := by rw [((HW0.out.trans (B2.out.mono HW0.out.size)).cell (p := ⟨b, off + 1, none⟩) hbl)]; exact hc1
        have a2 : w2.cell? ⟨b, off + 2, none⟩ = some (.int .i64 yn) := by rw [((HW0.out.trans (B2.out.mono HW0.out.size)).cell (p := ⟨b, off + 2, none⟩) hbl)]; exact hc2
        have a3 : w2.cell? ⟨b, off + 3, none⟩ = some (.int .i64 ytk) := by rw [((HW0.out.trans (B2.out.mono HW0.out.size)).cell (p := ⟨b, off + 3, none⟩) hbl)]; exact hc3
        have a4 : w2.cell? ⟨b, off + 4, none⟩ = some (.slice yta ytn ytc) := by rw [((HW0.out.trans (B2.out.mono HW0.out.size)).cell (p := ⟨b, off + 4, none⟩) hbl)]; exact hc4
        have a5 : w2.cell? ⟨b, off + 5, none⟩ = some (.slice ya ym yc) := by rw [((HW0.out.trans (B2.out.mono HW0.out.size)).cell (p := ⟨b, off + 5, none⟩) hbl)]; exact hc5
        obtain ⟨x, hx⟩ := List.length_eq_one_iff.1 hl
        have hx0 : es[0] = x := by subst hx; rfl
        have hkind : x.kind = yk := by rw [← hx0]; exact ex_kind ht
        have hgx : 1 + x.bulk ≤ Ex.bulks es := by rw [← hx0]; exact hg
        have HT : Hid (ExAt w0 d (.agg #[.int .i64 yk, .string ynm, .int .i64 yn, .int .i64 ytk, .slice yta ytn ytc, .slice ya ym yc]) x) := by show ExAt _ _ _ _; rw [← hx0]; exact ht
        have HX := Lib.hid hx
        have HL := Lib.hid hl
        have hpos : 0 < es.length := by omega
        have HKIND := Lib.hid hkind
        clear hc0 hc1 hc2 hc3 hc4 hc5 ht hx hx0 hg hl hkind
        by_cases q2 : yk = 14
        · subst q2
          have HNO := Lib.hid (xwithin_form (r := r) (dp := dp) (show (Ex.node 14 nm n ty es).form = false by rw [HX.out]; have h := HKIND.out; simp [Ex.form, bareB, h]))
          go_wp2_with fail
          go_ret
          exact XEnd.of HNO.out R2.out (fun h => by cases h)
        · have q2b : (yk == 14) = false := by simp [q2]
          have q2c : (yk != 14) = true := by simp [q2]
          have HEQ := Lib.hid (show xwithin (.node 14 nm n ty es) r dp = xwithin x r dp by rw [HX.out]; exact xwithin_mark (by have := HFIT.out; rw [HL.out] at this; exact this) (by rw [HKIND.out]; exact q2))
          have HCT : Hid ((Ex.node 14 nm n ty es).count = x.count) := by show _ = _; rw [HX.out]; simp [Ex.count, Ex.counts]
          have HB20 := Lib.hid (HW0.out.trans (B2.out.mono HW0.out.size))
          go_wp2_with fail
          refine (IH.out _ x p r dp w2 HT.out HB20.out hp0 (by omega) (by omega) hr0 hr1 hd0 hd1 e0 e1).mono ?_
          rintro e w3 ⟨r3, rfl, hR3, h3⟩
          have HR3 := Lib.hid (R2.out.on hR3)
          have H3 := Lib.hid h3
          clear hR3 h3
          go_wp2_with fail
          go_ret
          exact XEnd.of HEQ.out HR3.out (fun h => by rw [HCT.out]; exact H3.out h)
      · have qb0 : (kd == 14) = false := by simp [q]
        have HFIN : Hid ((Ex.node kd nm n ty es).count = 1 + Ex.counts es) := by show _ = _; simp [Ex.count, q]
        have HHI : Hid ((Ex.node kd nm n ty es).high = Ex.highs es + 1) := by show _ = _; simp [Ex.high, q]
        have R3 := Lib.hid (Room.stored (r := r - 1) hp B2.out e0 e1)
        have hpw : ¬ (p = w.heap.size) := by omega
        have EARLY : Hid (r < 1 ∨ dp = 0 → xwithin (.node kd nm n ty es) r dp = false) := fun h => by
          cases hw : xwithin (.node kd nm n ty es) r dp with
          | false => rfl
          | true =>
            obtain ⟨w1, w2, w3⟩ := xwithin_true hw
            rw [HFIN.out] at w1
            rw [HHI.out] at w2
            omega
        by_cases hr : r < 1
        · go_wp2_with fail
          go_ret
          exact XEnd.of (EARLY.out (Or.inl hr)) R3.out (fun h => by cases h)
        by_cases hd : dp = 0
        · have hdb : (dp == 0) = true := by simp [hd]
          go_wp2_with fail
          go_ret
          exact XEnd.of (EARLY.out (Or.inr hd)) R3.out (fun h => by cases h)
        have hdb : (dp == 0) = false := by simp [hd]
        clear EARLY
        have HXA3 := Lib.hid (XA.out.stored (q := p) (j := 0) (u := .int .i64 (r - 1)) (fun h => hpw h.symm))
        have HZ3 : Hid (w2.heap.size ≤ (w2.setCell ⟨p, 0, none⟩ (.int .i64 (r - 1))).heap.size) := by show _ ≤ _; simp
        go_wp2_with fail
        go_loopw [46] (fun i wr => ∃ k : Nat, k ≤ es.length ∧ i = .int .i64 k ∧ 0 ≤ r - 1 - (Ex.counts (es.take k) : Int) ∧ (Ex.highs (es.take k) : Int) ≤ dp - 1 ∧ Ex.forms (es.take k) = true ∧ Room p (r - 1 - Ex.counts (es.take k)) w wr ∧ BoxAt wr w.heap.size #[.int .i64 kd, .string nm, .int .i64 n, .int .i64 tk, .slice ta tn tc, .slice a es.length cap]) (fun i _ => es.length - (intOf i).toNat)
        case atStart => exact ⟨0, by omega, rfl, by simp [Ex.counts]; omega, by simp [Ex.highs]; omega, by simp [Ex.forms], by simpa [Ex.counts] using R3.out, HXA3.out⟩
        case round =>
          obtain ⟨k, hk, rfl, hs, hds, hf, hroom, hbx⟩ := hrel
          have b0 := hbx.2 0
          have b1 := hbx.2 1
          have b2 := hbx.2 2
          have b3 := hbx.2 3
          have b4 := hbx.2 4
          have b5 := hbx.2 5
          have HS := Lib.hid hs
          have HD := Lib.hid hds
          have HF := Lib.hid hf
          have HR := Lib.hid hroom
          have HX := Lib.hid hbx
          clear hs hds hf hroom hbx
          by_cases hlt : k < es.length
          · obtain ⟨b, off, x0, x1, x2, x3, x4, x5, rfl, hbl, hc0, hc1, hc2, hc3, hc4, hc5, ht⟩ := HAT.out k hlt
            have hg := Ex.bulk_get es k hlt
            have HS2 := HSZ.out
            obtain ⟨yk, ynm, yn, ytk, yta, ytn, ytc, ya, ym, yc, rfl, rfl, rfl, rfl, rfl, rfl⟩ := ex_cells ht
            have HB0r : Hid (Below w0.heap.size w0 wr) := HW0.out.trans (HR.out.2.2.1.mono hp0)
            have g0 : wr.cell? ⟨b, off + k * 6, none⟩ = some (.int .i64 yk) := by rw [HB0r.out.cell (p := ⟨b, off + k * 6, none⟩) hbl]; exact hc0
            have g1 : wr.cell? ⟨b, off + k * 6 + 1, none⟩ = some (.string ynm) := by rw [HB0r.out.cell (p := ⟨b, off + k * 6 + 1, none⟩) hbl]; exact hc1
            have g2 : wr.cell? ⟨b, off + k * 6 + 2, none⟩ = some (.int .i64 yn) := by rw [HB0r.out.cell (p := ⟨b, off + k * 6 + 2, none⟩) hbl]; exact hc2
            have g3 : wr.cell? ⟨b, off + k * 6 + 3, none⟩ = some (.int .i64 ytk) := by rw [HB0r.out.cell (p := ⟨b, off + k * 6 + 3, none⟩) hbl]; exact hc3
            have g4 : wr.cell? ⟨b, off + k * 6 + 4, none⟩ = some (.slice yta ytn ytc) := by rw [HB0r.out.cell (p := ⟨b, off + k * 6 + 4, none⟩) hbl]; exact hc4
            have g5 : wr.cell? ⟨b, off + k * 6 + 5, none⟩ = some (.slice ya ym yc) := by rw [HB0r.out.cell (p := ⟨b, off + k * 6 + 5, none⟩) hbl]; exact hc5
            have HT := Lib.hid ht
            clear ht hc0 hc1 hc2 hc3 hc4 hc5
            have hzr : w.heap.size ≤ wr.heap.size := HR.out.2.2.1.size
            have HB0b := Lib.hid (HB0r.out.alloc HB0r.out.size (.cells #[.int .i64 yk, .string ynm, .int .i64 yn, .int .i64 ytk, .slice yta ytn ytc, .slice ya ym yc] 38))
            have HRb := Lib.hid (HR.out.below hp (below_alloc wr (.cells #[.int .i64 yk, .string ynm, .int .i64 yn, .int .i64 ytk, .slice yta ytn ytc, .slice ya ym yc] 38)))
            have HXb := Lib.hid (HX.out.below (below_alloc wr (.cells #[.int .i64 yk, .string ynm, .int .i64 yn, .int .i64 ytk, .slice yta ytn ytc, .slice ya ym yc] 38)))
            have hs0 := HS.out
            have hcl : (Ex.counts (es.take k) : Int) ≤ 1048576 := by have := Ex.counts_part es k; omega
            go_wp2_with fail
            refine (IH.out _ es[k] p (r - 1 - Ex.counts (es.take k)) (dp - 1) (wr.alloc (.cells #[.int .i64 yk, .string ynm, .int .i64 yn, .int .i64 ytk, .slice yta ytn ytc, .slice ya ym yc] 38)) HT.out HB0b.out hp0 (by omega) (by simp; omega) (by omega) (by omega) (by omega) (by omega) HRb.out.1 HRb.out.2.1).mono ?_
            rintro e w3 ⟨r3, rfl, hR3, h3⟩
            have HX3 := Lib.hid (BoxAt.kept HXb.out hR3.2.2.1.size (hR3.2.2.2 _ HXb.out.1 (fun h => hpw h.symm)))
            have HR3 := Lib.hid (HRb.out.on hR3)
            have H3 := Lib.hid h3
            clear hR3 h3
            have HT2 := Lib.hid (Ex.counts_take es k hlt)
            cases hw : xwithin es[k] (r - 1 - Ex.counts (es.take k)) (dp - 1) with
            | false =>
              have HNO := Lib.hid (xwithin_sub (nm := nm) (n := n) (ty := ty) (r := r) q hlt rfl hw)
              clear hw
              go_wp2_with fail
              go_ret
              exact XEnd.of HNO.out HR3.out (fun h => by cases h)
            | true =>
              obtain ⟨v1, v2, v3⟩ := xwithin_true hw
              have hr3 := H3.out hw
              have HHT := Lib.hid (Ex.highs_take es k hlt)
              have HFT := Lib.hid (Ex.forms_take es k hlt)
              have HV1 := Lib.hid v1
              have HV2 := Lib.hid v2
              have HV3 := Lib.hid v3
              have HRR := Lib.hid hr3
              clear hw v1 v2 v3 hr3
              go_wp2_with fail
              refine ⟨⟨k + 1, by omega, by go_num, ?_, ?_, ?_, ?_, HX3.out⟩, by simp [intOf]; omega⟩
              · have h1 := HV1.out; rw [HT2.out]; omega
              · have h1 := HV2.out; have h2 := HD.out; rw [HHT.out]; omega
              · rw [HFT.out, HF.out, HV3.out]; rfl
              · have h1 := HR3.out; rw [HRR.out] at h1; rw [HT2.out]; have e : r - 1 - (Ex.counts (es.take k) : Int) - (es[k].count : Int) = r - 1 - ((Ex.counts (es.take k) + es[k].count : Nat) : Int) := by omega
                rw [e] at h1; exact h1
          · obtain rfl : k = es.length := by omega
            have HNO : Hid (xwithin (.node kd nm n ty es) r dp = true) := by
              have h1 := HS.out
              have h2 := HD.out
              have h3 := HF.out
              rw [List.take_length] at h1 h2 h3
              refine xwithin_mk (by rw [HFIN.out]; omega) (by rw [HHI.out]; omega) ?_
              have e : bareB kd es = true := by cases es with | nil => rfl | cons x r => simp [bareB, q]
              have hft := HFIT.out
              simp only [Ex.form, h3, e, hft, Bool.and_self]
            have HRL : Hid (Room p (r - 1 - Ex.counts es) w wr) := by have := HR.out; rw [List.take_length] at this; exact this
            go_wp2_with fail
            go_ret
            exact XEnd.of HNO.out HRL.out (fun _ => by rw [HFIN.out]; omega)
theorem xwithin_valid (t : Ex) : xwithin t 40 12 = t.valid := by
  have e1 : decide ((t.count : Int) ≤ 40) = decide (t.count ≤ 40) := decide_eq_decide.2 (by omega)
  have e2 : decide ((t.high : Int) ≤ 12) = decide (t.high ≤ 12) := decide_eq_decide.2 (by omega)
  unfold xwithin Ex.valid
  rw [e1, e2]
set_option maxRecDepth 100000 in
set_option maxHeartbeats 1000000 in
theorem implExValid (d : Nat) (v : Value) (t : Ex) (w : World) (h : ExAt w d v t) (hsz : t.bulk ≤ 1048576) (htab : TabAt w) :
    Calls Tryz.prog 33 #[v] w fun e w' => e = .returned (.bool t.valid) ∧ Below w.heap.size w w' := by
  have HT := Lib.hid h
  obtain ⟨yk, ynm, yn, ytk, yta, ytn, ytc, ya, ym, yc, rfl⟩ := ex_parts h
  clear h
  have X : Hid (Below w.heap.size w ((w.alloc (.cells #[.int .i64 yk, .string ynm, .int .i64 yn, .int .i64 ytk, .slice yta ytn ytc, .slice ya ym yc] 38)).alloc (.cells #[.int .i64 40] 3))) := ((Below.refl _ _).alloc (Nat.le_refl _) _).alloc (by simp) _
  go_enter Tryz.func33, Tryz.ntmps33
  go_wp2_with fail
  refine (implExWithin w htab d _ t (w.heap.size + 1) 40 12 _ HT.out X.out (by omega) hsz (by simp) (by omega) (by omega) (by omega) (by omega) (by simp [go_sem]) (by simp [go_sem])).mono ?_
  rintro e w' ⟨r', rfl, hr, _⟩
  have HB := Lib.hid (X.out.trans (hr.2.2.1.mono (Nat.le_succ _)))
  clear hr
  go_wp2_with fail
  go_ret
  exact ⟨by rw [xwithin_valid]; rfl, HB.out⟩
end Go.Proofs.YtimigpdbegfjaaaGreatDoor
/-
  Proved: FormatExpr gives the text of a valid expression, the empty text for others; the memory that was there stays as it was. On these terms: the table of arities and the library's table of powers of ten hold what the program's text lays.
-/
namespace Go.Proofs.YtimigpdbegfjaaaGreatDoor
open Go.RowKit

def ExTabs (w : World) : Prop := TabAt w ∧ Pow10At w
theorem ExTabs.below {w w' : World} (h : ExTabs w) (hb : Below w.heap.size w w') : ExTabs w' := ⟨h.1.below hb, h.2.below hb⟩
set_option maxRecDepth 100000 in
set_option maxHeartbeats 1000000 in
theorem specFormatExpr (d : Nat) (v : Value) (t : Ex) (w : World) (h : ExAt w d v t) (hsz : t.bulk ≤ 1048576) :
    Calls Tryz.prog 12 #[v] w fun e w' => e = .returned (.string t.shown) ∧ Below w.heap.size w w' := by
  have HT := Lib.hid h
  obtain ⟨yk, ynm, yn, ytk, yta, ytn, ytc, ya, ym, yc, rfl⟩ := ex_parts h
  clear h
  have B : Hid (Below w.heap.size w (w.alloc (.cells #[.int .i64 yk, .string ynm, .int .i64 yn, .int .i64 ytk, .slice yta ytn ytc, .slice ya ym yc] 38))) := below_alloc _ _
  have HA := Lib.hid (HT.out.below B.out)
  have XA : Hid (BoxAt (w.alloc (.cells #[.int .i64 yk, .string ynm, .int .i64 yn, .int .i64 ytk, .slice yta ytn ytc, .slice ya ym yc] 38)) w.heap.size #[.int .i64 yk, .string ynm, .int .i64 yn, .int .i64 ytk, .slice yta ytn ytc, .slice ya ym yc]) := BoxAt.new _ _ _
  clear HT
  go_enter Tryz.func12, Tryz.ntmps12
  go_wp2_with fail
  refine (specExValid d _ t _ HA.out hsz).mono ?_
  rintro e w1 ⟨rfl, hb⟩
  replace B := Lib.hid (below_thru B.out (Nat.le_refl _) hb)
  replace HA := Lib.hid (HA.out.below hb)
  replace XA := Lib.hid (XA.out.below hb)
  clear hb
  cases hv : t.valid with
  | false =>
    have HV := Lib.hid (shown_bad hv); clear hv
    go_wp2_with fail
    go_ret
    exact ⟨by rw [HV.out]; rfl, B.out⟩
  | true =>
    have HV := Lib.hid (shown_good hv)
    have hfm : t.form = true := by simp only [Ex.valid, Bool.and_eq_true] at hv; exact hv.2.2
    clear hv
    have a0 := XA.out.2 0
    have a1 := XA.out.2 1
    have a2 := XA.out.2 2
    have a3 := XA.out.2 3
    have a4 := XA.out.2 4
    have a5 := XA.out.2 5
    go_wp2_with fail
    refine (specExText d _ t _ HA.out hfm hsz).mono ?_
    rintro e w2 ⟨rfl, hb⟩
    have B2 := Lib.hid (below_thru B.out (Nat.le_refl _) hb)
    clear hb hfm
    go_wp2_with fail
    go_ret
    exact ⟨by rw [HV.out]; rfl, B2.out⟩
set_option maxRecDepth 100000 in
set_option maxHeartbeats 1000000 in
theorem implFormatExpr (d : Nat) (v : Value) (t : Ex) (w : World) (h : ExAt w d v t) (hsz : t.bulk ≤ 1048576) (htab : ExTabs w) :
    Calls Tryz.prog 17 #[v] w fun e w' => e = .returned (.string t.shown) ∧ Below w.heap.size w w' := by
  have HT := Lib.hid h
  obtain ⟨yk, ynm, yn, ytk, yta, ytn, ytc, ya, ym, yc, rfl⟩ := ex_parts h
  clear h
  have B : Hid (Below w.heap.size w (w.alloc (.cells #[.int .i64 yk, .string ynm, .int .i64 yn, .int .i64 ytk, .slice yta ytn ytc, .slice ya ym yc] 38))) := below_alloc _ _
  have HA := Lib.hid (HT.out.below B.out)
  have XA : Hid (BoxAt (w.alloc (.cells #[.int .i64 yk, .string ynm, .int .i64 yn, .int .i64 ytk, .slice yta ytn ytc, .slice ya ym yc] 38)) w.heap.size #[.int .i64 yk, .string ynm, .int .i64 yn, .int .i64 ytk, .slice yta ytn ytc, .slice ya ym yc]) := BoxAt.new _ _ _
  have HTB := Lib.hid (htab.below B.out)
  clear htab
  clear HT
  go_enter Tryz.func17, Tryz.ntmps17
  go_wp2_with fail
  refine (implExValid d _ t _ HA.out hsz HTB.out.1).mono ?_
  rintro e w1 ⟨rfl, hb⟩
  replace B := Lib.hid (below_thru B.out (Nat.le_refl _) hb)
  replace HA := Lib.hid (HA.out.below hb)
  replace XA := Lib.hid (XA.out.below hb)
  replace HTB := Lib.hid (HTB.out.below hb)
  clear hb
  cases hv : t.valid with
  | false =>
    have HV := Lib.hid (shown_bad hv); clear hv
    go_wp2_with fail
    go_ret
    exact ⟨by rw [HV.out]; rfl, B.out⟩
  | true =>
    have HV := Lib.hid (shown_good hv)
    have hfm : t.form = true := by simp only [Ex.valid, Bool.and_eq_true] at hv; exact hv.2.2
    clear hv
    have a0 := XA.out.2 0
    have a1 := XA.out.2 1
    have a2 := XA.out.2 2
    have a3 := XA.out.2 3
    have a4 := XA.out.2 4
    have a5 := XA.out.2 5
    go_wp2_with fail
    refine (implExText d _ t _ HA.out hfm hsz HTB.out.2).mono ?_
    rintro e w2 ⟨rfl, hb⟩
    have B2 := Lib.hid (below_thru B.out (Nat.le_refl _) hb)
    clear hb hfm
    go_wp2_with fail
    go_ret
    exact ⟨by rw [HV.out]; rfl, B2.out⟩
end Go.Proofs.YtimigpdbegfjaaaGreatDoor
/-
  Proved: plain facts on the node at a path; no program.
-/
namespace Go.Proofs.YtimigpdbegfjaaaGreatDoor
open Go.RowKit

/-- The parts of an expression's root. -/
def Ex.parts : Ex → List Ex
  | .node _ _ _ _ es => es
/-- The node at a path. -/
def Ex.sub : Ex → List Int → Option Ex
  | e, [] => some e
  | e, p :: r => if 0 ≤ p then (match e.parts[p.toNat]? with | some x => x.sub r | none => none) else none
theorem sub_nil (e : Ex) : e.sub [] = some e := by unfold Ex.sub; rfl
theorem sub_step {e : Ex} {p : Int} {r : List Int} (h0 : 0 ≤ p) (h1 : p.toNat < e.parts.length) : e.sub (p :: r) = (e.parts[p.toNat]).sub r := by
  conv => lhs; unfold Ex.sub
  rw [if_pos h0, List.getElem?_eq_getElem h1]
theorem sub_low {e : Ex} {p : Int} {r : List Int} (h : p < 0) : e.sub (p :: r) = none := by
  unfold Ex.sub
  rw [if_neg (by omega)]
theorem sub_high {e : Ex} {p : Int} {r : List Int} (h : (e.parts.length : Int) ≤ p) : e.sub (p :: r) = none := by
  unfold Ex.sub
  rw [if_pos (by omega), List.getElem?_eq_none (by omega)]
theorem drop_at (ps : List Int) (k : Nat) (h : k < ps.length) : ps.drop k = ps[k] :: ps.drop (k + 1) := List.drop_eq_getElem_cons h
theorem part_bulk {e : Ex} {k : Nat} (h : k < e.parts.length) : (e.parts[k]).bulk ≤ e.bulk := by
  cases e with
  | node kd nm n ty es =>
    have h1 : k < es.length := h
    have := Ex.bulk_get es k h1
    show es[k].bulk ≤ nm.size + (ty.size - 1) + Ex.bulks es
    omega
/-- The parts of an expression in memory, one by one. -/
theorem ex_row {w : World} {d : Nat} {c0 c1 c2 c3 c4 : Value} {a : Option Addr} {m c : Nat} {e : Ex} (h : ExAt w d (.agg #[c0, c1, c2, c3, c4, .slice a m c]) e) :
    m = e.parts.length ∧ m ≤ c ∧ c ≤ 9223372036854775807 ∧ ∀ j (h : j < e.parts.length), ∃ b off x0 x1 x2 x3 x4 x5, a = some ⟨b, off, none⟩ ∧ b < w.heap.size ∧ w.cell? ⟨b, off + j * 6, none⟩ = some x0 ∧ w.cell? ⟨b, off + j * 6 + 1, none⟩ = some x1 ∧ w.cell? ⟨b, off + j * 6 + 2, none⟩ = some x2 ∧
      w.cell? ⟨b, off + j * 6 + 3, none⟩ = some x3 ∧ w.cell? ⟨b, off + j * 6 + 4, none⟩ = some x4 ∧ w.cell? ⟨b, off + j * 6 + 5, none⟩ = some x5 ∧ ExAt w d (.agg #[x0, x1, x2, x3, x4, x5]) e.parts[j] := by
  cases d with
  | zero => exact h.elim
  | succ d =>
    cases e with
    | node kd nm n ty es =>
      obtain ⟨z3, z4, sl, hv, _, _, _, _, _, _, a', cap', hs, hc, hc2, hat⟩ := h
      injection hv with hv
      injection hv with hv
      simp at hv
      obtain ⟨_, _, _, _, _, hsl⟩ := hv
      rw [hs] at hsl
      injection hsl with e1 e2 e3
      subst e1 e2 e3
      refine ⟨rfl, hc, hc2, fun j hj => ?_⟩
      obtain ⟨b, off, x0, x1, x2, x3, x4, x5, ha, hb, h0, h1, h2, h3, h4, h5, hr⟩ := hat j hj
      exact ⟨b, off, x0, x1, x2, x3, x4, x5, ha, hb, h0, h1, h2, h3, h4, h5, hr.succ⟩
end Go.Proofs.YtimigpdbegfjaaaGreatDoor
/-
  Proved: plain facts on types no part of which is unknown; no program.
-/
namespace Go.Proofs.YtimigpdbegfjaaaGreatDoor
open Go.RowKit

mutual
def Ty.known : Ty → Bool
  | .node k ts => Ty.knowns ts && !decide (k = 1)
def Ty.knowns : List Ty → Bool
  | [] => true
  | t :: r => t.known && Ty.knowns r
end
theorem Ty.knowns_take (ts : List Ty) : ∀ k (h : k < ts.length), Ty.knowns (ts.take (k + 1)) = (Ty.knowns (ts.take k) && ts[k].known) := by
  induction ts with
  | nil => intro k h; simp at h
  | cons s r ih =>
    intro k h
    cases k with
    | zero => simp [Ty.knowns]
    | succ k =>
      simp only [List.take_succ_cons, Ty.knowns, List.getElem_cons_succ]
      rw [ih k (by simpa using h), Bool.and_assoc]
theorem Ty.knowns_false (ts : List Ty) (k : Nat) (h : Ty.knowns (ts.take k) = false) : Ty.knowns ts = false := by
  induction ts generalizing k with
  | nil => simp [Ty.knowns] at h
  | cons s r ih =>
    cases k with
    | zero => simp [Ty.knowns] at h
    | succ k =>
      simp only [List.take_succ_cons, Ty.knowns, Bool.and_eq_false_iff] at h ⊢
      rcases h with h | h
      · exact Or.inl h
      · exact Or.inr (ih k h)

end Go.Proofs.YtimigpdbegfjaaaGreatDoor
/-
  Proved: plain facts on what occurs in an expression: a kind, and types that say all.
-/
namespace Go.Proofs.YtimigpdbegfjaaaGreatDoor
open Go.RowKit

mutual
/-- A node of the kind x occurs. -/
def Ex.has (x : Int) : Ex → Bool
  | .node k _ _ _ es => Ex.hass x es || decide (k = x)
def Ex.hass (x : Int) : List Ex → Bool
  | [] => false
  | e :: r => e.has x || Ex.hass x r
end
mutual
/-- The types of functions and of ascriptions say all. -/
def Ex.full : Ex → Bool
  | .node k _ _ ty es => Ex.fulls es && (!(decide (k = 3) || decide (k = 13)) || (ty.valid && ty.known))
def Ex.fulls : List Ex → Bool
  | [] => true
  | e :: r => e.full && Ex.fulls r
end
theorem Ex.hass_take (x : Int) (es : List Ex) : ∀ k (h : k < es.length), Ex.hass x (es.take (k + 1)) = (Ex.hass x (es.take k) || es[k].has x) := by
  induction es with
  | nil => intro k h; simp at h
  | cons s r ih =>
    intro k h
    cases k with
    | zero => simp [Ex.hass]
    | succ k =>
      simp only [List.take_succ_cons, Ex.hass, List.getElem_cons_succ]
      rw [ih k (by simpa using h), Bool.or_assoc]
theorem Ex.hass_true (x : Int) (es : List Ex) (k : Nat) (h : Ex.hass x (es.take k) = true) : Ex.hass x es = true := by
  induction es generalizing k with
  | nil => simp [Ex.hass] at h
  | cons s r ih =>
    cases k with
    | zero => simp [Ex.hass] at h
    | succ k =>
      simp only [List.take_succ_cons, Ex.hass, Bool.or_eq_true] at h ⊢
      rcases h with h | h
      · exact Or.inl h
      · exact Or.inr (ih k h)
theorem Ex.fulls_take (es : List Ex) : ∀ k (h : k < es.length), Ex.fulls (es.take (k + 1)) = (Ex.fulls (es.take k) && es[k].full) := by
  induction es with
  | nil => intro k h; simp at h
  | cons s r ih =>
    intro k h
    cases k with
    | zero => simp [Ex.fulls]
    | succ k =>
      simp only [List.take_succ_cons, Ex.fulls, List.getElem_cons_succ]
      rw [ih k (by simpa using h), Bool.and_assoc]
theorem Ex.fulls_false (es : List Ex) (k : Nat) (h : Ex.fulls (es.take k) = false) : Ex.fulls es = false := by
  induction es generalizing k with
  | nil => simp [Ex.fulls] at h
  | cons s r ih =>
    cases k with
    | zero => simp [Ex.fulls] at h
    | succ k =>
      simp only [List.take_succ_cons, Ex.fulls, Bool.and_eq_false_iff] at h ⊢
      rcases h with h | h
      · exact Or.inl h
      · exact Or.inr (ih k h)
end Go.Proofs.YtimigpdbegfjaaaGreatDoor
/-
  Proved: plain facts on valid edits; no program.
-/
namespace Go.Proofs.YtimigpdbegfjaaaGreatDoor

/-- An edit: a raw expression, and the path of one of its nodes. -/
def Edi.okB (a : Edi) : Bool := (a.ex.sub a.path).isSome && (a.ex.valid && !a.ex.has 14)
end Go.Proofs.YtimigpdbegfjaaaGreatDoor
/-
  Proved: plain facts on a row of expressions that a call builds by append: each has blocks of its own, apart from the row's.
-/
namespace Go.Proofs.YtimigpdbegfjaaaGreatDoor
open Go.RowKit

def ExRow (w : World) (base d : Nat) (v : Value) (ts : List Ex) : Prop :=
  ∃ cs fps, w.ownsRow base 38 6 v ts.length cs ∧ fps.length = ts.length ∧ Fp base w.heap.size (List.flatten fps) ∧ (∀ g, v.ownBlock = some g → g ∉ List.flatten fps) ∧
    ∀ j (h : j < ts.length), ∃ c0 c1 c2 c3 c4 c5 f, cs[j * 6]? = some c0 ∧ cs[j * 6 + 1]? = some c1 ∧ cs[j * 6 + 2]? = some c2 ∧ cs[j * 6 + 3]? = some c3 ∧ cs[j * 6 + 4]? = some c4 ∧ cs[j * 6 + 5]? = some c5 ∧ fps[j]? = some f ∧ ExOwn w d (.agg #[c0, c1, c2, c3, c4, c5]) ts[j] f
theorem ExRow.nil (w : World) (base d : Nat) : ExRow w base d (.slice none 0 0) [] :=
  ⟨[], [], World.ownsRow_nil _ _ _ _, rfl, Fp.nil _ _, fun g hg => by simp, fun j hj => by simp at hj⟩
theorem flat_mem {fps : List (List Nat)} {j b : Nat} {f : List Nat} (h : fps[j]? = some f) (hb : b ∈ f) : b ∈ fps.flatten := List.mem_flatten.2 ⟨f, List.mem_of_getElem? h, hb⟩
theorem ExRow.kept {w w' : World} {base d : Nat} {v : Value} {ts : List Ex} (h : ExRow w base d v ts) (hz : w.heap.size ≤ w'.heap.size) (hk : ∀ b, base ≤ b → b < w.heap.size → w'.heap[b]? = w.heap[b]?) : ExRow w' base d v ts := by
  obtain ⟨cs, fps, hown, hl, hf, hg, hat⟩ := h
  have hlt := hown.lt
  refine ⟨cs, fps, ⟨hown.1, ?_⟩, hl, hf.mono (Nat.le_refl _) hz, hg, fun j hj => ?_⟩
  · rcases hown.2 with h | ⟨g, cap, cur, rfl, r1, r2, r3⟩
    · exact Or.inl h
    · exact Or.inr ⟨g, cap, cur, rfl, r1, by rw [hk g (hlt g rfl).1 (hlt g rfl).2]; exact r2, r3⟩
  · obtain ⟨c0, c1, c2, c3, c4, c5, f, g0, g1, g2, g3, g4, g5, h2, h3⟩ := hat j hj
    exact ⟨c0, c1, c2, c3, c4, c5, f, g0, g1, g2, g3, g4, g5, h2, h3.kept hz fun b hb => by have := hf.2 b (flat_mem h2 hb); exact hk b this.1 this.2⟩
theorem ExRow.below {w w' : World} {base d : Nat} {v : Value} {ts : List Ex} (h : ExRow w base d v ts) (hb : Below w.heap.size w w') : ExRow w' base d v ts :=
  h.kept hb.size fun b _ hlt => hb.block b hlt
theorem ExRow.stored {w : World} {base d : Nat} {v : Value} {ts : List Ex} (h : ExRow w base d v ts) {p o : Nat} (hp : p < base) (u : Value) : ExRow (w.setCell ⟨p, o, none⟩ u) base d v ts :=
  h.kept (by simp) fun b hb _ => heap_setCell_other _ _ _ _ (by simp; omega)
theorem ExRow.form {w : World} {base d : Nat} {v : Value} {ts : List Ex} (h : ExRow w base d v ts) : ∃ a c, v = .slice a ts.length c := by
  obtain ⟨cs, fps, hown, _⟩ := h
  rcases hown.2 with ⟨h1, h2⟩ | ⟨g, cap, cur, h1, _⟩
  · exact ⟨none, 0, by rw [h1, h2]⟩
  · exact ⟨_, cap, h1⟩
/-- An element is appended: wr is the world ahead of the element, w' the one behind it, w1 the one behind the append. -/
theorem ExRow.append {wr w' : World} {base d : Nat} {v z0 z1 z2 z3 z4 z5 : Value} {ts : List Ex} {t : Ex} {f : List Nat} (h : ExRow wr base d v ts) (hb : Below wr.heap.size wr w') (hbase : base ≤ wr.heap.size)
    (ht : ExOwn w' d (.agg #[z0, z1, z2, z3, z4, z5]) t f) (hft : Fp wr.heap.size w'.heap.size f) :
    ∃ cs, w'.ownsRow base 38 6 v ts.length cs ∧ ∀ (o : Obj) (g cap : Nat) (w1 : World), w1.ownsRow base 38 6 (.slice (some ⟨g, 0, none⟩) (ts.length + 1) cap) (ts.length + 1) (cs ++ [z0, z1, z2, z3, z4, z5]) →
      (w'.alloc o).grownBy w1 v.ownBlock → (v.ownBlock = some g ∨ g = w'.heap.size + 1) → ExRow w1 base d (.slice (some ⟨g, 0, none⟩) (ts.length + 1) cap) (ts ++ [t]) := by
  obtain ⟨cs, fps, hown, hl, hf, hg, hat⟩ := h
  have hlt := hown.lt
  have hcs : cs.length = ts.length * 6 := hown.1
  have hz := hb.size
  refine ⟨cs, own_below hown hb, fun o g cap w1 hown1 hgrow hnew => ?_⟩
  have hza : (w'.alloc o).heap.size = w'.heap.size + 1 := by simp
  have hz1 := hgrow.size
  rw [hza] at hz1
  have hkeep : ∀ b, b < w'.heap.size → v.ownBlock ≠ some b → w1.heap[b]? = w'.heap[b]? := fun b h1 h2 => by
    rw [hgrow.block b (by rw [hza]; omega) (fun e => h2 e.symm), heap_alloc_old _ _ h1]
  refine ⟨_, fps ++ [f], by simpa using hown1, by simp [hl], ?_, ?_, fun j hj => ?_⟩
  · rw [List.flatten_append, List.flatten_cons, List.flatten_nil, List.append_nil]
    exact (hf.join hft hbase hz).mono (Nat.le_refl _) (by omega)
  · intro g' hg'
    simp only [Value.ownBlock, Option.some.injEq] at hg'
    subst hg'
    rw [List.flatten_append, List.flatten_cons, List.flatten_nil, List.append_nil]
    intro hm
    rcases List.mem_append.1 hm with hm | hm
    · rcases hnew with h | h
      · exact hg _ h hm
      · have := (hf.2 _ hm).2; omega
    · rcases hnew with h | h
      · have := (hlt _ h).2; have := (hft.2 _ hm).1; omega
      · have := (hft.2 _ hm).2; omega
  · by_cases hjn : j = ts.length
    · subst hjn
      refine ⟨z0, z1, z2, z3, z4, z5, f, ?_, ?_, ?_, ?_, ?_, ?_, ?_, ?_⟩
      · rw [List.getElem?_append_right (by omega), hcs]; simp
      · rw [List.getElem?_append_right (by omega), hcs]; simp
      · rw [List.getElem?_append_right (by omega), hcs]; simp
      · rw [List.getElem?_append_right (by omega), hcs]; simp
      · rw [List.getElem?_append_right (by omega), hcs]; simp
      · rw [List.getElem?_append_right (by omega), hcs]; simp
      · rw [List.getElem?_append_right (by omega), hl]; simp
      · rw [List.getElem_append_right (by omega)]
        simp only [Nat.sub_self, List.getElem_cons_zero]
        exact ht.kept (by omega) fun b hbf => hkeep b (hft.2 b hbf).2 (fun e => by have := (hlt b e).2; have := (hft.2 b hbf).1; omega)
    · have hj2 : j < ts.length := by simp at hj; omega
      obtain ⟨c0, c1, c2, c3, c4, c5, f', g0, g1, g2, g3, g4, g5, h2, h3⟩ := hat j hj2
      refine ⟨c0, c1, c2, c3, c4, c5, f', ?_, ?_, ?_, ?_, ?_, ?_, ?_, ?_⟩
      · rw [List.getElem?_append_left (by omega)]; exact g0
      · rw [List.getElem?_append_left (by omega)]; exact g1
      · rw [List.getElem?_append_left (by omega)]; exact g2
      · rw [List.getElem?_append_left (by omega)]; exact g3
      · rw [List.getElem?_append_left (by omega)]; exact g4
      · rw [List.getElem?_append_left (by omega)]; exact g5
      · rw [List.getElem?_append_left (by omega)]; exact h2
      · rw [List.getElem_append_left hj2]
        exact (h3.kept hb.size fun b hb3 => hb.block b (hf.2 b (flat_mem h2 hb3)).2).kept (by omega) fun b hbf => hkeep b (by have := (hf.2 b (flat_mem h2 hbf)).2; omega) (fun e => hg b e (flat_mem h2 hbf))
/-- The row is whole: the expression with this row has blocks of its own. -/
theorem ExRow.tree {w : World} {base mid d : Nat} {v c3 c4 : Value} {ts : List Ex} (h : ExRow w mid d v ts) (k : Int) (nm : ByteArray) (n : Int) (ty : Ty) (f1 : List Nat) (h0 : -9223372036854775808 ≤ k) (h1 : k ≤ 9223372036854775807) (h2 : -9223372036854775808 ≤ n) (h3 : n ≤ 9223372036854775807) (h4 : nm.size ≤ 9223372036854775807)
    (hty : TyOwn w d (.agg #[c3, c4]) ty f1) (hf1 : Fp base mid f1) (hbm : base ≤ mid) (hmw : mid ≤ w.heap.size) :
    ∃ fp, ExOwn w (d + 1) (.agg #[.int .i64 k, .string nm, .int .i64 n, c3, c4, v]) (.node k nm n ty ts) fp ∧ Fp base w.heap.size fp := by
  obtain ⟨cs, fps, hown, hl, hf, hg, hat⟩ := h
  have hcs : cs.length = ts.length * 6 := hown.1
  rcases hown.2 with ⟨rfl, hn⟩ | ⟨g, cap, cur, rfl, hbg, hgc, hnc, hm, hcur, htake⟩
  · have hts : ts = [] := List.eq_nil_of_length_eq_zero hn
    subst hts
    exact ⟨f1 ++ [], ⟨c3, c4, _, f1, [], rfl, h0, h1, h2, h3, h4, rfl, hty, none, 0, [], [], rfl, Nat.le_refl _, by omega, rfl, rfl, (fun b hb => by cases hb), fun j hj => by simp at hj⟩, by rw [List.append_nil]; exact hf1.mono (Nat.le_refl _) hmw⟩
  · have hlt := (hown.lt g rfl).2
    refine ⟨f1 ++ ([g] ++ fps.flatten), ⟨c3, c4, _, f1, [g] ++ fps.flatten, rfl, h0, h1, h2, h3, h4, rfl, hty, some ⟨g, 0, none⟩, cap, [g], fps, rfl, hnc, by unfold maxLen at hm; omega, hl, rfl, fun b hb => by cases List.mem_singleton.1 hb; exact hlt, fun j hj => ?_⟩, hf1.join ?_ hbm hmw⟩
    · obtain ⟨c0, c1, c2, c3, c4, c5, f, e0, e1, e2, e3, e4, e5, e6, e7⟩ := hat j hj
      exact ⟨g, 0, c0, c1, c2, c3, c4, c5, f, rfl, rfl, hlt, by rw [Nat.zero_add, hown.cellAt (j * 6) (by omega)]; exact e0, by rw [Nat.zero_add, hown.cellAt (j * 6 + 1) (by omega)]; exact e1, by rw [Nat.zero_add, hown.cellAt (j * 6 + 2) (by omega)]; exact e2,
        by rw [Nat.zero_add, hown.cellAt (j * 6 + 3) (by omega)]; exact e3, by rw [Nat.zero_add, hown.cellAt (j * 6 + 4) (by omega)]; exact e4, by rw [Nat.zero_add, hown.cellAt (j * 6 + 5) (by omega)]; exact e5, fun o => hown.frozenAt o, e6, e7⟩
    · refine ⟨?_, fun b hb => ?_⟩
      · rw [List.singleton_append, List.nodup_cons]
        exact ⟨hg g rfl, hf.1⟩
      · rcases List.mem_append.1 hb with hb | hb
        · cases List.mem_singleton.1 hb; exact ⟨hbg, hlt⟩
        · exact hf.2 b hb
end Go.Proofs.YtimigpdbegfjaaaGreatDoor
/-
  Proved: plain facts on a row of trees that a call builds by append: each tree has blocks of its own, apart from the row's.
-/
namespace Go.Proofs.YtimigpdbegfjaaaGreatDoor
open Go.RowKit

def CopyRow (w : World) (base d : Nat) (v : Value) (ts : List Ty) : Prop :=
  ∃ cs fps, w.ownsRow base 35 2 v ts.length cs ∧ fps.length = ts.length ∧ Fp base w.heap.size (List.flatten fps) ∧ (∀ g, v.ownBlock = some g → g ∉ List.flatten fps) ∧
    ∀ j (h : j < ts.length), ∃ c0 c1 f, cs[j * 2]? = some c0 ∧ cs[j * 2 + 1]? = some c1 ∧ fps[j]? = some f ∧ TyOwn w d (.agg #[c0, c1]) ts[j] f
theorem CopyRow.nil (w : World) (base d : Nat) : CopyRow w base d (.slice none 0 0) [] :=
  ⟨[], [], World.ownsRow_nil _ _ _ _, rfl, Fp.nil _ _, fun g hg => by simp, fun j hj => by simp at hj⟩
theorem CopyRow.kept {w w' : World} {base d : Nat} {v : Value} {ts : List Ty} (h : CopyRow w base d v ts) (hz : w.heap.size ≤ w'.heap.size) (hk : ∀ b, base ≤ b → b < w.heap.size → w'.heap[b]? = w.heap[b]?) : CopyRow w' base d v ts := by
  obtain ⟨cs, fps, hown, hl, hf, hg, hat⟩ := h
  have hlt := hown.lt
  refine ⟨cs, fps, ⟨hown.1, ?_⟩, hl, hf.mono (Nat.le_refl _) hz, hg, fun j hj => ?_⟩
  · rcases hown.2 with h | ⟨g, cap, cur, rfl, r1, r2, r3⟩
    · exact Or.inl h
    · exact Or.inr ⟨g, cap, cur, rfl, r1, by rw [hk g (hlt g rfl).1 (hlt g rfl).2]; exact r2, r3⟩
  · obtain ⟨c0, c1, f, h0, h1, h2, h3⟩ := hat j hj
    exact ⟨c0, c1, f, h0, h1, h2, h3.kept hz fun b hb => by have := hf.2 b (flat_mem h2 hb); exact hk b this.1 this.2⟩
theorem CopyRow.below {w w' : World} {base d : Nat} {v : Value} {ts : List Ty} (h : CopyRow w base d v ts) (hb : Below w.heap.size w w') : CopyRow w' base d v ts :=
  h.kept hb.size fun b _ hlt => hb.block b hlt
theorem CopyRow.stored {w : World} {base d : Nat} {v : Value} {ts : List Ty} (h : CopyRow w base d v ts) {p o : Nat} (hp : p < base) (u : Value) : CopyRow (w.setCell ⟨p, o, none⟩ u) base d v ts :=
  h.kept (by simp) fun b hb _ => heap_setCell_other _ _ _ _ (by simp; omega)
theorem CopyRow.form {w : World} {base d : Nat} {v : Value} {ts : List Ty} (h : CopyRow w base d v ts) : ∃ a c, v = .slice a ts.length c := by
  obtain ⟨cs, fps, hown, _⟩ := h
  rcases hown.2 with ⟨h1, h2⟩ | ⟨g, cap, cur, h1, _⟩
  · exact ⟨none, 0, by rw [h1, h2]⟩
  · exact ⟨_, cap, h1⟩
/-- An element is appended: wr is the world ahead of the element, w' the one behind it, w1 the one behind the append. -/
theorem CopyRow.append {wr w' : World} {base d : Nat} {v z0 z1 : Value} {ts : List Ty} {t : Ty} {f : List Nat} (h : CopyRow wr base d v ts) (hb : Below wr.heap.size wr w') (hbase : base ≤ wr.heap.size)
    (ht : TyOwn w' d (.agg #[z0, z1]) t f) (hft : Fp wr.heap.size w'.heap.size f) :
    ∃ cs, w'.ownsRow base 35 2 v ts.length cs ∧ ∀ (o : Obj) (g cap : Nat) (w1 : World), w1.ownsRow base 35 2 (.slice (some ⟨g, 0, none⟩) (ts.length + 1) cap) (ts.length + 1) (cs ++ [z0, z1]) →
      (w'.alloc o).grownBy w1 v.ownBlock → (v.ownBlock = some g ∨ g = w'.heap.size + 1) → CopyRow w1 base d (.slice (some ⟨g, 0, none⟩) (ts.length + 1) cap) (ts ++ [t]) := by
  obtain ⟨cs, fps, hown, hl, hf, hg, hat⟩ := h
  have hlt := hown.lt
  have hcs : cs.length = ts.length * 2 := hown.1
  have hz := hb.size
  refine ⟨cs, own_below hown hb, fun o g cap w1 hown1 hgrow hnew => ?_⟩
  have hza : (w'.alloc o).heap.size = w'.heap.size + 1 := by simp
  have hz1 := hgrow.size
  rw [hza] at hz1
  have hkeep : ∀ b, b < w'.heap.size → v.ownBlock ≠ some b → w1.heap[b]? = w'.heap[b]? := fun b h1 h2 => by
    rw [hgrow.block b (by rw [hza]; omega) (fun e => h2 e.symm), heap_alloc_old _ _ h1]
  refine ⟨_, fps ++ [f], by simpa using hown1, by simp [hl], ?_, ?_, fun j hj => ?_⟩
  · rw [List.flatten_append, List.flatten_cons, List.flatten_nil, List.append_nil]
    exact (hf.join hft hbase hz).mono (Nat.le_refl _) (by omega)
  · intro g' hg'
    simp only [Value.ownBlock, Option.some.injEq] at hg'
    subst hg'
    rw [List.flatten_append, List.flatten_cons, List.flatten_nil, List.append_nil]
    intro hm
    rcases List.mem_append.1 hm with hm | hm
    · rcases hnew with h | h
      · exact hg _ h hm
      · have := (hf.2 _ hm).2; omega
    · rcases hnew with h | h
      · have := (hlt _ h).2; have := (hft.2 _ hm).1; omega
      · have := (hft.2 _ hm).2; omega
  · by_cases hjn : j = ts.length
    · subst hjn
      refine ⟨z0, z1, f, ?_, ?_, ?_, ?_⟩
      · rw [List.getElem?_append_right (by omega), hcs]; simp
      · rw [List.getElem?_append_right (by omega), hcs]; simp
      · rw [List.getElem?_append_right (by omega), hl]; simp
      · rw [List.getElem_append_right (by omega)]
        simp only [Nat.sub_self, List.getElem_cons_zero]
        exact ht.kept (by omega) fun b hbf => hkeep b (hft.2 b hbf).2 (fun e => by have := (hlt b e).2; have := (hft.2 b hbf).1; omega)
    · have hj2 : j < ts.length := by simp at hj; omega
      obtain ⟨c0, c1, f', h0, h1, h2, h3⟩ := hat j hj2
      refine ⟨c0, c1, f', ?_, ?_, ?_, ?_⟩
      · rw [List.getElem?_append_left (by omega)]; exact h0
      · rw [List.getElem?_append_left (by omega)]; exact h1
      · rw [List.getElem?_append_left (by omega)]; exact h2
      · rw [List.getElem_append_left hj2]
        exact (h3.below hb).kept (by omega) fun b hbf => hkeep b (by have := (hf.2 b (flat_mem h2 hbf)).2; omega) (fun e => hg b e (flat_mem h2 hbf))
/-- The row is whole: the tree with this row has blocks of its own. -/
theorem CopyRow.tree {w : World} {base d : Nat} {v : Value} {ts : List Ty} (h : CopyRow w base d v ts) (k : Int) (h0 : -9223372036854775808 ≤ k) (h1 : k ≤ 9223372036854775807) :
    ∃ fp, TyOwn w (d + 1) (.agg #[.int .i64 k, v]) (.node k ts) fp ∧ Fp base w.heap.size fp := by
  obtain ⟨cs, fps, hown, hl, hf, hg, hat⟩ := h
  have hcs : cs.length = ts.length * 2 := hown.1
  rcases hown.2 with ⟨rfl, hn⟩ | ⟨g, cap, cur, rfl, hbg, hgc, hnc, hm, hcur, htake⟩
  · have hts : ts = [] := List.eq_nil_of_length_eq_zero hn
    subst hts
    exact ⟨[], ⟨_, rfl, h0, h1, none, 0, [], [], rfl, Nat.le_refl _, by omega, rfl, rfl, (fun b hb => by cases hb), fun j hj => by simp at hj⟩, Fp.nil _ _⟩
  · have hlt := (hown.lt g rfl).2
    refine ⟨[g] ++ fps.flatten, ⟨_, rfl, h0, h1, some ⟨g, 0, none⟩, cap, [g], fps, rfl, hnc, by unfold maxLen at hm; omega, hl, rfl, fun b hb => by cases List.mem_singleton.1 hb; exact hlt, fun j hj => ?_⟩, ?_⟩
    · obtain ⟨c0, c1, f, e0, e1, e2, e3⟩ := hat j hj
      exact ⟨g, 0, c0, c1, f, rfl, rfl, hlt, by rw [Nat.zero_add, hown.cellAt (j * 2) (by omega)]; exact e0, hown.frozenAt _, by rw [Nat.zero_add, hown.cellAt (j * 2 + 1) (by omega)]; exact e1, e2, e3⟩
    · refine ⟨?_, fun b hb => ?_⟩
      · rw [List.singleton_append, List.nodup_cons]
        exact ⟨hg g rfl, hf.1⟩
      · rcases List.mem_append.1 hb with hb | hb
        · cases List.mem_singleton.1 hb; exact ⟨hbg, hlt⟩
        · exact hf.2 b hb
end Go.Proofs.YtimigpdbegfjaaaGreatDoor
/-
  Proved: spec.l3Copy copies a tree of at most 2^20 nodes into new memory; it leaves the memory that was there as it was.
-/
namespace Go.Proofs.YtimigpdbegfjaaaGreatDoor
open Go.RowKit

/-- Three boxes were laid; below the third one nothing has changed since. -/
theorem three_below {w wr : World} {o q r : Obj} (h : Below (w.heap.size + 2) (((w.alloc o).alloc q).alloc r) wr) : Below w.heap.size w wr :=
  ((((Below.refl _ _).alloc (Nat.le_refl _) _).alloc (by simp) _).alloc (by simp; omega) _).trans (h.mono (by omega))
theorem three_first {w wr : World} {cs : Array Value} {T : TypeId} {q r : Obj} (h : Below (w.heap.size + 2) (((w.alloc (.cells cs T)).alloc q).alloc r) wr) (j : Nat) : wr.cell? ⟨w.heap.size, j, none⟩ = cs[j]? := by
  rw [h.cell (p := ⟨w.heap.size, j, none⟩) (Nat.lt_of_lt_of_le (Nat.lt_succ_self _) (Nat.le_succ _)), World.cell?_alloc_lt _ _ _ (by simp; omega), World.cell?_alloc_lt _ _ _ (by simp)]
  exact World.cell?_alloc_mark w cs T (0, 0) j
theorem three_next {w wr : World} {ds : Array Value} {U : TypeId} {o r : Obj} (h : Below (w.heap.size + 2) (((w.alloc o).alloc (.cells ds U)).alloc r) wr) (j : Nat) : wr.cell? ⟨w.heap.size + 1, j, none⟩ = ds[j]? := by
  rw [h.cell (p := ⟨w.heap.size + 1, j, none⟩) (Nat.lt_succ_self _), World.cell?_alloc_lt _ _ _ (by simp)]
  have := World.cell?_alloc_mark (w.alloc o) ds U (0, 0) j
  rw [show (w.alloc o).heap.size = w.heap.size + 1 from by simp] at this
  exact this
theorem three_frozen {w wr : World} {ds : Array Value} {U : TypeId} {o r : Obj} (h : Below (w.heap.size + 2) (((w.alloc o).alloc (.cells ds U)).alloc r) wr) (j : Nat) : wr.frozen? ⟨w.heap.size + 1, j, none⟩ = false := by
  rw [h.frozen (p := ⟨w.heap.size + 1, j, none⟩) (Nat.lt_succ_self _)]
  simp [go_sem]

set_option maxRecDepth 100000 in
set_option maxHeartbeats 4000000 in
theorem specCopy : ∀ (d : Nat) (v : Value) (t : Ty) (w : World), t.size ≤ 1048577 → TyAt w d v t →
    Calls Tryz.prog 55 #[v] w (ToTyEnd d t w)
  | 0, _, _, _, _, h => h.elim
  | d + 1, v, .node kd ts, w, hsz, h => by
    have IH : Hid (∀ (v : Value) (t : Ty) (w : World), t.size ≤ 1048577 → TyAt w d v t → Calls Tryz.prog 55 #[v] w (ToTyEnd d t w)) := specCopy d
    obtain ⟨i0, hi, hz0, hz1, hz2⟩ := info_parts info_ty
    have HI := Lib.hid hi
    have HZ0 := Lib.hid hz0
    have HZ1 := Lib.hid hz1
    have HZ2 := Lib.hid hz2
    have hlen := Ty.length_le ts
    have HSZ : Hid (1 + Ty.sizes ts ≤ 1048577) := by simp [Ty.size] at hsz; show _ ≤ _; omega
    have hn2 : ts.length ≤ 1048577 := by have := HSZ.out; omega
    clear hsz hlen hi hz0 hz1 hz2
    obtain ⟨sl, rfl, hk0, hk1, a, cap, rfl, hcap, hcap2, hat⟩ := h
    have HAT := Lib.hid hat; clear hat
    go_enter Tryz.func55, Tryz.ntmps55
    go_wp2_with fail
    go_loopw [4] (fun i wr => ∃ (k : Nat) (vo : Value), k ≤ ts.length ∧ i = .int .i64 k ∧ wr.cell? ⟨w.heap.size + 1 + 1, 0, none⟩ = some (.int .i64 kd) ∧ wr.cell? ⟨w.heap.size + 1 + 1, 1, none⟩ = some vo ∧ wr.frozen? ⟨w.heap.size + 1 + 1, 1, none⟩ = false ∧
        CopyRow wr (w.heap.size + 1 + 1 + 1) d vo (ts.take k) ∧ Below (w.heap.size + 2) (((w.alloc (.cells #[.int .i64 kd, .slice a ts.length cap] 35)).alloc (.cells #[.int .i64 0, .slice none 0 0] 35)).alloc (.cells #[.int .i64 kd, .slice none 0 0] 35)) wr) (fun i _ => ts.length - (intOf i).toNat)
    case atStart => exact ⟨0, _, by omega, rfl, by simp [go_sem], by simp [go_sem], by simp [go_sem], CopyRow.nil _ _ _, Below.refl _ _⟩
    case round =>
      obtain ⟨k, vo, hk, rfl, o0, o1, o2, hrow, hb⟩ := hrel
      obtain ⟨oa, oc, hvo⟩ := hrow.form
      rw [List.length_take, Nat.min_eq_left hk] at hvo
      subst hvo
      have HROW := Lib.hid hrow; clear hrow
      have hz := hb.size
      simp only [World.size_alloc] at hz
      have b0 := three_first hb 0
      have b1 := three_first hb 1
      have HB := Lib.hid hb
      have HBW := Lib.hid (three_below hb); clear hb
      by_cases hlt : k < ts.length
      · obtain ⟨b, off, x0, x1, rfl, hbl, hc0, hc1, ht⟩ := HAT.out k hlt
        have hg := Ty.size_get ts k hlt
        have e0 : wr.cell? ⟨b, off + k * 2, none⟩ = some x0 := by rw [HBW.out.cell (p := ⟨b, off + k * 2, none⟩) hbl]; exact hc0
        have e1 : wr.cell? ⟨b, off + k * 2 + 1, none⟩ = some x1 := by rw [HBW.out.cell (p := ⟨b, off + k * 2 + 1, none⟩) hbl]; exact hc1
        have HT := Lib.hid ((ht.below HBW.out).below (below_drew wr))
        have hzk : ts[k].size ≤ 1048577 := by have := HSZ.out; omega
        clear ht hc0 hc1 hg
        go_wp2_with fail
        go_region_law (first
          | (refine step_append_lies _ (by rfl) (.tmp 16) (.tmp 23) 33 (by rfl) (w.heap.size + 1 + 1 + 1) 35 i0 (.agg #[.int .i64 0, .slice none 0 0]) 2 32 Tryz.underlying33 HI.out HZ0.out HZ1.out HZ2.out rfl (by omega) (.slice oa k oc) k cs (by simp [Act.eval]) (HOWN.out.alloc _) ⟨w'.heap.size, 0, none⟩ 1 1 [.int .i64 zk, .slice za zn zc] (by simp [Act.eval]) rfl (World.news_of_block (cs := #[.int .i64 zk, .slice za zn zc]) (t := 35) (fr := (0, 0)) (heap_alloc_new w' _)) (by simp [Value.oneCell']) (by omega) (by unfold maxLen; omega) (by omega) (by simp; omega) (w'.heap.size + 1) (by simp) ?_
             intro g gc w1 hown1 hgrow hat1 hlt1
             have hne : some (w.heap.size + 1 + 1) ≠ (Value.slice oa k oc).ownBlock := fun e => by have := (HOWN.out.lt _ e.symm).1; omega
             have hlw : w.heap.size + 1 + 1 < w'.heap.size := by omega
             have k1 : w1.cell? ⟨w.heap.size + 1 + 1, 1, none⟩ = some (.slice oa k oc) := by
               rw [hgrow.cell_far _ (by simp; omega) hne, World.cell?_of_block (heap_alloc_old _ _ hlw)]; exact o1'
             have k0 : w1.cell? ⟨w.heap.size + 1 + 1, 0, none⟩ = some (.int .i64 kd) := by
               rw [hgrow.cell_far _ (by simp; omega) hne, World.cell?_of_block (heap_alloc_old _ _ hlw)]; exact o0'
             have k2 : w1.frozen? ⟨w.heap.size + 1 + 1, 1, none⟩ = false := by
               rw [hgrow.frozen_far _ (by simp; omega) hne, World.frozen?_of_block (heap_alloc_old _ _ hlw)]; exact o2'
             have HR1 := Lib.hid (HAPP.out _ g gc w1 hown1 hgrow hat1)
             have hz2 := hgrow.size
             have HB3 : Hid (Below (w.heap.size + 2) (((w.alloc (.cells #[.int .i64 kd, .slice (some ⟨b, off, none⟩) ts.length cap] 35)).alloc (.cells #[.int .i64 0, .slice none 0 0] 35)).alloc (.cells #[.int .i64 kd, .slice none 0 0] 35)) w1) :=
               (((HB.out.trans (HB2.out.mono (by omega))).alloc (by omega) _).grown hgrow (by simp; omega) (fun k hk => by have := (HOWN.out.lt _ hk).1; omega))
             clear hown1 hgrow hat1 hlt1 hne hlw)
          | (go_simp
             go_at_call 55
             refine (IH.out _ _ _ hzk HT.out).mono ?_
             rintro e w' ⟨v2, fp, rfl, ht, hfp, hb1⟩
             obtain ⟨zk, za, zn, zc, rfl, HY⟩ := ty_parts ht
             clear ht
             have hb2 := below_thru (below_drew wr) (Nat.le_refl _) hb1
             have hz1 := hb2.size
             obtain ⟨cs, hown, happ⟩ := HROW.out.append hb2 (by omega) HY.out hfp
             rw [List.length_take, Nat.min_eq_left hk] at hown happ
             have HOWN := Lib.hid hown
             have HAPP := Lib.hid happ
             have HB2 := Lib.hid hb2
             have o1' := (hb2.cell (p := ⟨w.heap.size + 1 + 1, 1, none⟩) (by show w.heap.size + 1 + 1 < _; omega)).trans o1
             have o1'' : (w'.alloc (.cells #[.int .i64 zk, .slice za zn zc] 35)).cell? ⟨w.heap.size + 1 + 1, 1, none⟩ = some (.slice oa k oc) := (World.cell?_of_block (heap_alloc_old _ _ (by show w.heap.size + 1 + 1 < _; omega))).trans o1'
             have o0' := (hb2.cell (p := ⟨w.heap.size + 1 + 1, 0, none⟩) (by show w.heap.size + 1 + 1 < _; omega)).trans o0
             have o2' := (hb2.frozen (p := ⟨w.heap.size + 1 + 1, 1, none⟩) (by show w.heap.size + 1 + 1 < _; omega)).trans o2
             have b1' := (hb2.cell (p := ⟨w.heap.size, 1, none⟩) (by show w.heap.size < _; omega)).trans b1
             clear hown happ hb1 hb2 HY))
        all_goals go_wp2_with fail
        all_goals
          exact ⟨⟨k + 1, .slice (some ⟨g, 0, none⟩) (k + 1) gc, by omega, by go_num, by simp [go_sem, k0], by simp [go_sem, k1], by simp [go_sem, k2], by rw [List.take_succ_eq_append_getElem hlt]; exact HR1.out.stored (by omega) _, HB3.out.setCell (by simp) _⟩, by simp [intOf]; omega⟩
      · obtain rfl : k = ts.length := by omega
        have p10 := three_next HB.out 0
        have p11 := three_next HB.out 1
        have q10 := three_frozen HB.out 0
        have q11 := three_frozen HB.out 1
        go_wp2_with fail
        have HR2 := (HROW.out.stored (p := w.heap.size + 1) (o := 0) (by omega) (.int .i64 kd)).stored (p := w.heap.size + 1) (o := 1) (by omega) (.slice oa ts.length oc)
        rw [List.take_length] at HR2
        obtain ⟨fp, hown, hfp⟩ := HR2.tree kd hk0 hk1
        have g0 : ((wr.setCell ⟨w.heap.size + 1, 0, none⟩ (.int .i64 kd)).setCell ⟨w.heap.size + 1, 1, none⟩ (.slice oa ts.length oc)).cell? ⟨w.heap.size + 1, 0, none⟩ = some (.int .i64 kd) := by simp [go_sem, p10]
        have g1 : ((wr.setCell ⟨w.heap.size + 1, 0, none⟩ (.int .i64 kd)).setCell ⟨w.heap.size + 1, 1, none⟩ (.slice oa ts.length oc)).cell? ⟨w.heap.size + 1, 1, none⟩ = some (.slice oa ts.length oc) := by simp [go_sem, p11]
        refine bodyPost_ret (v := .agg #[.int .i64 kd, .slice oa ts.length oc]) (by simp [results, Tryz.results55, go_sem, g0, g1]) rfl ?_
        exact ⟨_, fp, rfl, hown, hfp.mono (by omega) (Nat.le_refl _), (HBW.out.setCell (by simp) _).setCell (by simp) _⟩
end Go.Proofs.YtimigpdbegfjaaaGreatDoor
/-
  Proved: spec.l6Copy copies an expression into new memory; it leaves the memory that was there as it was.
-/
namespace Go.Proofs.YtimigpdbegfjaaaGreatDoor
open Go.RowKit

theorem box_five {w : World} {p : Nat} {c0 c1 c2 c3 c4 c5 : Value} (h : BoxAt w p #[c0, c1, c2, c3, c4, c5]) : w.cell? ⟨p, 0, none⟩ = some c0 ∧ w.cell? ⟨p, 1, none⟩ = some c1 ∧ w.cell? ⟨p, 2, none⟩ = some c2 ∧ w.cell? ⟨p, 3, none⟩ = some c3 ∧ w.cell? ⟨p, 4, none⟩ = some c4 := ⟨h.2 0, h.2 1, h.2 2, h.2 3, h.2 4⟩
theorem box_six {w : World} {p : Nat} {c0 c1 c2 c3 c4 c5 : Value} (h : BoxAt w p #[c0, c1, c2, c3, c4, c5]) : w.cell? ⟨p, 0, none⟩ = some c0 ∧ w.cell? ⟨p, 1, none⟩ = some c1 ∧ w.cell? ⟨p, 2, none⟩ = some c2 ∧ w.cell? ⟨p, 3, none⟩ = some c3 ∧ w.cell? ⟨p, 4, none⟩ = some c4 ∧ w.cell? ⟨p, 5, none⟩ = some c5 := ⟨h.2 0, h.2 1, h.2 2, h.2 3, h.2 4, h.2 5⟩
theorem free_six {w : World} {p : Nat} (h : FreeAt w p) : w.frozen? ⟨p, 0, none⟩ = false ∧ w.frozen? ⟨p, 1, none⟩ = false ∧ w.frozen? ⟨p, 2, none⟩ = false ∧ w.frozen? ⟨p, 3, none⟩ = false ∧ w.frozen? ⟨p, 4, none⟩ = false ∧ w.frozen? ⟨p, 5, none⟩ = false := ⟨h.2 0, h.2 1, h.2 2, h.2 3, h.2 4, h.2 5⟩
/-- The new node, without its parts, all of it made since W. -/
def OutAt (W : World) (d : Nat) (kd : Int) (nm : ByteArray) (n : Int) (ty : Ty) (s : Value) (wx : World) : Prop :=
  ∃ p zk za zn zc f1, s = .pointer (some ⟨p, 0, none⟩) ∧ W.heap.size ≤ p ∧ BoxAt wx p #[.int .i64 kd, .string nm, .int .i64 n, .int .i64 zk, .slice za zn zc, .slice none 0 0] ∧ FreeAt wx p ∧ TyOwn wx d (.agg #[.int .i64 zk, .slice za zn zc]) ty f1 ∧ Fp W.heap.size wx.heap.size f1 ∧ p ∉ f1 ∧ Below W.heap.size W wx
theorem out_new {W w8 : World} {d : Nat} {kd : Int} {nm : ByteArray} {n : Int} {ty : Ty} {zk : Int} {za : Option Addr} {zn zc lo : Nat} {f1 : List Nat} {T : TypeId} (G : Below W.heap.size W w8) (Ht : TyOwn w8 d (.agg #[.int .i64 zk, .slice za zn zc]) ty f1) (Hf : Fp lo w8.heap.size f1) (hlo : W.heap.size ≤ lo) :
    OutAt W d kd nm n ty (.pointer (some ⟨w8.heap.size, 0, none⟩)) (w8.alloc (.cells #[.int .i64 kd, .string nm, .int .i64 n, .int .i64 zk, .slice za zn zc, .slice none 0 0] T)) :=
  ⟨w8.heap.size, zk, za, zn, zc, f1, rfl, G.size, BoxAt.new _ _ _, FreeAt.new _ _ _, Ht.below (below_alloc _ _), Hf.mono hlo (by simp), fun h => Nat.lt_irrefl _ (Hf.2 _ h).2, G.alloc G.size _⟩
theorem out_old {W w8 : World} {d : Nat} {kd : Int} {nm : ByteArray} {n : Int} {ty : Ty} {zk : Int} {za : Option Addr} {zn zc lo p : Nat} {f1 : List Nat} (G : Below W.heap.size W w8) (Ht : TyOwn w8 d (.agg #[.int .i64 zk, .slice za zn zc]) ty f1) (Hf : Fp lo w8.heap.size f1) (hlo : W.heap.size ≤ lo)
    (hP : W.heap.size ≤ p) (hp : p < lo) (X : BoxAt w8 p #[.int .i64 0, .string ⟨#[]⟩, .int .i64 0, .int .i64 0, .slice none 0 0, .slice none 0 0]) (F : FreeAt w8 p) :
    OutAt W d kd nm n ty (.pointer (some ⟨p, 0, none⟩)) ((((((w8.setCell ⟨p, 0, none⟩ (.int .i64 kd)).setCell ⟨p, 1, none⟩ (.string nm)).setCell ⟨p, 2, none⟩ (.int .i64 n)).setCell ⟨p, 3, none⟩ (.int .i64 zk)).setCell ⟨p, 4, none⟩ (.slice za zn zc)).setCell ⟨p, 5, none⟩ (.slice none 0 0)) := by
  refine ⟨p, zk, za, zn, zc, f1, rfl, hP, ?_, F.put.put.put.put.put.put, ?_, Hf.mono hlo (by simp), fun h => by have := (Hf.2 _ h).1; omega, (((((G.setCell hP _).setCell hP _).setCell hP _).setCell hP _).setCell hP _).setCell hP _⟩
  · have h1 := X.put (j := 0) (u := .int .i64 kd) (by simp)
    have h2 := h1.put (j := 1) (u := .string nm) (by simp)
    have h3 := h2.put (j := 2) (u := .int .i64 n) (by simp)
    have h4 := h3.put (j := 3) (u := .int .i64 zk) (by simp)
    have h5 := h4.put (j := 4) (u := .slice za zn zc) (by simp)
    have h6 := h5.put (j := 5) (u := .slice none 0 0) (by simp)
    simpa using h6
  · exact Ht.kept (by simp) fun b hb => by
      have := (Hf.2 b hb).1
      rw [heap_setCell_other _ _ _ _ (by simp; omega), heap_setCell_other _ _ _ _ (by simp; omega), heap_setCell_other _ _ _ _ (by simp; omega), heap_setCell_other _ _ _ _ (by simp; omega), heap_setCell_other _ _ _ _ (by simp; omega), heap_setCell_other _ _ _ _ (by simp; omega)]

set_option maxRecDepth 100000 in
set_option maxHeartbeats 4000000 in
theorem specExCopy : ∀ (d : Nat) (v : Value) (t : Ex) (w : World), t.bulk ≤ 1048576 → ExAt w d v t →
    Calls Tryz.prog 41 #[v] w (ToExEnd d t w)
  | 0, _, _, _, _, h => h.elim
  | d + 1, v, .node kd nm n ty es, w, hsz, h => by
    have IH : Hid (∀ (v : Value) (t : Ex) (w : World), t.bulk ≤ 1048576 → ExAt w d v t → Calls Tryz.prog 41 #[v] w (ToExEnd d t w)) := specExCopy d
    obtain ⟨i0, hi, hz0, hz1, hz2⟩ := info_parts info_ex
    have HI := Lib.hid hi
    have HZ0 := Lib.hid hz0
    have HZ1 := Lib.hid hz1
    have HZ2 := Lib.hid hz2
    clear hi hz0 hz1 hz2
    have HV := ex_parts h
    obtain ⟨c3, c4, sl, rfl, hk0, hk1, hn0, hn1, hnm, hty, a, cap, rfl, hcap, hcap2, hat⟩ := h
    obtain ⟨k', nm', n', tk, ta, tn, tc, sa, sn, sc, hv⟩ := HV
    injection hv with hv
    injection hv with hv
    simp at hv
    obtain ⟨rfl, rfl, rfl, rfl, rfl, rfl, rfl, rfl⟩ := hv
    have HAT := Lib.hid hat; clear hat
    have HTY := Lib.hid hty; clear hty
    have hbk : (Ex.node kd nm n ty es).bulk = nm.size + (ty.size - 1) + Ex.bulks es := rfl
    have HSZ : Hid (Ex.bulks es ≤ 1048576) := by show _ ≤ _; omega
    have HTZ : Hid (ty.size ≤ 1048577) := by show _ ≤ _; omega
    have hn2 : es.length ≤ 1048576 := by have := Ex.length_le es; omega
    clear hsz hbk
    obtain ⟨W, hW⟩ : ∃ W, W = (w.alloc (.cells #[.int .i64 kd, .string nm, .int .i64 n, .int .i64 tk, .slice ta tn tc, .slice a es.length cap] 38)).alloc (.cells #[.int .i64 0, .string ⟨#[]⟩, .int .i64 0, .int .i64 0, .slice none 0 0, .slice none 0 0] 38) := ⟨_, rfl⟩
    have XB : Hid (BoxAt W w.heap.size #[.int .i64 kd, .string nm, .int .i64 n, .int .i64 tk, .slice ta tn tc, .slice a es.length cap]) := by
      rw [hW]; exact (BoxAt.new _ _ _).below (below_alloc _ _)
    have BW : Hid (Below w.heap.size w W) := by
      rw [hW]; exact ((Below.refl _ _).alloc (Nat.le_refl _) _).alloc (by simp) _
    have HTW := Lib.hid (HTY.out.below BW.out)
    have hWs : W.heap.size = w.heap.size + 1 + 1 := by rw [hW]; simp
    go_enter Tryz.func41, Tryz.ntmps41
    go_upto_region 1 with fail
    go_cut [3] (fun s wx => OutAt W d kd nm n ty s wx)
    case first =>
      rw [← hW]
      have HWS := Lib.hid hWs
      clear hW hWs
      have G := Lib.hid (below_drew W)
      go_region_held3 (fun w' => w'.cell? ⟨w.heap.size, 0, none⟩ = some (.int .i64 kd) ∧ w'.cell? ⟨w.heap.size, 1, none⟩ = some (.string nm) ∧ w'.cell? ⟨w.heap.size, 2, none⟩ = some (.int .i64 n) ∧ w'.cell? ⟨w.heap.size, 3, none⟩ = some (.int .i64 tk) ∧ w'.cell? ⟨w.heap.size, 4, none⟩ = some (.slice ta tn tc)) (refine ⟨(by (repeat (rw [World.cell?_setCell_other _ _ _ _ (by first | (simp; have hws := HWS.out; omega) | simp)])); first | with_reducible exact (box_five (XB.out.below G.out)).1 | with_reducible exact (box_five (XB.out.below (G.out.alloc G.out.size _))).1 | with_reducible exact (box_five (XB.out.below (below_alloc _ _).drew)).1), (by (repeat (rw [World.cell?_setCell_other _ _ _ _ (by first | (simp; have hws := HWS.out; omega) | simp)])); first | with_reducible exact (box_five (XB.out.below G.out)).2.1 | with_reducible exact (box_five (XB.out.below (G.out.alloc G.out.size _))).2.1 | with_reducible exact (box_five (XB.out.below (below_alloc _ _).drew)).2.1), (by (repeat (rw [World.cell?_setCell_other _ _ _ _ (by first | (simp; have hws := HWS.out; omega) | simp)])); first | with_reducible exact (box_five (XB.out.below G.out)).2.2.1 | with_reducible exact (box_five (XB.out.below (G.out.alloc G.out.size _))).2.2.1 | with_reducible exact (box_five (XB.out.below (below_alloc _ _).drew)).2.2.1), (by (repeat (rw [World.cell?_setCell_other _ _ _ _ (by first | (simp; have hws := HWS.out; omega) | simp)])); first | with_reducible exact (box_five (XB.out.below G.out)).2.2.2.1 | with_reducible exact (box_five (XB.out.below (G.out.alloc G.out.size _))).2.2.2.1 | with_reducible exact (box_five (XB.out.below (below_alloc _ _).drew)).2.2.2.1), (by (repeat (rw [World.cell?_setCell_other _ _ _ _ (by first | (simp; have hws := HWS.out; omega) | simp)])); first | with_reducible exact (box_five (XB.out.below G.out)).2.2.2.2 | with_reducible exact (box_five (XB.out.below (G.out.alloc G.out.size _))).2.2.2.2 | with_reducible exact (box_five (XB.out.below (below_alloc _ _).drew)).2.2.2.2)⟩)
        (first
         | (go_at_call 55
            refine (specCopy d _ ty _ HTZ.out ?_).mono ?_
            · first | exact HTW.out.below G.out | exact HTW.out.below (G.out.alloc G.out.size _) | exact HTW.out.below (below_alloc _ _).drew
            rintro e wo ⟨o, fp, rfl, ht, hf, hb⟩
            obtain ⟨zk, za, zn, zc, rfl, HY⟩ := ty_parts ht
            have HF := Lib.hid hf
            clear ht hf
            have hzo := hb.size
            try simp only [World.size_drew] at hzo
            try simp only [World.size_alloc] at hzo
            try simp only [World.size_drew] at hzo
            first
              | (have XO : Hid (BoxAt wo W.heap.size #[.int .i64 0, .string ⟨#[]⟩, .int .i64 0, .int .i64 0, .slice none 0 0, .slice none 0 0]) := Lib.hid ((BoxAt.new _ _ _).below hb)
                 have XF : Hid (FreeAt wo W.heap.size) := Lib.hid ((FreeAt.new _ #[.int .i64 0, .string ⟨#[]⟩, .int .i64 0, .int .i64 0, .slice none 0 0, .slice none 0 0] _).below hb)
                 have G2 := Lib.hid (below_on (G.out.alloc G.out.size _) hb (G.out.alloc G.out.size _).size)
                 clear G
                 have G := G2
                 clear G2
                 obtain ⟨r0, r1, r2, r3, r4, r5⟩ := box_six XO.out
                 obtain ⟨q0, q1, q2, q3, q4, q5⟩ := free_six XF.out)
              | (have XO : Hid (BoxAt wo W.heap.size #[.int .i64 0, .string ⟨#[]⟩, .int .i64 0, .int .i64 0, .slice none 0 0, .slice none 0 0]) := Lib.hid (((BoxAt.new _ _ _).below (below_drew _)).below hb)
                 have XF : Hid (FreeAt wo W.heap.size) := Lib.hid (((FreeAt.new _ #[.int .i64 0, .string ⟨#[]⟩, .int .i64 0, .int .i64 0, .slice none 0 0, .slice none 0 0] _).below (below_drew _)).below hb)
                 have G2 := Lib.hid (below_on (below_alloc W _).drew hb (below_alloc W _).drew.size)
                 clear G
                 have G := G2
                 clear G2
                 obtain ⟨r0, r1, r2, r3, r4, r5⟩ := box_six XO.out
                 obtain ⟨q0, q1, q2, q3, q4, q5⟩ := free_six XF.out)
              | (replace G := Lib.hid (below_on G.out hb G.out.size))
            clear hb))
      all_goals go_wp2_with fail
      all_goals go_meet
      all_goals first | with_reducible refine out_new G.out HY.out HF.out ?_ | with_reducible refine out_old G.out HY.out HF.out ?_ ?_ ?_ XO.out XF.out | trace_state
      all_goals ((try simp only [World.size_drew]); (try simp only [World.size_alloc]); (try simp only [World.size_drew]); omega)
    case rest =>
      obtain ⟨w3, hwc⟩ : ∃ u, u = wc := ⟨_, rfl⟩
      subst hwc
      obtain ⟨p, zk, za, zn, zc, f1, rfl, hp, hX, hF, hT, hFp, hpf, hb⟩ := hcut
      have XR0 : Hid (BoxAt W (w.heap.size + 1) #[.int .i64 0, .string ⟨#[]⟩, .int .i64 0, .int .i64 0, .slice none 0 0, .slice none 0 0]) := by rw [hW]; exact box_at (BoxAt.new _ _ _) (by simp)
      have FR0 : Hid (FreeAt W (w.heap.size + 1)) := by rw [hW]; exact free_at (FreeAt.new _ _ _) (by simp)
      have HFP := Lib.hid hFp
      have HPF := Lib.hid hpf
      have HX3 := Lib.hid hX
      have HF3 := Lib.hid hF
      have HT3 := Lib.hid hT
      have HB3 := Lib.hid hb
      have HWS := Lib.hid hWs
      have HPW := Lib.hid hp
      have HP3 : Hid (p < w3.heap.size) := hX.1
      have HW3 : Hid (W.heap.size ≤ w3.heap.size) := hb.size
      clear hX hF hT hFp hpf hb hW hWs hp
      go_wp2_with fail
      go_loopw [4] (fun i wr => ∃ (k : Nat) (vo : Value), k ≤ es.length ∧ i = .int .i64 k ∧ BoxAt wr p #[.int .i64 kd, .string nm, .int .i64 n, .int .i64 zk, .slice za zn zc, vo] ∧ FreeAt wr p ∧ ExRow wr w3.heap.size d vo (es.take k) ∧ TyOwn wr d (.agg #[.int .i64 zk, .slice za zn zc]) ty f1 ∧ w3.heap.size ≤ wr.heap.size ∧ Below W.heap.size W wr) (fun i _ => es.length - (intOf i).toNat)
      case atStart => exact ⟨0, _, by omega, rfl, HX3.out, HF3.out, ExRow.nil _ _ _, HT3.out, Nat.le_refl _, HB3.out⟩
      case round =>
        obtain ⟨k, vo, hk, rfl, hxp, hfp, hrow, hty, hz3, hb⟩ := hrel
        obtain ⟨oa, oc, hvo⟩ := hrow.form
        rw [List.length_take, Nat.min_eq_left hk] at hvo
        subst hvo
        have HROW := Lib.hid hrow; clear hrow
        have XP := Lib.hid hxp; clear hxp
        have XF := Lib.hid hfp; clear hfp
        have HT := Lib.hid hty; clear hty
        have HBW := Lib.hid hb
        have HBB := Lib.hid (below_thru BW.out (Nat.le_refl _) hb); clear hb
        have HZ3 := Lib.hid hz3; clear hz3
        have b5 := (XB.out.below HBW.out).2 5
        by_cases hlt : k < es.length
        · obtain ⟨b, off, x0, x1, x2, x3, x4, x5, rfl, hbl, hc0, hc1, hc2, hc3, hc4, hc5, ht⟩ := HAT.out k hlt
          have hg := Ex.bulk_get es k hlt
          have hzk : es[k].bulk ≤ 1048576 := by have := HSZ.out; omega
          have e0 : wr.cell? ⟨b, off + k * 6, none⟩ = some x0 := by rw [HBB.out.cell (p := ⟨b, off + k * 6, none⟩) hbl]; exact hc0
          have e1 : wr.cell? ⟨b, off + k * 6 + 1, none⟩ = some x1 := by rw [HBB.out.cell (p := ⟨b, off + k * 6 + 1, none⟩) hbl]; exact hc1
          have e2 : wr.cell? ⟨b, off + k * 6 + 2, none⟩ = some x2 := by rw [HBB.out.cell (p := ⟨b, off + k * 6 + 2, none⟩) hbl]; exact hc2
          have e3 : wr.cell? ⟨b, off + k * 6 + 3, none⟩ = some x3 := by rw [HBB.out.cell (p := ⟨b, off + k * 6 + 3, none⟩) hbl]; exact hc3
          have e4 : wr.cell? ⟨b, off + k * 6 + 4, none⟩ = some x4 := by rw [HBB.out.cell (p := ⟨b, off + k * 6 + 4, none⟩) hbl]; exact hc4
          have e5 : wr.cell? ⟨b, off + k * 6 + 5, none⟩ = some x5 := by rw [HBB.out.cell (p := ⟨b, off + k * 6 + 5, none⟩) hbl]; exact hc5
          have HTE := Lib.hid ((ht.below HBB.out).below (below_drew wr))
          have o5 := XP.out.2 5
          have z5 := XF.out.2 5
          clear ht hc0 hc1 hc2 hc3 hc4 hc5 hg
          go_wp2_with fail
          go_region_law (first
            | (refine step_append_lies _ (by rfl) (.tmp 23) (.tmp 30) 36 (by rfl) w3.heap.size 38 i0 (.agg #[.int .i64 0, .string ⟨#[]⟩, .int .i64 0, .int .i64 0, .slice none 0 0, .slice none 0 0]) 6 88 Tryz.underlying36 HI.out HZ0.out HZ1.out HZ2.out rfl (by omega) (.slice oa k oc) k cs (by simp [Act.eval]) (HOWN.out.alloc _) ⟨w'.heap.size, 0, none⟩ 1 1 [.int .i64 yk, .string ynm, .int .i64 yn, .int .i64 ytk, .slice yta ytn ytc, .slice ya ym yc] (by simp [Act.eval]) rfl (World.news_of_block (cs := #[.int .i64 yk, .string ynm, .int .i64 yn, .int .i64 ytk, .slice yta ytn ytc, .slice ya ym yc]) (t := 38) (fr := (0, 0)) (heap_alloc_new w' _)) (by simp [Value.oneCell']) (by omega) (by unfold maxLen; omega) (by omega) (by simp; have h1 := HZ3.out; omega) (w'.heap.size + 1) (by simp) ?_
               intro g gc w1 hown1 hgrow hat1 hlt1
               have hz2 := hgrow.size
               have hz3 := HZ3.out
               have hp3 := HP3.out
               simp only [World.size_alloc] at hz2
               have KP : Hid (∀ b, b < w3.heap.size → w1.heap[b]? = w'.heap[b]?) := fun b hb => by
                 rw [hgrow.block b (by simp; omega) (fun e => by have := (HOWN.out.lt _ e.symm).1; omega), heap_alloc_old _ _ (by omega)]
               have XP1 : Hid (BoxAt w1 p #[.int .i64 kd, .string nm, .int .i64 n, .int .i64 zk, .slice za zn zc, .slice oa k oc]) := XP2.out.kept (by omega) (KP.out p hp3)
               have XF1 : Hid (FreeAt w1 p) := ⟨by omega, fun j => (World.frozen?_of_block (a := ⟨p, j, none⟩) (KP.out p hp3)).trans (XF2.out.2 j)⟩
               have HT1 : Hid (TyOwn w1 d (.agg #[.int .i64 zk, .slice za zn zc]) ty f1) := HT2.out.kept (by omega) fun b hb => KP.out b (HFP.out.2 b hb).2
               have HR1 := Lib.hid (HAPP.out _ g gc w1 hown1 hgrow hat1)
               have HB4 : Hid (Below W.heap.size W w1) := ((HBW.out.trans (HB2.out.mono (by have := HBW.out.size; omega))).alloc (by have := HW3.out; omega) _).grown hgrow (by simp; have := HW3.out; omega) (fun k hk => by have := (HOWN.out.lt _ hk).1; have := HW3.out; omega)
               have k5 := XP1.out.2 5
               have f5 := XF1.out.2 5
               have hz4 : w3.heap.size ≤ w1.heap.size := by omega
               clear hown1 hgrow hat1 hlt1 hz2)
            | (go_simp
               go_at_call 41
               refine (IH.out _ _ _ hzk HTE.out).mono ?_
               rintro e w' ⟨v2, fp, rfl, ht, hfp, hb1⟩
               obtain ⟨yk, ynm, yn, ytk, yta, ytn, ytc, ya, ym, yc, rfl⟩ := ex_parts ht.at_
               have hb2 := below_thru (below_drew wr) (Nat.le_refl _) hb1
               have hz1 := hb2.size
               obtain ⟨cs, hown, happ⟩ := HROW.out.append hb2 HZ3.out ht hfp
               rw [List.length_take, Nat.min_eq_left hk] at hown happ
               have HOWN := Lib.hid hown
               have HAPP := Lib.hid happ
               have HB2 := Lib.hid hb2
               have XP2 := Lib.hid (XP.out.below hb2)
               have XF2 := Lib.hid (XF.out.below hb2)
               have HT2 : Hid (TyOwn w' d (.agg #[.int .i64 zk, .slice za zn zc]) ty f1) := HT.out.kept hz1 fun b hb => hb2.block b (Nat.lt_of_lt_of_le (HFP.out.2 b hb).2 HZ3.out)
               have o5' := XP2.out.2 5
               have o5'' := (XP2.out.below (below_alloc w' (.cells #[.int .i64 yk, .string ynm, .int .i64 yn, .int .i64 ytk, .slice yta ytn ytc, .slice ya ym yc] 38))).2 5
               have z5' := XF2.out.2 5
               have b5' := ((XB.out.below HBW.out).below hb2).2 5
               clear hown happ hb1 hb2 ht hfp))
          all_goals go_wp2_with fail
          all_goals
            exact ⟨⟨k + 1, .slice (some ⟨g, 0, none⟩) (k + 1) gc, by omega, by go_num, XP1.out.put (j := 5) (u := .slice (some ⟨g, 0, none⟩) (k + 1) gc) (by simp), XF1.out.put, by rw [List.take_succ_eq_append_getElem hlt]; exact HR1.out.stored HP3.out _, HT1.out.kept (by simp) (fun b hb => heap_setCell_other _ _ _ _ (fun e => HPF.out (by have e2 : b = p := e; rw [← e2]; exact hb))), by simpa using hz4, HB4.out.setCell HPW.out _⟩, by simp [intOf]; omega⟩
        · obtain rfl : k = es.length := by omega
          have hlw : w.heap.size + 1 < w3.heap.size := by have := HWS.out; have := HW3.out; omega
          have XR := Lib.hid (XR0.out.below HBW.out)
          have FR := Lib.hid (FR0.out.below HBW.out)
          have o0 := XP.out.2 0
          have r0 := XR.out.2 0
          have s0 := FR.out.2 0
          have o1 := XP.out.2 1
          have r1 := XR.out.2 1
          have s1 := FR.out.2 1
          have o2 := XP.out.2 2
          have r2 := XR.out.2 2
          have s2 := FR.out.2 2
          have o3 := XP.out.2 3
          have r3 := XR.out.2 3
          have s3 := FR.out.2 3
          have o4 := XP.out.2 4
          have r4 := XR.out.2 4
          have s4 := FR.out.2 4
          have o5 := XP.out.2 5
          have r5 := XR.out.2 5
          have s5 := FR.out.2 5
          go_wp2_with fail
          have hRF : BoxAt ((((((wr.setCell ⟨w.heap.size + 1, 0, none⟩ (.int .i64 kd)).setCell ⟨w.heap.size + 1, 1, none⟩ (.string nm)).setCell ⟨w.heap.size + 1, 2, none⟩ (.int .i64 n)).setCell ⟨w.heap.size + 1, 3, none⟩ (.int .i64 zk)).setCell ⟨w.heap.size + 1, 4, none⟩ (.slice za zn zc)).setCell ⟨w.heap.size + 1, 5, none⟩ (.slice oa es.length oc)) (w.heap.size + 1) #[.int .i64 kd, .string nm, .int .i64 n, .int .i64 zk, .slice za zn zc, .slice oa es.length oc] := by
            have := ((((((XR.out.put (j := 0) (u := .int .i64 kd) (by simp)).put (j := 1) (u := .string nm) (by simp)).put (j := 2) (u := .int .i64 n) (by simp)).put (j := 3) (u := .int .i64 zk) (by simp)).put (j := 4) (u := .slice za zn zc) (by simp)).put (j := 5) (u := .slice oa es.length oc) (by simp))
            exact this
          have HRW : ExRow ((((((wr.setCell ⟨w.heap.size + 1, 0, none⟩ (.int .i64 kd)).setCell ⟨w.heap.size + 1, 1, none⟩ (.string nm)).setCell ⟨w.heap.size + 1, 2, none⟩ (.int .i64 n)).setCell ⟨w.heap.size + 1, 3, none⟩ (.int .i64 zk)).setCell ⟨w.heap.size + 1, 4, none⟩ (.slice za zn zc)).setCell ⟨w.heap.size + 1, 5, none⟩ (.slice oa es.length oc)) w3.heap.size d (.slice oa es.length oc) es := by
            have := ((((((HROW.out.stored (p := w.heap.size + 1) (o := 0) hlw (.int .i64 kd)).stored (p := w.heap.size + 1) (o := 1) hlw (.string nm)).stored (p := w.heap.size + 1) (o := 2) hlw (.int .i64 n)).stored (p := w.heap.size + 1) (o := 3) hlw (.int .i64 zk)).stored (p := w.heap.size + 1) (o := 4) hlw (.slice za zn zc)).stored (p := w.heap.size + 1) (o := 5) hlw (.slice oa es.length oc))
            rw [List.take_length] at this
            exact this
          have hTF : TyOwn ((((((wr.setCell ⟨w.heap.size + 1, 0, none⟩ (.int .i64 kd)).setCell ⟨w.heap.size + 1, 1, none⟩ (.string nm)).setCell ⟨w.heap.size + 1, 2, none⟩ (.int .i64 n)).setCell ⟨w.heap.size + 1, 3, none⟩ (.int .i64 zk)).setCell ⟨w.heap.size + 1, 4, none⟩ (.slice za zn zc)).setCell ⟨w.heap.size + 1, 5, none⟩ (.slice oa es.length oc)) d (.agg #[.int .i64 zk, .slice za zn zc]) ty f1 := HT.out.kept (by simp) fun b hb => by
            have h1 := (HFP.out.2 b hb).1
            have h2 := HWS.out
            rw [heap_setCell_other _ _ _ _ (by simp; omega), heap_setCell_other _ _ _ _ (by simp; omega), heap_setCell_other _ _ _ _ (by simp; omega), heap_setCell_other _ _ _ _ (by simp; omega), heap_setCell_other _ _ _ _ (by simp; omega), heap_setCell_other _ _ _ _ (by simp; omega)]
          have hBF : Below w.heap.size w ((((((wr.setCell ⟨w.heap.size + 1, 0, none⟩ (.int .i64 kd)).setCell ⟨w.heap.size + 1, 1, none⟩ (.string nm)).setCell ⟨w.heap.size + 1, 2, none⟩ (.int .i64 n)).setCell ⟨w.heap.size + 1, 3, none⟩ (.int .i64 zk)).setCell ⟨w.heap.size + 1, 4, none⟩ (.slice za zn zc)).setCell ⟨w.heap.size + 1, 5, none⟩ (.slice oa es.length oc)) := ((((((HBB.out.setCell (by simp) _).setCell (by simp) _).setCell (by simp) _).setCell (by simp) _).setCell (by simp) _).setCell (by simp) _)
          have hzF : w3.heap.size ≤ ((((((wr.setCell ⟨w.heap.size + 1, 0, none⟩ (.int .i64 kd)).setCell ⟨w.heap.size + 1, 1, none⟩ (.string nm)).setCell ⟨w.heap.size + 1, 2, none⟩ (.int .i64 n)).setCell ⟨w.heap.size + 1, 3, none⟩ (.int .i64 zk)).setCell ⟨w.heap.size + 1, 4, none⟩ (.slice za zn zc)).setCell ⟨w.heap.size + 1, 5, none⟩ (.slice oa es.length oc)).heap.size := by simpa using HZ3.out
          obtain ⟨fp, hown, hfp⟩ := HRW.tree kd nm n ty f1 hk0 hk1 hn0 hn1 hnm hTF HFP.out HW3.out hzF
          have hwW : w.heap.size ≤ W.heap.size := by have := HWS.out; omega
          have g0 := hRF.2 0
          have g1 := hRF.2 1
          have g2 := hRF.2 2
          have g3 := hRF.2 3
          have g4 := hRF.2 4
          have g5 := hRF.2 5
          clear hRF HRW hTF
          generalize ((((((wr.setCell ⟨w.heap.size + 1, 0, none⟩ (.int .i64 kd)).setCell ⟨w.heap.size + 1, 1, none⟩ (.string nm)).setCell ⟨w.heap.size + 1, 2, none⟩ (.int .i64 n)).setCell ⟨w.heap.size + 1, 3, none⟩ (.int .i64 zk)).setCell ⟨w.heap.size + 1, 4, none⟩ (.slice za zn zc)).setCell ⟨w.heap.size + 1, 5, none⟩ (.slice oa es.length oc)) = WX at g0 g1 g2 g3 g4 g5 hown hfp hBF ⊢
          refine bodyPost_ret (v := .agg #[.int .i64 kd, .string nm, .int .i64 n, .int .i64 zk, .slice za zn zc, .slice oa es.length oc]) (by simp [results, Tryz.results41, go_sem, g0, g1, g2, g3, g4, g5]) rfl ?_
          exact ⟨_, fp, rfl, hown, hfp.mono hwW (Nat.le_refl _), hBF⟩
end Go.Proofs.YtimigpdbegfjaaaGreatDoor
/-
  Proved: plain facts on expressions whose rows lie in blocks of their own, with the blocks' bounds; no program.
-/
namespace Go.Proofs.YtimigpdbegfjaaaGreatDoor
open Go.RowKit

def ExIn (w : World) (d : Nat) (v : Value) (t : Ex) (lo hi : Nat) : Prop := ∃ fp, ExOwn w d v t fp ∧ Fp lo hi fp ∧ hi ≤ w.heap.size
theorem ExIn.at_ {w : World} {d : Nat} {v : Value} {t : Ex} {lo hi : Nat} (h : ExIn w d v t lo hi) : ExAt w d v t := by obtain ⟨fp, h, _⟩ := h; exact ExOwn.at_ h
theorem ExIn.below {w w' : World} {d : Nat} {v : Value} {t : Ex} {lo hi : Nat} (h : ExIn w d v t lo hi) (hb : Below w.heap.size w w') : ExIn w' d v t lo hi := by
  obtain ⟨fp, h, hf, hz⟩ := h
  exact ⟨fp, h.kept hb.size fun b hbf => hb.block b (Nat.lt_of_lt_of_le (hf.2 b hbf).2 hz), hf, Nat.le_trans hz hb.size⟩
theorem ExIn.of {w0 w : World} {d : Nat} {v : Value} {t : Ex} {fp : List Nat} {lo : Nat} (h : ExOwn w d v t fp) (hf : Fp w0.heap.size w.heap.size fp) (hlo : lo ≤ w0.heap.size) : ExIn w d v t lo w.heap.size :=
  ⟨fp, h, hf.mono hlo (Nat.le_refl _), Nat.le_refl _⟩
end Go.Proofs.YtimigpdbegfjaaaGreatDoor
/-
  Proved: spec.SubtermAt copies the node at a path; the memory that was there stays as it was.
-/
namespace Go.Proofs.YtimigpdbegfjaaaGreatDoor
open Go.RowKit

def exNil : Ex := .node 0 ⟨#[]⟩ 0 (.node 0 []) []
/-- What the search for a node at a path gives: a copy of it, or an empty expression, and whether it is there. -/
def SubEnd (d : Nat) (r : Option Ex) (w : World) (e : Ending) (w' : World) : Prop :=
  ∃ s, e = .returned (.tuple #[s, .bool r.isSome]) ∧ ExIn w' d s (r.getD exNil) w.heap.size w'.heap.size ∧ Below w.heap.size w w'
theorem nil_own (w : World) (d : Nat) : ExOwn w (d + 2) (.agg #[.int .i64 0, .string ⟨#[]⟩, .int .i64 0, .int .i64 0, .slice none 0 0, .slice none 0 0]) exNil [] := by
  refine ⟨.int .i64 0, .slice none 0 0, .slice none 0 0, [], [], rfl, by omega, by omega, by omega, by omega, by decide, rfl, ?_, ?_⟩
  · exact ⟨_, rfl, by omega, by omega, none, 0, [], [], rfl, Nat.le_refl _, by omega, rfl, rfl, (fun b hb => by cases hb), fun j hj => by simp at hj⟩
  · exact ⟨none, 0, [], [], rfl, Nat.le_refl _, by omega, rfl, rfl, (fun b hb => by cases hb), fun j hj => by simp at hj⟩
theorem ex_deep {w : World} {d : Nat} {v : Value} {e : Ex} (h : ExAt w d v e) : ∃ c, d = c + 2 := by
  cases d with
  | zero => exact h.elim
  | succ d =>
    cases e with
    | node kd nm n ty es =>
      obtain ⟨c3, c4, sl, _, _, _, _, _, _, ht, _⟩ := h
      cases d with
      | zero => exact ht.elim
      | succ d => exact ⟨d, rfl⟩
theorem ExIn.stored {w : World} {d : Nat} {v : Value} {t : Ex} {lo hi q j : Nat} {u : Value} (h : ExIn w d v t lo hi) (hq : q < lo) : ExIn (w.setCell ⟨q, j, none⟩ u) d v t lo hi := by
  obtain ⟨fp, h, hf, hz⟩ := h
  refine ⟨fp, h.kept (by simp) fun b hb => ?_, hf, by simpa using hz⟩
  have := (hf.2 b hb).1
  exact heap_setCell_other _ _ _ _ (by simp; omega)
theorem ExIn.wide {w : World} {d : Nat} {v : Value} {t : Ex} {lo hi lo2 hi2 : Nat} (h : ExIn w d v t lo hi) (h1 : lo2 ≤ lo) (h2 : hi ≤ hi2) (h3 : hi2 ≤ w.heap.size) : ExIn w d v t lo2 hi2 := by
  obtain ⟨fp, h, hf, hz⟩ := h
  exact ⟨fp, h, hf.mono h1 h2, h3⟩
set_option maxRecDepth 100000 in
set_option maxHeartbeats 4000000 in
theorem specSub (d : Nat) (v1 v2 : Value) (e : Ex) (ps : List Int) (w : World) (h : ExAt w d v1 e) (hp : Ints w v2 ps) (hsz : e.bulk ≤ 1048576) (hn : ps.length ≤ 1048576) :
    Calls Tryz.prog 23 #[v1, v2] w (SubEnd d (e.sub ps) w) := by
  obtain ⟨c, rfl⟩ := ex_deep h
  obtain ⟨xk, xnm, xn, xtk, xta, xtn, xtc, xa, xm, xc, rfl⟩ := ex_parts h
  obtain ⟨pa, pc, rfl, hpc, hpat⟩ := hp
  have HP := Lib.hid hpat; clear hpat
  have HSZ := Lib.hid hsz; clear hsz
  have hb0 : Below w.heap.size w ((w.alloc (.cells #[.int .i64 xk, .string xnm, .int .i64 xn, .int .i64 xtk, .slice xta xtn xtc, .slice xa xm xc] 38)).alloc (.cells #[.int .i64 0, .string ⟨#[]⟩, .int .i64 0, .int .i64 0, .slice none 0 0, .slice none 0 0] 38)) := ((Below.refl _ _).alloc (Nat.le_refl _) _).alloc (by simp) _
  have HX0 : Hid (ExAt w (c + 2) (.agg #[.int .i64 xk, .string xnm, .int .i64 xn, .int .i64 xtk, .slice xta xtn xtc, .slice xa xm xc]) e) := h
  have XA : Hid (BoxAt ((w.alloc (.cells #[.int .i64 xk, .string xnm, .int .i64 xn, .int .i64 xtk, .slice xta xtn xtc, .slice xa xm xc] 38)).alloc (.cells #[.int .i64 0, .string ⟨#[]⟩, .int .i64 0, .int .i64 0, .slice none 0 0, .slice none 0 0] 38)) w.heap.size #[.int .i64 xk, .string xnm, .int .i64 xn, .int .i64 xtk, .slice xta xtn xtc, .slice xa xm xc]) := (BoxAt.new _ _ _).below (below_alloc _ _)
  have XR : Hid (BoxAt ((w.alloc (.cells #[.int .i64 xk, .string xnm, .int .i64 xn, .int .i64 xtk, .slice xta xtn xtc, .slice xa xm xc] 38)).alloc (.cells #[.int .i64 0, .string ⟨#[]⟩, .int .i64 0, .int .i64 0, .slice none 0 0, .slice none 0 0] 38)) (w.heap.size + 1) #[.int .i64 0, .string ⟨#[]⟩, .int .i64 0, .int .i64 0, .slice none 0 0, .slice none 0 0]) := box_at (BoxAt.new _ _ _) (by simp)
  have FA : Hid (FreeAt ((w.alloc (.cells #[.int .i64 xk, .string xnm, .int .i64 xn, .int .i64 xtk, .slice xta xtn xtc, .slice xa xm xc] 38)).alloc (.cells #[.int .i64 0, .string ⟨#[]⟩, .int .i64 0, .int .i64 0, .slice none 0 0, .slice none 0 0] 38)) w.heap.size) := (FreeAt.new _ _ _).below (below_alloc _ _)
  have FR : Hid (FreeAt ((w.alloc (.cells #[.int .i64 xk, .string xnm, .int .i64 xn, .int .i64 xtk, .slice xta xtn xtc, .slice xa xm xc] 38)).alloc (.cells #[.int .i64 0, .string ⟨#[]⟩, .int .i64 0, .int .i64 0, .slice none 0 0, .slice none 0 0] 38)) (w.heap.size + 1)) := free_at (FreeAt.new _ _ _) (by simp)
  have hz0 : ((w.alloc (.cells #[.int .i64 xk, .string xnm, .int .i64 xn, .int .i64 xtk, .slice xta xtn xtc, .slice xa xm xc] 38)).alloc (.cells #[.int .i64 0, .string ⟨#[]⟩, .int .i64 0, .int .i64 0, .slice none 0 0, .slice none 0 0] 38)).heap.size = w.heap.size + 2 := by simp
  have B0 := Lib.hid hb0
  clear hb0 h
  go_enter Tryz.func23, Tryz.ntmps23
  go_wp2_with fail
  go_loopw [6] (fun i wr => ∃ (k : Nat) (x : Ex) (xk : Int) (xnm : ByteArray) (xn xtk : Int) (xta : Option Addr) (xtn xtc : Nat) (xa : Option Addr) (xm xc : Nat), k ≤ ps.length ∧ i = .int .i64 k ∧ BoxAt wr w.heap.size #[.int .i64 xk, .string xnm, .int .i64 xn, .int .i64 xtk, .slice xta xtn xtc, .slice xa xm xc] ∧ BoxAt wr (w.heap.size + 1) #[.int .i64 0, .string ⟨#[]⟩, .int .i64 0, .int .i64 0, .slice none 0 0, .slice none 0 0] ∧ FreeAt wr w.heap.size ∧ FreeAt wr (w.heap.size + 1) ∧ wr.heap.size = w.heap.size + 2 ∧ ExAt w (c + 2) (.agg #[.int .i64 xk, .string xnm, .int .i64 xn, .int .i64 xtk, .slice xta xtn xtc, .slice xa xm xc]) x ∧ x.bulk ≤ 1048576 ∧ e.sub ps = x.sub (ps.drop k) ∧ Below w.heap.size w wr) (fun i _ => ps.length - (intOf i).toNat)
  case atStart => exact ⟨0, e, xk, xnm, xn, xtk, xta, xtn, xtc, xa, xm, xc, by omega, rfl, XA.out, XR.out, FA.out, FR.out, hz0, HX0.out, HSZ.out, by simp, B0.out⟩
  clear XA XR FA FR hz0 B0 HX0
  case round =>
    obtain ⟨k, x, yk, ynm, yn, ytk, yta, ytn, ytc, ya, ym, yc, hk, rfl, hxa, hxr, hfa, hfr, hz, hex, hxs, hsub, hb⟩ := hrel
    have HSUB := Lib.hid hsub; clear hsub
    have XA := Lib.hid hxa
    have XR := Lib.hid hxr
    have FA := Lib.hid hfa
    have FR := Lib.hid hfr
    have HEX := Lib.hid hex
    have HXS := Lib.hid hxs
    have HB := Lib.hid hb
    clear hxa hxr hfa hfr hxs hb
    by_cases hlt : k < ps.length
    · obtain ⟨bp, offp, rfl, hblp, hcp⟩ := HP.out k hlt
      obtain ⟨rfl, hmc, hc2, hrow⟩ := ex_row hex
      have HROW := Lib.hid hrow; clear hrow hex
      have HDR := Lib.hid (drop_at ps k hlt)
      obtain ⟨p, hp⟩ : ∃ p, p = ps[k] := ⟨_, rfl⟩
      rw [← hp] at hcp HDR
      clear hp
      have cp : wr.cell? ⟨bp, offp + k, none⟩ = some (.int .i64 p) := (HB.out.cell (p := ⟨bp, offp + k, none⟩) hblp).trans hcp
      have HCP := Lib.hid hcp
      clear hcp
      have a5 := XA.out.2 5
      have CI : ∀ W, Calls Tryz.prog 40 #[.int .i64 p, .int .i64 0, .int .i64 ((x.parts.length : Int) - 1)] W fun e w' => e = .returned (.bool (decide (0 ≤ p) && decide (p ≤ (x.parts.length : Int) - 1))) ∧ w' = W := fun W => specIn p 0 _ W
      have hwrap : IntKind.i64.wrap ((x.parts.length : Int) - 1) = (x.parts.length : Int) - 1 := IntWalk.i64_in _ (by omega)
      by_cases q : 0 ≤ p ∧ p ≤ (x.parts.length : Int) - 1
      · obtain ⟨m, rfl⟩ : ∃ m : Nat, p = m := ⟨p.toNat, by omega⟩
        have hm : m < x.parts.length := by omega
        have HN : Hid (e.sub ps = (x.parts[m]).sub (ps.drop (k + 1))) := by
          show _ = _
          rw [HSUB.out, HDR.out]
          exact sub_step (by omega) (by simpa using hm)
        have HM : Hid ((x.parts[m]).bulk ≤ 1048576) := Nat.le_trans (part_bulk hm) HXS.out
        rw [show (decide ((0 : Int) ≤ (m : Int)) && decide ((m : Int) ≤ (x.parts.length : Int) - 1)) = true from by rw [decide_eq_true q.1, decide_eq_true q.2]; rfl] at CI
        have HCI := Lib.hid CI; clear CI q
        obtain ⟨bn, offn, z0, z1, z2, z3, z4, z5, rfl, hbn, f0, f1, f2, f3, f4, f5, hz6⟩ := HROW.out m hm
        obtain ⟨zk, znm, zn, ztk, zta, ztn, ztc, za, zm, zc, rfl, rfl, rfl, rfl, rfl, rfl⟩ := ex_cells hz6
        have HZ := Lib.hid hz6
        have hne : bn ≠ w.heap.size := by omega
        go_wp2_with fail
        go_quiet ((go_at_call 40; exact Calls.quiet_of_same (HCI.out _)))
        go_wp2_with fail
        have hb : Below wr.heap.size wr (wr.drewN nq) := ⟨rfl, rfl, rfl, Nat.le_refl _, fun _ _ => rfl⟩
        replace XA := Lib.hid (XA.out.below hb)
        replace XR := Lib.hid (XR.out.below hb)
        replace FA := Lib.hid (FA.out.below hb)
        replace FR := Lib.hid (FR.out.below hb)
        replace HB := Lib.hid (below_thru HB.out (Nat.le_refl _) hb)
        have hzq : (wr.drewN nq).heap.size = w.heap.size + 2 := hz
        clear hb a5 cp hz
        generalize wr.drewN nq = wq at XA XR FA FR HB hzq ⊢
        have cp : wq.cell? ⟨bp, offp + k, none⟩ = some (.int .i64 (m : Int)) := (HB.out.cell (p := ⟨bp, offp + k, none⟩) hblp).trans HCP.out
        have g0 := (HB.out.cell (p := ⟨bn, offn + m * 6, none⟩) hbn).trans f0
        have g1 := (HB.out.cell (p := ⟨bn, offn + m * 6 + 1, none⟩) hbn).trans f1
        have g2 := (HB.out.cell (p := ⟨bn, offn + m * 6 + 2, none⟩) hbn).trans f2
        have g3 := (HB.out.cell (p := ⟨bn, offn + m * 6 + 3, none⟩) hbn).trans f3
        have g4 := (HB.out.cell (p := ⟨bn, offn + m * 6 + 4, none⟩) hbn).trans f4
        have g5 := (HB.out.cell (p := ⟨bn, offn + m * 6 + 5, none⟩) hbn).trans f5
        have a0 := XA.out.2 0
        have q0 := FA.out.2 0
        have a1 := XA.out.2 1
        have q1 := FA.out.2 1
        have a2 := XA.out.2 2
        have q2 := FA.out.2 2
        have a3 := XA.out.2 3
        have q3 := FA.out.2 3
        have a4 := XA.out.2 4
        have q4 := FA.out.2 4
        have a5 := XA.out.2 5
        have q5 := FA.out.2 5
        clear f0 f1 f2 f3 f4 f5 hz6
        go_region
        clear cp g0 g1 g2 g3 g4 g5 a0 q0 a1 q1 a2 q2 a3 q3 a4 q4 a5 q5
        have XA2 : Hid (BoxAt ((((((wq.setCell ⟨w.heap.size, 0, none⟩ (.int .i64 zk)).setCell ⟨w.heap.size, 1, none⟩ (.string znm)).setCell ⟨w.heap.size, 2, none⟩ (.int .i64 zn)).setCell ⟨w.heap.size, 3, none⟩ (.int .i64 ztk)).setCell ⟨w.heap.size, 4, none⟩ (.slice zta ztn ztc)).setCell ⟨w.heap.size, 5, none⟩ (.slice za zm zc)) w.heap.size #[.int .i64 zk, .string znm, .int .i64 zn, .int .i64 ztk, .slice zta ztn ztc, .slice za zm zc]) := by
          have := ((((((XA.out.put (j := 0) (u := .int .i64 zk) (by simp)).put (j := 1) (u := .string znm) (by simp)).put (j := 2) (u := .int .i64 zn) (by simp)).put (j := 3) (u := .int .i64 ztk) (by simp)).put (j := 4) (u := .slice zta ztn ztc) (by simp)).put (j := 5) (u := .slice za zm zc) (by simp))
          exact this
        have XR2 : Hid (BoxAt ((((((wq.setCell ⟨w.heap.size, 0, none⟩ (.int .i64 zk)).setCell ⟨w.heap.size, 1, none⟩ (.string znm)).setCell ⟨w.heap.size, 2, none⟩ (.int .i64 zn)).setCell ⟨w.heap.size, 3, none⟩ (.int .i64 ztk)).setCell ⟨w.heap.size, 4, none⟩ (.slice zta ztn ztc)).setCell ⟨w.heap.size, 5, none⟩ (.slice za zm zc)) (w.heap.size + 1) #[.int .i64 0, .string ⟨#[]⟩, .int .i64 0, .int .i64 0, .slice none 0 0, .slice none 0 0]) := ((((((XR.out.stored (by omega)).stored (by omega)).stored (by omega)).stored (by omega)).stored (by omega)).stored (by omega))
        have FA2 : Hid (FreeAt ((((((wq.setCell ⟨w.heap.size, 0, none⟩ (.int .i64 zk)).setCell ⟨w.heap.size, 1, none⟩ (.string znm)).setCell ⟨w.heap.size, 2, none⟩ (.int .i64 zn)).setCell ⟨w.heap.size, 3, none⟩ (.int .i64 ztk)).setCell ⟨w.heap.size, 4, none⟩ (.slice zta ztn ztc)).setCell ⟨w.heap.size, 5, none⟩ (.slice za zm zc)) w.heap.size) := FA.out.put.put.put.put.put.put
        have FR2 : Hid (FreeAt ((((((wq.setCell ⟨w.heap.size, 0, none⟩ (.int .i64 zk)).setCell ⟨w.heap.size, 1, none⟩ (.string znm)).setCell ⟨w.heap.size, 2, none⟩ (.int .i64 zn)).setCell ⟨w.heap.size, 3, none⟩ (.int .i64 ztk)).setCell ⟨w.heap.size, 4, none⟩ (.slice zta ztn ztc)).setCell ⟨w.heap.size, 5, none⟩ (.slice za zm zc)) (w.heap.size + 1)) := FR.out.put.put.put.put.put.put
        have HB2 : Hid (Below w.heap.size w ((((((wq.setCell ⟨w.heap.size, 0, none⟩ (.int .i64 zk)).setCell ⟨w.heap.size, 1, none⟩ (.string znm)).setCell ⟨w.heap.size, 2, none⟩ (.int .i64 zn)).setCell ⟨w.heap.size, 3, none⟩ (.int .i64 ztk)).setCell ⟨w.heap.size, 4, none⟩ (.slice zta ztn ztc)).setCell ⟨w.heap.size, 5, none⟩ (.slice za zm zc))) := (((((HB.out.setCell (Nat.le_refl _) _).setCell (Nat.le_refl _) _).setCell (Nat.le_refl _) _).setCell (Nat.le_refl _) _).setCell (Nat.le_refl _) _).setCell (Nat.le_refl _) _
        have hz2 : ((((((wq.setCell ⟨w.heap.size, 0, none⟩ (.int .i64 zk)).setCell ⟨w.heap.size, 1, none⟩ (.string znm)).setCell ⟨w.heap.size, 2, none⟩ (.int .i64 zn)).setCell ⟨w.heap.size, 3, none⟩ (.int .i64 ztk)).setCell ⟨w.heap.size, 4, none⟩ (.slice zta ztn ztc)).setCell ⟨w.heap.size, 5, none⟩ (.slice za zm zc)).heap.size = w.heap.size + 2 := by simpa using hzq
        generalize ((((((wq.setCell ⟨w.heap.size, 0, none⟩ (.int .i64 zk)).setCell ⟨w.heap.size, 1, none⟩ (.string znm)).setCell ⟨w.heap.size, 2, none⟩ (.int .i64 zn)).setCell ⟨w.heap.size, 3, none⟩ (.int .i64 ztk)).setCell ⟨w.heap.size, 4, none⟩ (.slice zta ztn ztc)).setCell ⟨w.heap.size, 5, none⟩ (.slice za zm zc)) = wf at XA2 XR2 FA2 FR2 HB2 hz2 ⊢
        have hb : Below wf.heap.size wf wf.drew := below_drew wf
        replace XA2 := Lib.hid (XA2.out.below hb)
        replace XR2 := Lib.hid (XR2.out.below hb)
        replace FA2 := Lib.hid (FA2.out.below hb)
        replace FR2 := Lib.hid (FR2.out.below hb)
        replace HB2 := Lib.hid (below_thru HB2.out (Nat.le_refl _) hb)
        have hz3 : wf.drew.heap.size = w.heap.size + 2 := hz2
        clear hb hz2
        generalize wf.drew = wz at XA2 XR2 FA2 FR2 HB2 hz3 ⊢
        go_wp2_with fail
        exact ⟨⟨k + 1, x.parts[m], zk, znm, zn, ztk, zta, ztn, ztc, za, zm, zc, by omega, by go_num, XA2.out, XR2.out, FA2.out, FR2.out, hz3, HZ.out, HM.out, HN.out, HB2.out⟩, by simp [intOf]; omega⟩
      · have HN : Hid (e.sub ps = none) := by
          show _ = _
          rw [HSUB.out, HDR.out]
          by_cases q1 : p < 0
          · exact sub_low q1
          · exact sub_high (by omega)
        rw [show (decide ((0 : Int) ≤ p) && decide (p ≤ (x.parts.length : Int) - 1)) = false from by
          by_cases q1 : 0 ≤ p
          · rw [decide_eq_true q1, decide_eq_false (fun h => q ⟨q1, h⟩)]; rfl
          · rw [decide_eq_false q1]; rfl] at CI
        have HCI := Lib.hid CI; clear CI q
        go_wp2_with fail
        go_quiet ((go_at_call 40; exact Calls.quiet_of_same (HCI.out _)))
        have hb : Below wr.heap.size wr (wr.drewN nq) := ⟨rfl, rfl, rfl, Nat.le_refl _, fun _ _ => rfl⟩
        replace XR := Lib.hid (XR.out.below hb)
        replace FR := Lib.hid (FR.out.below hb)
        replace HB := Lib.hid (below_thru HB.out (Nat.le_refl _) hb)
        have hzq : (wr.drewN nq).heap.size = w.heap.size + 2 := hz
        clear hb a5 cp hz
        generalize wr.drewN nq = wq at XR FR HB hzq ⊢
        have r0 := XR.out.2 0
        have s0 := FR.out.2 0
        have r1 := XR.out.2 1
        have s1 := FR.out.2 1
        have r2 := XR.out.2 2
        have s2 := FR.out.2 2
        have r3 := XR.out.2 3
        have s3 := FR.out.2 3
        have r4 := XR.out.2 4
        have s4 := FR.out.2 4
        have r5 := XR.out.2 5
        have s5 := FR.out.2 5
        go_wp2_with fail
        have XRF : BoxAt ((((((wq.setCell ⟨w.heap.size + 1, 0, none⟩ (.int .i64 0)).setCell ⟨w.heap.size + 1, 1, none⟩ (.string ⟨#[]⟩)).setCell ⟨w.heap.size + 1, 2, none⟩ (.int .i64 0)).setCell ⟨w.heap.size + 1, 3, none⟩ (.int .i64 0)).setCell ⟨w.heap.size + 1, 4, none⟩ (.slice none 0 0)).setCell ⟨w.heap.size + 1, 5, none⟩ (.slice none 0 0)) (w.heap.size + 1) #[.int .i64 0, .string ⟨#[]⟩, .int .i64 0, .int .i64 0, .slice none 0 0, .slice none 0 0] := by
          have := ((((((XR.out.put (j := 0) (u := .int .i64 0) (by simp)).put (j := 1) (u := .string ⟨#[]⟩) (by simp)).put (j := 2) (u := .int .i64 0) (by simp)).put (j := 3) (u := .int .i64 0) (by simp)).put (j := 4) (u := .slice none 0 0) (by simp)).put (j := 5) (u := .slice none 0 0) (by simp))
          exact this
        have hBF : Below w.heap.size w ((((((wq.setCell ⟨w.heap.size + 1, 0, none⟩ (.int .i64 0)).setCell ⟨w.heap.size + 1, 1, none⟩ (.string ⟨#[]⟩)).setCell ⟨w.heap.size + 1, 2, none⟩ (.int .i64 0)).setCell ⟨w.heap.size + 1, 3, none⟩ (.int .i64 0)).setCell ⟨w.heap.size + 1, 4, none⟩ (.slice none 0 0)).setCell ⟨w.heap.size + 1, 5, none⟩ (.slice none 0 0)) := ((((((HB.out.setCell (by simp) _).setCell (by simp) _).setCell (by simp) _).setCell (by simp) _).setCell (by simp) _).setCell (by simp) _)
        have hzF : ((((((wq.setCell ⟨w.heap.size + 1, 0, none⟩ (.int .i64 0)).setCell ⟨w.heap.size + 1, 1, none⟩ (.string ⟨#[]⟩)).setCell ⟨w.heap.size + 1, 2, none⟩ (.int .i64 0)).setCell ⟨w.heap.size + 1, 3, none⟩ (.int .i64 0)).setCell ⟨w.heap.size + 1, 4, none⟩ (.slice none 0 0)).setCell ⟨w.heap.size + 1, 5, none⟩ (.slice none 0 0)).heap.size = w.heap.size + 2 := by simpa using hzq
        have h0 := XRF.2 0
        have h1 := XRF.2 1
        have h2 := XRF.2 2
        have h3 := XRF.2 3
        have h4 := XRF.2 4
        have h5 := XRF.2 5
        clear XRF
        generalize ((((((wq.setCell ⟨w.heap.size + 1, 0, none⟩ (.int .i64 0)).setCell ⟨w.heap.size + 1, 1, none⟩ (.string ⟨#[]⟩)).setCell ⟨w.heap.size + 1, 2, none⟩ (.int .i64 0)).setCell ⟨w.heap.size + 1, 3, none⟩ (.int .i64 0)).setCell ⟨w.heap.size + 1, 4, none⟩ (.slice none 0 0)).setCell ⟨w.heap.size + 1, 5, none⟩ (.slice none 0 0)) = WX at h0 h1 h2 h3 h4 h5 hBF hzF ⊢
        refine bodyPost_ret (v := .tuple #[.agg #[.int .i64 0, .string ⟨#[]⟩, .int .i64 0, .int .i64 0, .slice none 0 0, .slice none 0 0], .bool false]) (by simp [results, Tryz.results23, go_sem, h0, h1, h2, h3, h4, h5]) rfl ?_
        rw [HN.out]
        exact ⟨_, rfl, ⟨[], nil_own _ c, Fp.nil _ _, Nat.le_refl _⟩, hBF⟩
    · obtain rfl : k = ps.length := by omega
      have HN : Hid (e.sub ps = some x) := by show _ = _; rw [HSUB.out, List.drop_length]; exact sub_nil x
      have a0 := XA.out.2 0
      have a1 := XA.out.2 1
      have a2 := XA.out.2 2
      have a3 := XA.out.2 3
      have a4 := XA.out.2 4
      have a5 := XA.out.2 5
      go_wp2_with fail
      clear a0 a1 a2 a3 a4 a5
      refine (specExCopy (c + 2) _ x _ HXS.out (HEX.out.below HB.out)).mono ?_
      rintro e1 w1 ⟨v1, fp, rfl, ht, hf, hb⟩
      obtain ⟨zk, znm, zn, ztk, zta, ztn, ztc, za, zm, zc, rfl⟩ := ex_parts ht.at_
      have hz1 := hb.size
      rw [hz] at hz1 hf
      have HO : Hid (ExIn w1 (c + 2) (.agg #[.int .i64 zk, .string znm, .int .i64 zn, .int .i64 ztk, .slice zta ztn ztc, .slice za zm zc]) x (w.heap.size + 2) w1.heap.size) := ⟨fp, ht, hf, Nat.le_refl _⟩
      replace HB := Lib.hid (below_thru HB.out (Nat.le_refl _) hb)
      replace XR := Lib.hid (XR.out.below hb)
      replace FR := Lib.hid (FR.out.below hb)
      clear ht hf hb hz
      have r0 := XR.out.2 0
      have s0 := FR.out.2 0
      have r1 := XR.out.2 1
      have s1 := FR.out.2 1
      have r2 := XR.out.2 2
      have s2 := FR.out.2 2
      have r3 := XR.out.2 3
      have s3 := FR.out.2 3
      have r4 := XR.out.2 4
      have s4 := FR.out.2 4
      have r5 := XR.out.2 5
      have s5 := FR.out.2 5
      go_wp2_with fail
      have XRF : BoxAt ((((((w1.setCell ⟨w.heap.size + 1, 0, none⟩ (.int .i64 zk)).setCell ⟨w.heap.size + 1, 1, none⟩ (.string znm)).setCell ⟨w.heap.size + 1, 2, none⟩ (.int .i64 zn)).setCell ⟨w.heap.size + 1, 3, none⟩ (.int .i64 ztk)).setCell ⟨w.heap.size + 1, 4, none⟩ (.slice zta ztn ztc)).setCell ⟨w.heap.size + 1, 5, none⟩ (.slice za zm zc)) (w.heap.size + 1) #[.int .i64 zk, .string znm, .int .i64 zn, .int .i64 ztk, .slice zta ztn ztc, .slice za zm zc] := by
        have := ((((((XR.out.put (j := 0) (u := .int .i64 zk) (by simp)).put (j := 1) (u := .string znm) (by simp)).put (j := 2) (u := .int .i64 zn) (by simp)).put (j := 3) (u := .int .i64 ztk) (by simp)).put (j := 4) (u := .slice zta ztn ztc) (by simp)).put (j := 5) (u := .slice za zm zc) (by simp))
        exact this
      have hBF : Below w.heap.size w ((((((w1.setCell ⟨w.heap.size + 1, 0, none⟩ (.int .i64 zk)).setCell ⟨w.heap.size + 1, 1, none⟩ (.string znm)).setCell ⟨w.heap.size + 1, 2, none⟩ (.int .i64 zn)).setCell ⟨w.heap.size + 1, 3, none⟩ (.int .i64 ztk)).setCell ⟨w.heap.size + 1, 4, none⟩ (.slice zta ztn ztc)).setCell ⟨w.heap.size + 1, 5, none⟩ (.slice za zm zc)) := ((((((HB.out.setCell (by simp) _).setCell (by simp) _).setCell (by simp) _).setCell (by simp) _).setCell (by simp) _).setCell (by simp) _)
      have HOF : ExIn ((((((w1.setCell ⟨w.heap.size + 1, 0, none⟩ (.int .i64 zk)).setCell ⟨w.heap.size + 1, 1, none⟩ (.string znm)).setCell ⟨w.heap.size + 1, 2, none⟩ (.int .i64 zn)).setCell ⟨w.heap.size + 1, 3, none⟩ (.int .i64 ztk)).setCell ⟨w.heap.size + 1, 4, none⟩ (.slice zta ztn ztc)).setCell ⟨w.heap.size + 1, 5, none⟩ (.slice za zm zc)) (c + 2) (.agg #[.int .i64 zk, .string znm, .int .i64 zn, .int .i64 ztk, .slice zta ztn ztc, .slice za zm zc]) x (w.heap.size + 2) w1.heap.size := ((((((HO.out.stored (by omega)).stored (by omega)).stored (by omega)).stored (by omega)).stored (by omega)).stored (by omega))
      have hzF : ((((((w1.setCell ⟨w.heap.size + 1, 0, none⟩ (.int .i64 zk)).setCell ⟨w.heap.size + 1, 1, none⟩ (.string znm)).setCell ⟨w.heap.size + 1, 2, none⟩ (.int .i64 zn)).setCell ⟨w.heap.size + 1, 3, none⟩ (.int .i64 ztk)).setCell ⟨w.heap.size + 1, 4, none⟩ (.slice zta ztn ztc)).setCell ⟨w.heap.size + 1, 5, none⟩ (.slice za zm zc)).heap.size = w1.heap.size := by simp
      have h0 := XRF.2 0
      have h1 := XRF.2 1
      have h2 := XRF.2 2
      have h3 := XRF.2 3
      have h4 := XRF.2 4
      have h5 := XRF.2 5
      clear XRF
      generalize ((((((w1.setCell ⟨w.heap.size + 1, 0, none⟩ (.int .i64 zk)).setCell ⟨w.heap.size + 1, 1, none⟩ (.string znm)).setCell ⟨w.heap.size + 1, 2, none⟩ (.int .i64 zn)).setCell ⟨w.heap.size + 1, 3, none⟩ (.int .i64 ztk)).setCell ⟨w.heap.size + 1, 4, none⟩ (.slice zta ztn ztc)).setCell ⟨w.heap.size + 1, 5, none⟩ (.slice za zm zc)) = WX at h0 h1 h2 h3 h4 h5 hBF HOF hzF ⊢
      refine bodyPost_ret (v := .tuple #[.agg #[.int .i64 zk, .string znm, .int .i64 zn, .int .i64 ztk, .slice zta ztn ztc, .slice za zm zc], .bool true]) (by simp [results, Tryz.results23, go_sem, h0, h1, h2, h3, h4, h5]) rfl ?_
      rw [HN.out]
      exact ⟨_, rfl, HOF.wide (by omega) (by omega) (Nat.le_refl _), hBF⟩
end Go.Proofs.YtimigpdbegfjaaaGreatDoor
/-
  Proved: spec.l6Has says whether a kind occurs in an expression; the memory that was there stays as it was.
-/
namespace Go.Proofs.YtimigpdbegfjaaaGreatDoor
open Go.RowKit

set_option maxRecDepth 100000 in
set_option maxHeartbeats 2000000 in
theorem specExHas (x : Int) : ∀ (d : Nat) (v : Value) (t : Ex) (w : World), ExAt w d v t → t.bulk ≤ 1048576 → Calls Tryz.prog 42 #[v, .int .i64 x] w fun e w' => e = .returned (.bool (t.has x)) ∧ Below w.heap.size w w'
  | 0, _, _, _, h, _ => h.elim
  | d + 1, v, .node kd nm n ty es, w, h, hsz => by
    have IH : Hid (∀ (v : Value) (t : Ex) (w : World), ExAt w d v t → t.bulk ≤ 1048576 → Calls Tryz.prog 42 #[v, .int .i64 x] w fun e w' => e = .returned (.bool (t.has x)) ∧ Below w.heap.size w w') := specExHas x d
    have HV := ex_parts h
    obtain ⟨c3, c4, sl, rfl, hk0, hk1, hn0, hn1, hnm, hty, a, cap, rfl, hcap, hcap2, hat⟩ := h
    obtain ⟨k', nm', n', tk, ta, tn, tc, sa, sn, sc, hv⟩ := HV
    injection hv with hv
    injection hv with hv
    simp at hv
    obtain ⟨rfl, rfl, rfl, rfl, rfl, rfl, rfl, rfl⟩ := hv
    have HAT := Lib.hid hat; clear hat
    have hbk : (Ex.node kd nm n ty es).bulk = nm.size + (ty.size - 1) + Ex.bulks es := rfl
    have HSZ : Hid (Ex.bulks es ≤ 1048576) := by show _ ≤ _; omega
    have HNM : Hid (nm.size ≤ 1048576) := by show _ ≤ _; omega
    have HTZ : Hid (ty.size ≤ 1048577) := by show _ ≤ _; omega
    have hlen : es.length ≤ 1048576 := by have := Ex.length_le es; omega
    clear hsz hbk hty
    go_enter Tryz.func42, Tryz.ntmps42
    go_wp2_with fail
    go_loopw [5] (fun i wr => ∃ k : Nat, k ≤ es.length ∧ i = .int .i64 k ∧ Ex.hass x (es.take k) = false ∧ Below (w.heap.size + 1) (w.alloc (.cells #[.int .i64 kd, .string nm, .int .i64 n, .int .i64 tk, .slice ta tn tc, .slice a es.length cap] 38)) wr) (fun i _ => es.length - (intOf i).toNat)
    case atStart => exact ⟨0, by omega, rfl, by simp [Ex.hass], Below.refl _ _⟩
    case round =>
      obtain ⟨k, hk, rfl, hf, hb⟩ := hrel
      have HF := Lib.hid hf; clear hf
      have b0 := box_cell hb 0
      have b1 := box_cell hb 1
      have b2 := box_cell hb 2
      have b3 := box_cell hb 3
      have b4 := box_cell hb 4
      have b5 := box_cell hb 5
      have HB := Lib.hid (box_below hb)
      have HBX := Lib.hid hb; clear hb
      have HS2 := HSZ.out
      by_cases hlt : k < es.length
      · obtain ⟨b, off, x0, x1, x2, x3, x4, x5, rfl, hbl, hc0, hc1, hc2, hc3, hc4, hc5, ht⟩ := HAT.out k hlt
        have hg := Ex.bulk_get es k hlt
        have e0 : wr.cell? ⟨b, off + k * 6, none⟩ = some (x0) := by rw [HB.out.cell (p := ⟨b, off + k * 6, none⟩) hbl]; exact hc0
        have e1 : wr.cell? ⟨b, off + k * 6 + 1, none⟩ = some (x1) := by rw [HB.out.cell (p := ⟨b, off + k * 6 + 1, none⟩) hbl]; exact hc1
        have e2 : wr.cell? ⟨b, off + k * 6 + 2, none⟩ = some (x2) := by rw [HB.out.cell (p := ⟨b, off + k * 6 + 2, none⟩) hbl]; exact hc2
        have e3 : wr.cell? ⟨b, off + k * 6 + 3, none⟩ = some (x3) := by rw [HB.out.cell (p := ⟨b, off + k * 6 + 3, none⟩) hbl]; exact hc3
        have e4 : wr.cell? ⟨b, off + k * 6 + 4, none⟩ = some (x4) := by rw [HB.out.cell (p := ⟨b, off + k * 6 + 4, none⟩) hbl]; exact hc4
        have e5 : wr.cell? ⟨b, off + k * 6 + 5, none⟩ = some (x5) := by rw [HB.out.cell (p := ⟨b, off + k * 6 + 5, none⟩) hbl]; exact hc5
        have HT := Lib.hid (ht.below HB.out)
        have HPX := Lib.hid HBX.out
        clear ht hc0 hc1 hc2 hc3 hc4 hc5
        go_wp2_with fail
        refine (IH.out _ _ _ HT.out (by omega)).mono ?_
        rintro e w' ⟨rfl, hb1⟩
        have HN := Lib.hid (box_next HPX.out hb1); clear hb1
        have HT2 := Lib.hid (Ex.hass_take x es k hlt)
        cases hfk : es[k].has x with
        | false =>
          have HFK := Lib.hid hfk; clear hfk
          go_wp2_with fail
          exact ⟨⟨k + 1, by omega, by go_num, by rw [HT2.out, HF.out, HFK.out]; rfl, HN.out⟩, by simp [intOf]; omega⟩
        | true =>
          have HFK := Lib.hid hfk; clear hfk
          go_wp2_with fail
          go_ret
          have e : Ex.hass x es = true := Ex.hass_true x es (k + 1) (by rw [HT2.out, HF.out, HFK.out]; rfl)
          exact ⟨by simp [Ex.has, e], box_below HN.out⟩
      · obtain rfl : k = es.length := by omega
        have HFT : Hid (Ex.hass x es = false) := by have := HF.out; rw [List.take_length] at this; exact this
        by_cases q : kd = x
        · subst q
          go_wp2_with fail
          go_ret
          exact ⟨by simp [Ex.has, HFT.out], HB.out⟩
        · have qb : (kd == x) = false := by simp [q]
          go_wp2_with fail
          go_ret
          exact ⟨by simp [Ex.has, HFT.out, q], HB.out⟩
end Go.Proofs.YtimigpdbegfjaaaGreatDoor
/-
  Proved: spec.IsRaw says whether an expression is valid and has no marks; the memory that was there stays as it was.
-/
namespace Go.Proofs.YtimigpdbegfjaaaGreatDoor
open Go.RowKit

set_option maxRecDepth 100000 in
set_option maxHeartbeats 2000000 in
theorem specExRaw (d : Nat) (v : Value) (t : Ex) (w : World) (h : ExAt w d v t) (hsz : t.bulk ≤ 1048576) :
    Calls Tryz.prog 24 #[v] w fun e w' => e = .returned (.bool (t.valid && !t.has 14)) ∧ Below w.heap.size w w' := by
  have HT := Lib.hid h
  obtain ⟨yk, ynm, yn, ytk, yta, ytn, ytc, ya, ym, yc, rfl⟩ := ex_parts h
  clear h
  have E0 := below_alloc w (.cells #[.int .i64 yk, .string ynm, .int .i64 yn, .int .i64 ytk, .slice yta ytn ytc, .slice ya ym yc] 38)
  have HT0 := Lib.hid (HT.out.below E0)
  clear E0
  go_enter Tryz.func24, Tryz.ntmps24
  go_wp2_with fail
  refine (specExValid d _ t _ HT0.out hsz).mono ?_
  rintro e w1 ⟨rfl, hb⟩
  have B1 := Lib.hid (box_next (Below.refl _ _) hb)
  clear hb
  have c0 := box_cell B1.out 0
  have c1 := box_cell B1.out 1
  have c2 := box_cell B1.out 2
  have c3 := box_cell B1.out 3
  have c4 := box_cell B1.out 4
  have c5 := box_cell B1.out 5
  cases hv0 : t.valid with
  | false =>
    go_wp2_with fail
    go_ret
    exact ⟨by simp [hv0], box_below B1.out⟩
  | true =>
    go_wp2_with fail
    refine (specExHas 14 d _ t _ (HT.out.below (box_below B1.out)) hsz).mono ?_
    rintro e w2 ⟨rfl, hb⟩
    have B2 := Lib.hid (box_next B1.out hb)
    clear hb B1 c0 c1 c2 c3 c4 c5
    go_wp2_with fail
    go_ret
    exact ⟨by simp [hv0], box_below B2.out⟩
end Go.Proofs.YtimigpdbegfjaaaGreatDoor
/-
  Proved: spec.IsEdit says whether an edit is valid; it leaves the memory that was there as it was.
-/
namespace Go.Proofs.YtimigpdbegfjaaaGreatDoor
open Go.RowKit

set_option maxRecDepth 100000 in
set_option maxHeartbeats 2000000 in
theorem specIsEdit (d : Nat) (v : Value) (t : Edi) (w : World) (h : EditAt w d v t) (hn : t.bulk ≤ 1048576) :
    Calls Tryz.prog 11 #[v] w fun e w' => e = .returned (.bool t.okB) ∧ Below w.heap.size w w' := by
  cases t with
  | mk ex ps =>
    obtain ⟨k, nm, n, tk, ta, tn, tc, sa, sn, sc, pa, pn, pc, rfl, he, hp, hl⟩ := h
    dsimp only at he hp hl ⊢
    have hbk : (Edi.mk ex ps).bulk = ex.bulk + ps.length := rfl
    have hn1 : ex.bulk ≤ 1048576 := by omega
    have hn2 : ps.length ≤ 1048576 := by omega
    have HQ : Hid ((Edi.mk ex ps).okB = ((ex.sub ps).isSome && (ex.valid && !ex.has 14))) := rfl
    clear hn hbk hl
    have B : Hid (Below w.heap.size w (w.alloc (.cells #[.int .i64 k, .string nm, .int .i64 n, .int .i64 tk, .slice ta tn tc, .slice sa sn sc, .slice pa pn pc] 40))) := below_alloc _ _
    have XA : Hid (BoxAt (w.alloc (.cells #[.int .i64 k, .string nm, .int .i64 n, .int .i64 tk, .slice ta tn tc, .slice sa sn sc, .slice pa pn pc] 40)) w.heap.size #[.int .i64 k, .string nm, .int .i64 n, .int .i64 tk, .slice ta tn tc, .slice sa sn sc, .slice pa pn pc]) := BoxAt.new _ _ _
    have HE := Lib.hid (he.below B.out)
    have HP := Lib.hid (hp.below B.out)
    clear he hp
    go_enter Tryz.func11, Tryz.ntmps11
    go_wp2_with fail
    refine (specSub d _ _ ex ps _ HE.out HP.out hn1 hn2).mono ?_
    rintro e w1 ⟨s, rfl, hs, hb⟩
    obtain ⟨yk, ynm, yn, ytk, yta, ytn, ytc, ya, ym, yc, rfl⟩ := ex_parts hs.at_
    clear hs
    replace B := Lib.hid (below_thru B.out (Nat.le_refl _) hb)
    replace XA := Lib.hid (XA.out.below hb)
    replace HE := Lib.hid (HE.out.below hb)
    replace HP := Lib.hid (HP.out.below hb)
    clear hb
    cases hq : (ex.sub ps).isSome with
    | false =>
      rw [hq] at HQ
      go_wp2_with fail
      go_ret
      exact ⟨by rw [HQ.out]; rfl, B.out.alloc B.out.size _⟩
    | true =>
      rw [hq] at HQ
      have hb : Below w1.heap.size w1 (w1.alloc (.cells #[.int .i64 yk, .string ynm, .int .i64 yn, .int .i64 ytk, .slice yta ytn ytc, .slice ya ym yc] 38)) := below_alloc _ _
      replace B := Lib.hid (below_thru B.out (Nat.le_refl _) hb)
      replace XA := Lib.hid (XA.out.below hb)
      replace HE := Lib.hid (HE.out.below hb)
      replace HP := Lib.hid (HP.out.below hb)
      clear hb
      have c0 := XA.out.2 0
      have c1 := XA.out.2 1
      have c2 := XA.out.2 2
      have c3 := XA.out.2 3
      have c4 := XA.out.2 4
      have c5 := XA.out.2 5
      go_wp2_with fail
      clear c0 c1 c2 c3 c4 c5
      refine (specExRaw d _ ex _ HE.out hn1).mono ?_
      rintro e w2 ⟨rfl, hb⟩
      replace B := Lib.hid (below_thru B.out (Nat.le_refl _) hb)
      replace XA := Lib.hid (XA.out.below hb)
      replace HE := Lib.hid (HE.out.below hb)
      replace HP := Lib.hid (HP.out.below hb)
      clear hb
      go_wp2_with fail
      go_ret
      exact ⟨by rw [HQ.out]; rfl, B.out⟩
end Go.Proofs.YtimigpdbegfjaaaGreatDoor
/-
  Proved: impl.nodeAt finds the node at a path, or gives nil; the memory that was there stays as it was.
-/
namespace Go.Proofs.YtimigpdbegfjaaaGreatDoor
open Go.RowKit

/-- In the world w the pointer s points at a node that reads as e. -/
def PtrAt (w : World) (d : Nat) (s : Value) (e : Ex) : Prop :=
  ∃ b off xk xnm xn xtk xta xtn xtc xa xm xc, s = .pointer (some ⟨b, off, none⟩) ∧ b < w.heap.size ∧ w.cell? ⟨b, off, none⟩ = some (.int .i64 xk) ∧ w.cell? ⟨b, off + 1, none⟩ = some (.string xnm) ∧ w.cell? ⟨b, off + 2, none⟩ = some (.int .i64 xn) ∧ w.cell? ⟨b, off + 3, none⟩ = some (.int .i64 xtk) ∧ w.cell? ⟨b, off + 4, none⟩ = some (.slice xta xtn xtc) ∧ w.cell? ⟨b, off + 5, none⟩ = some (.slice xa xm xc) ∧ ExAt w d (.agg #[.int .i64 xk, .string xnm, .int .i64 xn, .int .i64 xtk, .slice xta xtn xtc, .slice xa xm xc]) e
theorem PtrAt.below {w w' : World} {d : Nat} {s : Value} {e : Ex} (h : PtrAt w d s e) (hb : Below w.heap.size w w') : PtrAt w' d s e := by
  obtain ⟨b, off, xk, xnm, xn, xtk, xta, xtn, xtc, xa, xm, xc, hs, hl, h0, h1, h2, h3, h4, h5, he⟩ := h
  have hk : ∀ o, w'.cell? ⟨b, o, none⟩ = w.cell? ⟨b, o, none⟩ := fun o => hb.cell (p := ⟨b, o, none⟩) hl
  exact ⟨b, off, xk, xnm, xn, xtk, xta, xtn, xtc, xa, xm, xc, hs, Nat.lt_of_lt_of_le hl hb.size, (hk _).trans h0, (hk _).trans h1, (hk _).trans h2, (hk _).trans h3, (hk _).trans h4, (hk _).trans h5, he.below hb⟩
theorem ex_show {w : World} {d : Nat} {c0 c1 c2 c3 c4 c5 : Value} {e : Ex} (h : ExAt w d (.agg #[c0, c1, c2, c3, c4, c5]) e) : ∃ xk xnm xn xtk xta xtn xtc xa xm xc, c0 = .int .i64 xk ∧ c1 = .string xnm ∧ c2 = .int .i64 xn ∧ c3 = .int .i64 xtk ∧ c4 = .slice xta xtn xtc ∧ c5 = .slice xa xm xc := ex_cells h
def NodeAtEnd (d : Nat) (r : Option Ex) (w : World) (e : Ending) (w' : World) : Prop :=
  w' = w ∧ match r with | some x => ∃ s, e = .returned s ∧ PtrAt w d s x | none => e = .returned (.pointer none)
set_option maxRecDepth 100000 in
set_option maxHeartbeats 4000000 in
theorem implNodeAt (d : Nat) (s v : Value) (e : Ex) (ps : List Int) (w : World) (hs : PtrAt w d s e) (hp : Ints w v ps) (hn : ps.length ≤ 1048576) :
    Calls Tryz.prog 32 #[s, v] w (NodeAtEnd d (e.sub ps) w) := by
  obtain ⟨pa, pc, rfl, hpc, hpat⟩ := hp
  have HP := Lib.hid hpat; clear hpat
  obtain ⟨b0, off0, y0, y1, y2, y3, y4, y5, y6, y7, y8, y9, rfl, hbl0, h00⟩ := id hs
  clear h00 hbl0
  go_enter Tryz.func32, Tryz.ntmps32
  go_wp2_with fail
  go_loopw [0, 9] (fun q i wr => ∃ (k : Nat) (x : Ex) (b off : Nat), k ≤ ps.length ∧ i = .int .i64 k ∧ q = .pointer (some ⟨b, off, none⟩) ∧ PtrAt w d q x ∧ e.sub ps = x.sub (ps.drop k) ∧ wr = w) (fun _ i _ => ps.length - (intOf i).toNat)
  case atStart => exact ⟨0, e, b0, off0, by omega, rfl, rfl, hs, by simp, rfl⟩
  case round =>
    obtain ⟨k, x, b, off, hk, rfl, rfl, hx, hsub, hw⟩ := hrel
    subst hw
    have HSUB := Lib.hid hsub; clear hsub
    obtain ⟨b', off', xk, xnm, xn, xtk, xta, xtn, xtc, xa, xm, xc, hptr, hbl, e0, e1, e2, e3, e4, e5, hex⟩ := hx
    injection hptr with hptr
    injection hptr with hptr
    injection hptr with hb1 hb2
    subst hb1 hb2
    by_cases hlt : k < ps.length
    · obtain ⟨bp, offp, rfl, hblp, hcp⟩ := HP.out k hlt
      obtain ⟨rfl, hmc, hc2, hrow⟩ := ex_row hex
      have HROW := Lib.hid hrow; clear hrow
      have HDR := Lib.hid (drop_at ps k hlt)
      obtain ⟨p, hp⟩ : ∃ p, p = ps[k] := ⟨_, rfl⟩
      rw [← hp] at hcp HDR
      clear hp
      by_cases q1 : p < 0
      · have HN : Hid (e.sub ps = none) := by show _ = _; rw [HSUB.out, HDR.out]; exact sub_low q1
        go_wp2_with fail
        go_ret
        exact ⟨rfl, by rw [HN.out]; rfl⟩
      · by_cases q2 : (x.parts.length : Int) ≤ p
        · have HN : Hid (e.sub ps = none) := by show _ = _; rw [HSUB.out, HDR.out]; exact sub_high q2
          go_wp2_with fail
          go_ret
          exact ⟨rfl, by rw [HN.out]; rfl⟩
        · obtain ⟨m, rfl⟩ : ∃ m : Nat, p = m := ⟨p.toNat, by omega⟩
          have hm : m < x.parts.length := by omega
          have HN : Hid (e.sub ps = (x.parts[m]).sub (ps.drop (k + 1))) := by
            show _ = _
            rw [HSUB.out, HDR.out]
            exact sub_step (by omega) (by simpa using hm)
          obtain ⟨bn, offn, z0, z1, z2, z3, z4, z5, rfl, hbn, f0, f1, f2, f3, f4, f5, hz⟩ := HROW.out m hm
          obtain ⟨zk, znm, zn, ztk, zta, ztn, ztc, za, zm, zc, rfl, rfl, rfl, rfl, rfl, rfl⟩ := ex_show hz
          have HX2 : Hid (PtrAt wr d (.pointer (some ⟨bn, offn + m * 6, none⟩)) x.parts[m]) := ⟨bn, offn + m * 6, _, _, _, _, _, _, _, _, _, _, rfl, hbn, f0, f1, f2, f3, f4, f5, hz⟩
          clear f0 f1 f2 f3 f4 f5 hz
          go_wp2_with fail
          exact ⟨⟨k + 1, x.parts[m], bn, offn + m * 6, by omega, by go_num, rfl, HX2.out, HN.out, (by first | trivial | rfl)⟩, by simp [intOf]; omega⟩
    · obtain rfl : k = ps.length := by omega
      have HN : Hid (e.sub ps = some x) := by show _ = _; rw [HSUB.out, List.drop_length]; exact sub_nil x
      have HX2 : Hid (PtrAt wr d (.pointer (some ⟨b, off, none⟩)) x) := ⟨b, off, _, _, _, _, _, _, _, _, _, _, rfl, hbl, e0, e1, e2, e3, e4, e5, hex⟩
      go_wp2_with fail
      go_ret
      refine ⟨rfl, ?_⟩
      rw [HN.out]
      exact ⟨_, rfl, HX2.out⟩
end Go.Proofs.YtimigpdbegfjaaaGreatDoor
/-
  Proved: impl.hasMarks says whether a mark occurs in an expression; the memory that was there stays as it was.
-/
namespace Go.Proofs.YtimigpdbegfjaaaGreatDoor
open Go.RowKit

set_option maxRecDepth 100000 in
set_option maxHeartbeats 2000000 in
theorem implExMarks : ∀ (d : Nat) (v : Value) (t : Ex) (w : World), ExAt w d v t → t.bulk ≤ 1048576 → Calls Tryz.prog 48 #[v] w fun e w' => e = .returned (.bool (t.has 14)) ∧ Below w.heap.size w w'
  | 0, _, _, _, h, _ => h.elim
  | d + 1, v, .node kd nm n ty es, w, h, hsz => by
    have IH : Hid (∀ (v : Value) (t : Ex) (w : World), ExAt w d v t → t.bulk ≤ 1048576 → Calls Tryz.prog 48 #[v] w fun e w' => e = .returned (.bool (t.has 14)) ∧ Below w.heap.size w w') := implExMarks d
    have HV := ex_parts h
    obtain ⟨c3, c4, sl, rfl, hk0, hk1, hn0, hn1, hnm, hty, a, cap, rfl, hcap, hcap2, hat⟩ := h
    obtain ⟨k', nm', n', tk, ta, tn, tc, sa, sn, sc, hv⟩ := HV
    injection hv with hv
    injection hv with hv
    simp at hv
    obtain ⟨rfl, rfl, rfl, rfl, rfl, rfl, rfl, rfl⟩ := hv
    have HAT := Lib.hid hat; clear hat
    have hbk : (Ex.node kd nm n ty es).bulk = nm.size + (ty.size - 1) + Ex.bulks es := rfl
    have HSZ : Hid (Ex.bulks es ≤ 1048576) := by show _ ≤ _; omega
    have HNM : Hid (nm.size ≤ 1048576) := by show _ ≤ _; omega
    have HTZ : Hid (ty.size ≤ 1048577) := by show _ ≤ _; omega
    have hlen : es.length ≤ 1048576 := by have := Ex.length_le es; omega
    clear hsz hbk hty
    by_cases q : kd = 14
    · subst q
      go_enter Tryz.func48, Tryz.ntmps48
      go_wp2_with fail
      go_ret
      exact ⟨by simp [Ex.has], below_alloc _ _⟩
    · have qb0 : (kd == 14) = false := by simp [q]
      go_enter Tryz.func48, Tryz.ntmps48
      go_wp2_with fail
      go_loopw [11] (fun i wr => ∃ k : Nat, k ≤ es.length ∧ i = .int .i64 k ∧ Ex.hass 14 (es.take k) = false ∧ Below (w.heap.size + 1) (w.alloc (.cells #[.int .i64 kd, .string nm, .int .i64 n, .int .i64 tk, .slice ta tn tc, .slice a es.length cap] 38)) wr) (fun i _ => es.length - (intOf i).toNat)
      case atStart => exact ⟨0, by omega, rfl, by simp [Ex.hass], Below.refl _ _⟩
      case round =>
        obtain ⟨k, hk, rfl, hf, hb⟩ := hrel
        have HF := Lib.hid hf; clear hf
        have b0 := box_cell hb 0
        have b1 := box_cell hb 1
        have b2 := box_cell hb 2
        have b3 := box_cell hb 3
        have b4 := box_cell hb 4
        have b5 := box_cell hb 5
        have HB := Lib.hid (box_below hb)
        have HBX := Lib.hid hb; clear hb
        have HS2 := HSZ.out
        by_cases hlt : k < es.length
        · obtain ⟨b, off, x0, x1, x2, x3, x4, x5, rfl, hbl, hc0, hc1, hc2, hc3, hc4, hc5, ht⟩ := HAT.out k hlt
          have hg := Ex.bulk_get es k hlt
          obtain ⟨yk, ynm, yn, ytk, yta, ytn, ytc, ya, ym, yc, rfl, rfl, rfl, rfl, rfl, rfl⟩ := ex_cells ht
          have e0 : wr.cell? ⟨b, off + k * 6, none⟩ = some (.int .i64 yk) := by rw [HB.out.cell (p := ⟨b, off + k * 6, none⟩) hbl]; exact hc0
          have e1 : wr.cell? ⟨b, off + k * 6 + 1, none⟩ = some (.string ynm) := by rw [HB.out.cell (p := ⟨b, off + k * 6 + 1, none⟩) hbl]; exact hc1
          have e2 : wr.cell? ⟨b, off + k * 6 + 2, none⟩ = some (.int .i64 yn) := by rw [HB.out.cell (p := ⟨b, off + k * 6 + 2, none⟩) hbl]; exact hc2
          have e3 : wr.cell? ⟨b, off + k * 6 + 3, none⟩ = some (.int .i64 ytk) := by rw [HB.out.cell (p := ⟨b, off + k * 6 + 3, none⟩) hbl]; exact hc3
          have e4 : wr.cell? ⟨b, off + k * 6 + 4, none⟩ = some (.slice yta ytn ytc) := by rw [HB.out.cell (p := ⟨b, off + k * 6 + 4, none⟩) hbl]; exact hc4
          have e5 : wr.cell? ⟨b, off + k * 6 + 5, none⟩ = some (.slice ya ym yc) := by rw [HB.out.cell (p := ⟨b, off + k * 6 + 5, none⟩) hbl]; exact hc5
          have hp := below_box wr (.cells #[.int .i64 yk, .string ynm, .int .i64 yn, .int .i64 ytk, .slice yta ytn ytc, .slice ya ym yc] 38)
          have HT := Lib.hid ((ht.below HB.out).below hp)
          have HPX := Lib.hid (box_next HBX.out hp)
          clear hp
          clear ht hc0 hc1 hc2 hc3 hc4 hc5
          go_wp2_with fail
          refine (IH.out _ _ _ HT.out (by omega)).mono ?_
          rintro e w' ⟨rfl, hb1⟩
          have HN := Lib.hid (box_next HPX.out hb1); clear hb1
          have HT2 := Lib.hid (Ex.hass_take 14 es k hlt)
          cases hfk : es[k].has 14 with
          | false =>
            have HFK := Lib.hid hfk; clear hfk
            go_wp2_with fail
            exact ⟨⟨k + 1, by omega, by go_num, by rw [HT2.out, HF.out, HFK.out]; rfl, HN.out⟩, by simp [intOf]; omega⟩
          | true =>
            have HFK := Lib.hid hfk; clear hfk
            go_wp2_with fail
            go_ret
            have e : Ex.hass 14 es = true := Ex.hass_true 14 es (k + 1) (by rw [HT2.out, HF.out, HFK.out]; rfl)
            exact ⟨by simp [Ex.has, e], box_below HN.out⟩
        · obtain rfl : k = es.length := by omega
          have HFT : Hid (Ex.hass 14 es = false) := by have := HF.out; rw [List.take_length] at this; exact this
          go_wp2_with fail
          go_ret
          exact ⟨by simp [Ex.has, HFT.out, q], HB.out⟩
end Go.Proofs.YtimigpdbegfjaaaGreatDoor
/-
  Proved: impl.IsRaw says whether an expression is valid and has no marks; the memory that was there stays as it was.
-/
namespace Go.Proofs.YtimigpdbegfjaaaGreatDoor
open Go.RowKit

set_option maxRecDepth 100000 in
set_option maxHeartbeats 2000000 in
theorem implExRaw (d : Nat) (v : Value) (t : Ex) (w : World) (h : ExAt w d v t) (hsz : t.bulk ≤ 1048576) (htab : TabAt w) :
    Calls Tryz.prog 31 #[v] w fun e w' => e = .returned (.bool (t.valid && !t.has 14)) ∧ Below w.heap.size w w' := by
  have HT := Lib.hid h
  obtain ⟨yk, ynm, yn, ytk, yta, ytn, ytc, ya, ym, yc, rfl⟩ := ex_parts h
  clear h
  have E0 := below_alloc w (.cells #[.int .i64 yk, .string ynm, .int .i64 yn, .int .i64 ytk, .slice yta ytn ytc, .slice ya ym yc] 38)
  have HT0 := Lib.hid (HT.out.below E0)
  have HTAB := Lib.hid (htab.below E0)
  clear htab
  clear E0
  go_enter Tryz.func31, Tryz.ntmps31
  go_wp2_with fail
  refine (implExValid d _ t _ HT0.out hsz HTAB.out).mono ?_
  rintro e w1 ⟨rfl, hb⟩
  have B1 := Lib.hid (box_next (Below.refl _ _) hb)
  clear hb
  have c0 := box_cell B1.out 0
  have c1 := box_cell B1.out 1
  have c2 := box_cell B1.out 2
  have c3 := box_cell B1.out 3
  have c4 := box_cell B1.out 4
  have c5 := box_cell B1.out 5
  cases hv0 : t.valid with
  | false =>
    go_wp2_with fail
    go_ret
    exact ⟨by simp [hv0], box_below B1.out⟩
  | true =>
    go_wp2_with fail
    refine (implExMarks d _ t _ (HT.out.below (box_below B1.out)) hsz).mono ?_
    rintro e w2 ⟨rfl, hb⟩
    have B2 := Lib.hid (box_next B1.out hb)
    clear hb B1 c0 c1 c2 c3 c4 c5
    go_wp2_with fail
    go_ret
    exact ⟨by simp [hv0], box_below B2.out⟩
end Go.Proofs.YtimigpdbegfjaaaGreatDoor
/-
  Proved: impl.IsEdit says whether an edit is valid; it leaves the memory that was there as it was.
-/
namespace Go.Proofs.YtimigpdbegfjaaaGreatDoor
open Go.RowKit

set_option maxRecDepth 100000 in
set_option maxHeartbeats 2000000 in
theorem implIsEdit (d : Nat) (v : Value) (t : Edi) (w : World) (h : EditAt w d v t) (hn : t.bulk ≤ 1048576) (htab : TabAt w) :
    Calls Tryz.prog 16 #[v] w fun e w' => e = .returned (.bool t.okB) ∧ Below w.heap.size w w' := by
  cases t with
  | mk ex ps =>
    obtain ⟨k, nm, n, tk, ta, tn, tc, sa, sn, sc, pa, pn, pc, rfl, he, hp, hl⟩ := h
    dsimp only at he hp hl ⊢
    have hbk : (Edi.mk ex ps).bulk = ex.bulk + ps.length := rfl
    have hn1 : ex.bulk ≤ 1048576 := by omega
    have hn2 : ps.length ≤ 1048576 := by omega
    have HQ : Hid ((Edi.mk ex ps).okB = ((ex.sub ps).isSome && (ex.valid && !ex.has 14))) := rfl
    clear hn hbk hl
    have B : Hid (Below w.heap.size w (w.alloc (.cells #[.int .i64 k, .string nm, .int .i64 n, .int .i64 tk, .slice ta tn tc, .slice sa sn sc, .slice pa pn pc] 40))) := below_alloc _ _
    have XA : Hid (BoxAt (w.alloc (.cells #[.int .i64 k, .string nm, .int .i64 n, .int .i64 tk, .slice ta tn tc, .slice sa sn sc, .slice pa pn pc] 40)) w.heap.size #[.int .i64 k, .string nm, .int .i64 n, .int .i64 tk, .slice ta tn tc, .slice sa sn sc, .slice pa pn pc]) := BoxAt.new _ _ _
    have HE := Lib.hid (he.below B.out)
    have HP := Lib.hid (hp.below B.out)
    have HTB := Lib.hid (htab.below B.out)
    clear he hp htab
    go_enter Tryz.func16, Tryz.ntmps16
    go_wp2_with fail
    refine (implExRaw d _ ex _ HE.out hn1 HTB.out).mono ?_
    rintro e w1 ⟨he1, hb⟩
    replace B := Lib.hid (below_thru B.out (Nat.le_refl _) hb)
    replace XA := Lib.hid (XA.out.below hb)
    replace HE := Lib.hid (HE.out.below hb)
    replace HP := Lib.hid (HP.out.below hb)
    clear hb
    cases hv : (ex.valid && !ex.has 14) with
    | false =>
      rw [hv] at he1 HQ
      subst he1
      go_wp2_with fail
      go_ret
      exact ⟨by rw [HQ.out, Bool.and_false]; rfl, B.out⟩
    | true =>
      rw [hv] at he1 HQ
      subst he1
      have HPT : Hid (PtrAt w1 d (.pointer (some ⟨w.heap.size, 0, none⟩)) ex) := ⟨_, _, _, _, _, _, _, _, _, _, _, _, rfl, XA.out.1, XA.out.2 0, XA.out.2 1, XA.out.2 2, XA.out.2 3, XA.out.2 4, XA.out.2 5, HE.out⟩
      have c6 := XA.out.2 6
      go_wp2_with fail
      clear c6
      refine (implNodeAt d _ _ ex ps _ HPT.out HP.out hn2).mono ?_
      rintro e w2 ⟨hw, hr⟩
      subst hw
      cases hq : ex.sub ps with
      | none =>
        rw [hq] at hr HQ
        subst hr
        go_wp2_with fail
        go_ret
        exact ⟨by rw [HQ.out]; rfl, B.out⟩
      | some x =>
        rw [hq] at hr HQ
        obtain ⟨s, rfl, hs⟩ := hr
        obtain ⟨b, off, _, _, _, _, _, _, _, _, _, _, rfl, _⟩ := hs
        go_wp2_with fail
        go_ret
        exact ⟨by rw [HQ.out]; rfl, B.out⟩
end Go.Proofs.YtimigpdbegfjaaaGreatDoor
/-
  Proved: EditText gives the text of an edit that is one, the empty text for others; the memory that was there stays as it was. On these terms: the table of arities and the library's table of powers of ten hold what the program's text lays.
-/
namespace Go.Proofs.YtimigpdbegfjaaaGreatDoor
open Go.RowKit

def Edi.say (a : Edi) : ByteArray := if a.okB then a.ex.shown ++ ⟨#[32, 64]⟩ ++ pathText a.path else ⟨#[]⟩
theorem sub_ranged : ∀ (ps : List Int) (e : Ex), e.bulk ≤ 1048576 → (e.sub ps).isSome = true → i64s ps
  | [], _, _, _ => fun x hx => by cases hx
  | p :: r, e, hb, h => by
    unfold Ex.sub at h
    split at h
    · rename_i h0
      split at h
      · rename_i x hx
        obtain ⟨hk, rfl⟩ := List.getElem?_eq_some_iff.1 hx
        have hl : e.parts.length ≤ 1048576 := by
          cases e with
          | node k nm n ty es =>
            have := Ex.length_le es
            have h2 : (Ex.node k nm n ty es).bulk = nm.size + (ty.size - 1) + Ex.bulks es := rfl
            show es.length ≤ _
            omega
        have ih := sub_ranged r _ (Nat.le_trans (part_bulk hk) hb) h
        intro y hy
        rcases List.mem_cons.1 hy with rfl | hy
        · omega
        · exact ih y hy
      · cases h
    · cases h
theorem edi_ranged {ex : Ex} {ps : List Int} (h : (Edi.mk ex ps).okB = true) (hb : ex.bulk ≤ 1048576) : i64s ps := by
  unfold Edi.okB at h
  simp only [Bool.and_eq_true] at h
  exact sub_ranged ps ex hb h.1
theorem path_size (ns : List Int) (hr : i64s ns) : (pathText ns).size ≤ 22 * ns.length + 1 := by
  cases ns with
  | nil => show 1 ≤ _; omega
  | cons n r =>
    have h1 := joined_len (numerals (n :: r)) ⟨#[46]⟩ (numerals (n :: r)).length (Nat.le_refl _)
    rw [joined_all, List.take_length] at h1
    have h2 := numerals_total (n :: r) hr
    rw [numerals_length] at h1
    have h3 : (ByteArray.mk #[46]).size = 1 := rfl
    rw [h3] at h1
    show (Lib.join _ _).toArray.size ≤ _
    rw [List.size_toArray]
    exact Nat.le_trans h1 (by omega)
set_option maxRecDepth 100000 in
set_option maxHeartbeats 2000000 in
theorem specEditText (d : Nat) (v : Value) (t : Edi) (w : World) (h : EditAt w d v t) (hn : t.bulk ≤ 1048576) :
    Calls Tryz.prog 5 #[v] w fun e w' => e = .returned (.string t.say) ∧ Below w.heap.size w w' := by
  cases t with
  | mk ex ps =>
    have HED := Lib.hid h
    obtain ⟨k, nm, n, tk, ta, tn, tc, sa, sn, sc, pa, pn, pc, rfl, he, hp, hl⟩ := h
    dsimp only at he hp hl ⊢
    have hbk : (Edi.mk ex ps).bulk = ex.bulk + ps.length := rfl
    have hn1 : ex.bulk ≤ 1048576 := by omega
    have hn2 : ps.length ≤ 1048576 := by omega
    have HN := Lib.hid hn
    clear hn hbk hl
    have B : Hid (Below w.heap.size w (w.alloc (.cells #[.int .i64 k, .string nm, .int .i64 n, .int .i64 tk, .slice ta tn tc, .slice sa sn sc, .slice pa pn pc] 40))) := below_alloc _ _
    have XA : Hid (BoxAt (w.alloc (.cells #[.int .i64 k, .string nm, .int .i64 n, .int .i64 tk, .slice ta tn tc, .slice sa sn sc, .slice pa pn pc] 40)) w.heap.size #[.int .i64 k, .string nm, .int .i64 n, .int .i64 tk, .slice ta tn tc, .slice sa sn sc, .slice pa pn pc]) := BoxAt.new _ _ _
    have HE := Lib.hid (he.below B.out)
    have HP := Lib.hid (hp.below B.out)
    replace HED := Lib.hid (HED.out.below B.out)
    clear he hp
    go_enter Tryz.func5, Tryz.ntmps5
    go_wp2_with fail
    refine (specIsEdit d _ (Edi.mk ex ps) _ HED.out HN.out).mono ?_
    rintro e w1 ⟨he1, hb⟩
    replace B := Lib.hid (below_thru B.out (Nat.le_refl _) hb)
    replace XA := Lib.hid (XA.out.below hb)
    replace HE := Lib.hid (HE.out.below hb)
    replace HP := Lib.hid (HP.out.below hb)
    clear hb HED
    cases hv : (Edi.mk ex ps).okB with
    | false =>
      have HQ : Hid ((Edi.mk ex ps).say = ⟨#[]⟩) := by show _ = _; unfold Edi.say; rw [hv]; rfl
      rw [hv] at he1
      subst he1
      go_wp2_with fail
      go_ret
      exact ⟨by rw [HQ.out]; rfl, B.out⟩
    | true =>
      have HQ : Hid ((Edi.mk ex ps).say = ex.shown ++ ⟨#[32, 64]⟩ ++ pathText ps) := by show _ = _; unfold Edi.say; rw [hv]; rfl
      have HR : Hid (i64s ps) := edi_ranged hv hn1
      rw [hv] at he1
      subst he1
      clear hv
      have m0 : ¬ (9223372036854775807 < ex.shown.size + 2) := by have := shown_size ex; omega
      have m1 : ¬ (9223372036854775807 < ex.shown.size + 2 + (pathText ps).size) := by have h1 := path_size ps HR.out; have h2 := shown_size ex; omega
      have hb := below_drew w1
      replace B := Lib.hid (below_thru B.out (Nat.le_refl _) hb)
      replace XA := Lib.hid (XA.out.below hb)
      replace HE := Lib.hid (HE.out.below hb)
      replace HP := Lib.hid (HP.out.below hb)
      clear hb
      go_wp2_with fail
      go_region_held3 (fun w' => w'.cell? ⟨w.heap.size, 0, none⟩ = some (.int .i64 k) ∧ w'.cell? ⟨w.heap.size, 1, none⟩ = some (.string nm) ∧ w'.cell? ⟨w.heap.size, 2, none⟩ = some (.int .i64 n) ∧ w'.cell? ⟨w.heap.size, 3, none⟩ = some (.int .i64 tk) ∧ w'.cell? ⟨w.heap.size, 4, none⟩ = some (.slice ta tn tc) ∧ w'.cell? ⟨w.heap.size, 5, none⟩ = some (.slice sa sn sc) ∧ w'.cell? ⟨w.heap.size, 6, none⟩ = some (.slice pa pn pc)) (exact ⟨XA.out.2 0, XA.out.2 1, XA.out.2 2, XA.out.2 3, XA.out.2 4, XA.out.2 5, XA.out.2 6⟩)
        (first
         | (go_at_call 12
            refine (specFormatExpr d _ ex _ HE.out hn1).mono ?_
            rintro e w2 ⟨rfl, hb⟩
            replace B := Lib.hid (below_thru B.out (Nat.le_refl _) hb)
            replace XA := Lib.hid (XA.out.below hb)
            replace HE := Lib.hid (HE.out.below hb)
            replace HP := Lib.hid (HP.out.below hb)
            clear hb)
         | (go_at_call 13
            refine (specPathText _ ps hn2 HR.out _ HP.out).mono ?_
            rintro e w3 ⟨rfl, hb⟩
            replace B := Lib.hid (below_thru B.out (Nat.le_refl _) hb)
            replace XA := Lib.hid (XA.out.below hb)
            replace HE := Lib.hid (HE.out.below hb)
            replace HP := Lib.hid (HP.out.below hb)
            clear hb))
      all_goals go_wp2_with fail
      all_goals go_ret
      all_goals exact ⟨by rw [HQ.out]; rfl, B.out⟩
set_option maxRecDepth 100000 in
set_option maxHeartbeats 2000000 in
theorem implEditText (d : Nat) (v : Value) (t : Edi) (w : World) (h : EditAt w d v t) (hn : t.bulk ≤ 1048576) (htab : ExTabs w) :
    Calls Tryz.prog 7 #[v] w fun e w' => e = .returned (.string t.say) ∧ Below w.heap.size w w' := by
  cases t with
  | mk ex ps =>
    have HED := Lib.hid h
    obtain ⟨k, nm, n, tk, ta, tn, tc, sa, sn, sc, pa, pn, pc, rfl, he, hp, hl⟩ := h
    dsimp only at he hp hl ⊢
    have hbk : (Edi.mk ex ps).bulk = ex.bulk + ps.length := rfl
    have hn1 : ex.bulk ≤ 1048576 := by omega
    have hn2 : ps.length ≤ 1048576 := by omega
    have HN := Lib.hid hn
    clear hn hbk hl
    have B : Hid (Below w.heap.size w (w.alloc (.cells #[.int .i64 k, .string nm, .int .i64 n, .int .i64 tk, .slice ta tn tc, .slice sa sn sc, .slice pa pn pc] 40))) := below_alloc _ _
    have XA : Hid (BoxAt (w.alloc (.cells #[.int .i64 k, .string nm, .int .i64 n, .int .i64 tk, .slice ta tn tc, .slice sa sn sc, .slice pa pn pc] 40)) w.heap.size #[.int .i64 k, .string nm, .int .i64 n, .int .i64 tk, .slice ta tn tc, .slice sa sn sc, .slice pa pn pc]) := BoxAt.new _ _ _
    have HE := Lib.hid (he.below B.out)
    have HP := Lib.hid (hp.below B.out)
    replace HED := Lib.hid (HED.out.below B.out)
    have HTB := Lib.hid (htab.below B.out)
    clear htab
    clear he hp
    go_enter Tryz.func7, Tryz.ntmps7
    go_wp2_with fail
    refine (implIsEdit d _ (Edi.mk ex ps) _ HED.out HN.out HTB.out.1).mono ?_
    rintro e w1 ⟨he1, hb⟩
    replace B := Lib.hid (below_thru B.out (Nat.le_refl _) hb)
    replace XA := Lib.hid (XA.out.below hb)
    replace HE := Lib.hid (HE.out.below hb)
    replace HP := Lib.hid (HP.out.below hb)
    replace HTB := Lib.hid (HTB.out.below hb)
    clear hb HED
    cases hv : (Edi.mk ex ps).okB with
    | false =>
      have HQ : Hid ((Edi.mk ex ps).say = ⟨#[]⟩) := by show _ = _; unfold Edi.say; rw [hv]; rfl
      rw [hv] at he1
      subst he1
      go_wp2_with fail
      go_ret
      exact ⟨by rw [HQ.out]; rfl, B.out⟩
    | true =>
      have HQ : Hid ((Edi.mk ex ps).say = ex.shown ++ ⟨#[32, 64]⟩ ++ pathText ps) := by show _ = _; unfold Edi.say; rw [hv]; rfl
      have HR : Hid (i64s ps) := edi_ranged hv hn1
      rw [hv] at he1
      subst he1
      clear hv
      have m0 : ¬ (9223372036854775807 < ex.shown.size + 2) := by have := shown_size ex; omega
      have m1 : ¬ (9223372036854775807 < ex.shown.size + 2 + (pathText ps).size) := by have h1 := path_size ps HR.out; have h2 := shown_size ex; omega
      have hb := below_drew w1
      replace B := Lib.hid (below_thru B.out (Nat.le_refl _) hb)
      replace XA := Lib.hid (XA.out.below hb)
      replace HE := Lib.hid (HE.out.below hb)
      replace HP := Lib.hid (HP.out.below hb)
      replace HTB := Lib.hid (HTB.out.below hb)
      clear hb
      go_wp2_with fail
      go_region_held3 (fun w' => w'.cell? ⟨w.heap.size, 0, none⟩ = some (.int .i64 k) ∧ w'.cell? ⟨w.heap.size, 1, none⟩ = some (.string nm) ∧ w'.cell? ⟨w.heap.size, 2, none⟩ = some (.int .i64 n) ∧ w'.cell? ⟨w.heap.size, 3, none⟩ = some (.int .i64 tk) ∧ w'.cell? ⟨w.heap.size, 4, none⟩ = some (.slice ta tn tc) ∧ w'.cell? ⟨w.heap.size, 5, none⟩ = some (.slice sa sn sc) ∧ w'.cell? ⟨w.heap.size, 6, none⟩ = some (.slice pa pn pc)) (exact ⟨XA.out.2 0, XA.out.2 1, XA.out.2 2, XA.out.2 3, XA.out.2 4, XA.out.2 5, XA.out.2 6⟩)
        (first
         | (go_at_call 17
            refine (implFormatExpr d _ ex _ HE.out hn1 HTB.out).mono ?_
            rintro e w2 ⟨rfl, hb⟩
            replace B := Lib.hid (below_thru B.out (Nat.le_refl _) hb)
            replace XA := Lib.hid (XA.out.below hb)
            replace HE := Lib.hid (HE.out.below hb)
            replace HP := Lib.hid (HP.out.below hb)
            replace HTB := Lib.hid (HTB.out.below hb)
            clear hb)
         | (go_at_call 18
            refine (implPathText _ ps hn2 HR.out _ HTB.out.2 HP.out).mono ?_
            rintro e w3 ⟨rfl, hb⟩
            replace B := Lib.hid (below_thru B.out (Nat.le_refl _) hb)
            replace XA := Lib.hid (XA.out.below hb)
            replace HE := Lib.hid (HE.out.below hb)
            replace HP := Lib.hid (HP.out.below hb)
            replace HTB := Lib.hid (HTB.out.below hb)
            clear hb))
      all_goals go_wp2_with fail
      all_goals go_ret
      all_goals exact ⟨by rw [HQ.out]; rfl, B.out⟩
end Go.Proofs.YtimigpdbegfjaaaGreatDoor
/-
  Proved: the law FnExactEditText answers true for every edit, and leaves the memory that was there as it was.
-/
namespace Go.Proofs.YtimigpdbegfjaaaGreatDoor
open Go.RowKit

set_option maxRecDepth 100000 in
set_option maxHeartbeats 1000000 in
theorem editTextWalk (d : Nat) (v1 : Value) (t1 : Edi) (w : World) (h1 : EditAt w d v1 t1) (htab : ExTabs w) :
    Calls Tryz.prog 3 #[v1] w fun e w' => e = .returned (.bool true) ∧ Below w.heap.size w w' := by
  obtain ⟨a1k0, a1m1, a1k2, a1k3, a1s4a, a1s4n, a1s4c, a1s7a, a1s7n, a1s7c, a1s10a, a1s10n, a1s10c, rfl⟩ := edit_parts h1
  have B : Hid (Below w.heap.size w (w.alloc (.cells #[.int .i64 a1k0, .string a1m1, .int .i64 a1k2, .int .i64 a1k3, .slice a1s4a a1s4n a1s4c, .slice a1s7a a1s7n a1s7c, .slice a1s10a a1s10n a1s10c] 30))) := below_alloc _ _
  have HTAB := Lib.hid (htab.below B.out)
  clear htab
  have HA1 := Lib.hid (h1.below B.out)
  have XA1 : Hid (BoxAt (w.alloc (.cells #[.int .i64 a1k0, .string a1m1, .int .i64 a1k2, .int .i64 a1k3, .slice a1s4a a1s4n a1s4c, .slice a1s7a a1s7n a1s7c, .slice a1s10a a1s10n a1s10c] 30)) (w.heap.size) #[.int .i64 a1k0, .string a1m1, .int .i64 a1k2, .int .i64 a1k3, .slice a1s4a a1s4n a1s4c, .slice a1s7a a1s7n a1s7c, .slice a1s10a a1s10n a1s10c]) := BoxAt.new _ _ _
  clear h1
  go_enter Tryz.func3, Tryz.ntmps3
  go_wp2_with fail
  refine (szEdit d _ t1 1048576 _ (by omega) (by omega) HA1.out).mono ?_
  rintro e w1 ⟨r1, rfl, hb, hr1⟩
  replace B := Lib.hid (below_thru B.out (Nat.le_refl _) hb)
  replace HTAB := Lib.hid (HTAB.out.below hb)
  replace HA1 := Lib.hid (HA1.out.below hb)
  replace XA1 := Lib.hid (XA1.out.below hb)
  clear hb
  rcases hr1 with ⟨hr1, hs1⟩ | ⟨hr1, hs1⟩
  · go_wp2_with fail
    go_ret
    exact ⟨rfl, B.out⟩
  have hq1 : r1 ≤ 1048576 := by omega
  have hn1 : t1.bulk ≤ 1048576 := by omega
  clear hs1
  have cXA1_0 := XA1.out.2 0
  have cXA1_1 := XA1.out.2 1
  have cXA1_2 := XA1.out.2 2
  have cXA1_3 := XA1.out.2 3
  have cXA1_4 := XA1.out.2 4
  have cXA1_5 := XA1.out.2 5
  have cXA1_6 := XA1.out.2 6
  go_wp2_with fail
  clear cXA1_0 cXA1_1 cXA1_2 cXA1_3 cXA1_4 cXA1_5 cXA1_6
  refine (toEdit d _ t1 _ hn1 HA1.out).mono ?_
  rintro e w2 ⟨s1, rfl, ht, hb⟩
  replace B := Lib.hid (below_thru B.out (Nat.le_refl _) hb)
  replace HTAB := Lib.hid (HTAB.out.below hb)
  replace HA1 := Lib.hid (HA1.out.below hb)
  replace XA1 := Lib.hid (XA1.out.below hb)
  clear hb
  have Hs1 := Lib.hid ht
  clear ht
  have cXA1_0 := XA1.out.2 0
  have cXA1_1 := XA1.out.2 1
  have cXA1_2 := XA1.out.2 2
  have cXA1_3 := XA1.out.2 3
  have cXA1_4 := XA1.out.2 4
  have cXA1_5 := XA1.out.2 5
  have cXA1_6 := XA1.out.2 6
  go_wp2_with fail
  clear cXA1_0 cXA1_1 cXA1_2 cXA1_3 cXA1_4 cXA1_5 cXA1_6
  refine (specEditText d s1 t1 _ Hs1.out hn1).mono ?_
  rintro e w3 ⟨rfl, hb⟩
  replace B := Lib.hid (below_thru B.out (Nat.le_refl _) hb)
  replace HTAB := Lib.hid (HTAB.out.below hb)
  replace HA1 := Lib.hid (HA1.out.below hb)
  replace XA1 := Lib.hid (XA1.out.below hb)
  clear hb
  clear Hs1
  have cXA1_0 := XA1.out.2 0
  have cXA1_1 := XA1.out.2 1
  have cXA1_2 := XA1.out.2 2
  have cXA1_3 := XA1.out.2 3
  have cXA1_4 := XA1.out.2 4
  have cXA1_5 := XA1.out.2 5
  have cXA1_6 := XA1.out.2 6
  go_wp2_with fail
  clear cXA1_0 cXA1_1 cXA1_2 cXA1_3 cXA1_4 cXA1_5 cXA1_6
  refine (toEdit d _ t1 _ hn1 HA1.out).mono ?_
  rintro e w4 ⟨x1, rfl, ht, hb⟩
  replace B := Lib.hid (below_thru B.out (Nat.le_refl _) hb)
  replace HTAB := Lib.hid (HTAB.out.below hb)
  replace HA1 := Lib.hid (HA1.out.below hb)
  replace XA1 := Lib.hid (XA1.out.below hb)
  clear hb
  obtain ⟨x1k0, x1m1, x1k2, x1k3, x1s4a, x1s4n, x1s4c, x1s7a, x1s7n, x1s7c, x1s10a, x1s10n, x1s10c, rfl⟩ := edit_parts ht
  have HX1 := Lib.hid ht
  clear ht
  have XX1 : Hid (BoxAt (w4.alloc (.cells #[.int .i64 x1k0, .string x1m1, .int .i64 x1k2, .int .i64 x1k3, .slice x1s4a x1s4n x1s4c, .slice x1s7a x1s7n x1s7c, .slice x1s10a x1s10n x1s10c] 40)) w4.heap.size #[.int .i64 x1k0, .string x1m1, .int .i64 x1k2, .int .i64 x1k3, .slice x1s4a x1s4n x1s4c, .slice x1s7a x1s7n x1s7c, .slice x1s10a x1s10n x1s10c]) := BoxAt.new _ _ _
  have hb := below_alloc w4 (.cells #[.int .i64 x1k0, .string x1m1, .int .i64 x1k2, .int .i64 x1k3, .slice x1s4a x1s4n x1s4c, .slice x1s7a x1s7n x1s7c, .slice x1s10a x1s10n x1s10c] 40)
  replace B := Lib.hid (below_thru B.out (Nat.le_refl _) hb)
  replace HTAB := Lib.hid (HTAB.out.below hb)
  replace HA1 := Lib.hid (HA1.out.below hb)
  replace XA1 := Lib.hid (XA1.out.below hb)
  replace HX1 := Lib.hid (HX1.out.below hb)
  clear hb
  have cXA1_0 := XA1.out.2 0
  have cXA1_1 := XA1.out.2 1
  have cXA1_2 := XA1.out.2 2
  have cXA1_3 := XA1.out.2 3
  have cXA1_4 := XA1.out.2 4
  have cXA1_5 := XA1.out.2 5
  have cXA1_6 := XA1.out.2 6
  have cXX1_0 := XX1.out.2 0
  have cXX1_1 := XX1.out.2 1
  have cXX1_2 := XX1.out.2 2
  have cXX1_3 := XX1.out.2 3
  have cXX1_4 := XX1.out.2 4
  have cXX1_5 := XX1.out.2 5
  have cXX1_6 := XX1.out.2 6
  go_wp2_with fail
  clear cXA1_0 cXA1_1 cXA1_2 cXA1_3 cXA1_4 cXA1_5 cXA1_6 cXX1_0 cXX1_1 cXX1_2 cXX1_3 cXX1_4 cXX1_5 cXX1_6
  refine (implEditText d _ t1 _ HX1.out hn1 HTAB.out).mono ?_
  rintro e w5 ⟨rfl, hb⟩
  replace B := Lib.hid (below_thru B.out (Nat.le_refl _) hb)
  replace HTAB := Lib.hid (HTAB.out.below hb)
  replace HA1 := Lib.hid (HA1.out.below hb)
  replace XA1 := Lib.hid (XA1.out.below hb)
  replace HX1 := Lib.hid (HX1.out.below hb)
  replace XX1 := Lib.hid (XX1.out.below hb)
  clear hb
  have cXA1_0 := XA1.out.2 0
  have cXA1_1 := XA1.out.2 1
  have cXA1_2 := XA1.out.2 2
  have cXA1_3 := XA1.out.2 3
  have cXA1_4 := XA1.out.2 4
  have cXA1_5 := XA1.out.2 5
  have cXA1_6 := XA1.out.2 6
  have cXX1_0 := XX1.out.2 0
  have cXX1_1 := XX1.out.2 1
  have cXX1_2 := XX1.out.2 2
  have cXX1_3 := XX1.out.2 3
  have cXX1_4 := XX1.out.2 4
  have cXX1_5 := XX1.out.2 5
  have cXX1_6 := XX1.out.2 6
  go_wp2_with fail
  clear cXA1_0 cXA1_1 cXA1_2 cXA1_3 cXA1_4 cXA1_5 cXA1_6 cXX1_0 cXX1_1 cXX1_2 cXX1_3 cXX1_4 cXX1_5 cXX1_6
  have hb := below_drew w5
  replace B := Lib.hid (below_thru B.out (Nat.le_refl _) hb)
  replace HTAB := Lib.hid (HTAB.out.below hb)
  replace HA1 := Lib.hid (HA1.out.below hb)
  replace XA1 := Lib.hid (XA1.out.below hb)
  replace HX1 := Lib.hid (HX1.out.below hb)
  replace XX1 := Lib.hid (XX1.out.below hb)
  clear hb
  go_region_held3 (fun w' => w'.cell? ⟨w.heap.size, 0, none⟩ = some (.int .i64 a1k0) ∧ w'.cell? ⟨w.heap.size, 1, none⟩ = some (.string a1m1) ∧ w'.cell? ⟨w.heap.size, 2, none⟩ = some (.int .i64 a1k2) ∧ w'.cell? ⟨w.heap.size, 3, none⟩ = some (.int .i64 a1k3) ∧ w'.cell? ⟨w.heap.size, 4, none⟩ = some (.slice a1s4a a1s4n a1s4c) ∧ w'.cell? ⟨w.heap.size, 5, none⟩ = some (.slice a1s7a a1s7n a1s7c) ∧ w'.cell? ⟨w.heap.size, 6, none⟩ = some (.slice a1s10a a1s10n a1s10c) ∧ w'.cell? ⟨w4.heap.size, 0, none⟩ = some (.int .i64 x1k0) ∧ w'.cell? ⟨w4.heap.size, 1, none⟩ = some (.string x1m1) ∧ w'.cell? ⟨w4.heap.size, 2, none⟩ = some (.int .i64 x1k2) ∧ w'.cell? ⟨w4.heap.size, 3, none⟩ = some (.int .i64 x1k3) ∧ w'.cell? ⟨w4.heap.size, 4, none⟩ = some (.slice x1s4a x1s4n x1s4c) ∧ w'.cell? ⟨w4.heap.size, 5, none⟩ = some (.slice x1s7a x1s7n x1s7c) ∧ w'.cell? ⟨w4.heap.size, 6, none⟩ = some (.slice x1s10a x1s10n x1s10c)) (exact ⟨XA1.out.2 0, XA1.out.2 1, XA1.out.2 2, XA1.out.2 3, XA1.out.2 4, XA1.out.2 5, XA1.out.2 6, XX1.out.2 0, XX1.out.2 1, XX1.out.2 2, XX1.out.2 3, XX1.out.2 4, XX1.out.2 5, XX1.out.2 6⟩)
    (first
     | (go_at_call_of 6 (Value.agg #[Value.int IntKind.i64 a1k0, Value.string a1m1, Value.int IntKind.i64 a1k2, Value.int IntKind.i64 a1k3, Value.slice a1s4a a1s4n a1s4c, Value.slice a1s7a a1s7n a1s7c, Value.slice a1s10a a1s10n a1s10c])
        refine (toEdit d _ t1 _ hn1 HA1.out).mono ?_
        rintro e w6 ⟨y1, rfl, ht, hb⟩
        replace B := Lib.hid (below_thru B.out (Nat.le_refl _) hb)
        replace HTAB := Lib.hid (HTAB.out.below hb)
        replace HA1 := Lib.hid (HA1.out.below hb)
        replace XA1 := Lib.hid (XA1.out.below hb)
        replace HX1 := Lib.hid (HX1.out.below hb)
        replace XX1 := Lib.hid (XX1.out.below hb)
        clear hb
        have Hy1 := Lib.hid ht
        clear ht)
     | (go_at_call 8
        refine (eqEdit d _ y1 t1 _ HX1.out Hy1.out).mono ?_
        rintro e w7 ⟨rfl, hb⟩
        replace B := Lib.hid (below_thru B.out (Nat.le_refl _) hb)
        replace HTAB := Lib.hid (HTAB.out.below hb)
        replace HA1 := Lib.hid (HA1.out.below hb)
        replace XA1 := Lib.hid (XA1.out.below hb)
        replace HX1 := Lib.hid (HX1.out.below hb)
        replace XX1 := Lib.hid (XX1.out.below hb)
        clear hb
        clear Hy1))
  have cXA1_0 := XA1.out.2 0
  have cXA1_1 := XA1.out.2 1
  have cXA1_2 := XA1.out.2 2
  have cXA1_3 := XA1.out.2 3
  have cXA1_4 := XA1.out.2 4
  have cXA1_5 := XA1.out.2 5
  have cXA1_6 := XA1.out.2 6
  have cXX1_0 := XX1.out.2 0
  have cXX1_1 := XX1.out.2 1
  have cXX1_2 := XX1.out.2 2
  have cXX1_3 := XX1.out.2 3
  have cXX1_4 := XX1.out.2 4
  have cXX1_5 := XX1.out.2 5
  have cXX1_6 := XX1.out.2 6
  go_wp2_with fail
  go_ret
  exact ⟨rfl, B.out⟩
end Go.Proofs.YtimigpdbegfjaaaGreatDoor
/-
  Proved: a law that returns true and leaves all memory that was there before as it was meets its row's end, also where the row names variables to be read again.
-/
namespace Go.Proofs.YtimigpdbegfjaaaGreatDoor.Law
open Go.ChangeShapes Go.WideShapes Go.ChangeAt Go.RowKit
variable {H : Type} {enc : TypeId × Value → H} {P : Program} {W W' : World}

theorem law_post_vars {f : Func} {s : ChangeSpec} {args : Array Value} {ds gs : List (DataW H)} {before : List MemPlace} {tb : TypeId}
    (hW : DataW.Whole enc P f.params.toList s.vars false W args.toList ds gs before) (hv : varsRowed P s.vars = true)
    (hres : f.resultTypes = #[tb]) (ub : P.underlying tb = some .bool) (hl : laidOutB P = true)
    (hr : (f.params.toList.all fun t => P.readableRec t && decide (t < P.types.size)) = true)
    (hfn : s.fn H (ds ++ gs) = { results := [.lit (.bool true)], args := ds, vars := gs })
    (hb : Below W.heap.size W W') : s.post enc P f false true false false W args (.bool true) W' := by
  have hlt := hW.lt
  have hW' := hW
  obtain ⟨p, q, hA, hV, rfl, hfz, hnd⟩ := hW
  refine ⟨ds, gs, _, [], p, q, hW', ?_, ?_, ?_, hb.frame _, fun h => by cases h⟩
  · rw [hres, hfn]
    exact trodAll_mk1 (shut_bool ub true)
  · rw [hfn]
    exact trodAll_below hl hb hr hA (fun x hx => hlt x (by simp [hx]))
  · rw [hfn]
    exact Below.trodVars hl hb hv hV
end Go.Proofs.YtimigpdbegfjaaaGreatDoor.Law
namespace Go.Proofs.YtimigpdbegfjaaaGreatDoor.ExactEditText
open Go.ChangeShapes Go.WideShapes Go.ChangeAt Go.RowKit Go.WideMaps Go.WideElems
open Go.ChangeMaps (setBlock shut_map_nil open_string shut_string keptBut_setBlock frozen?_setBlock heap_setBlock_same)
set_option maxRecDepth 100000 in
theorem contract (H : Type) (enc : TypeId × Value → H) (W : World) (base : Nat) (args : Array Value) (ds gs : List (DataW H)) (before : List MemPlace)
    (hval : ∀ (j : Nat) t v, Tryz.f3.params[j]? = some t → args[j]? = some v → Value.okWide Tryz.prog W .any base t v)
    (hW : DataW.Whole enc Tryz.prog Tryz.f3.params.toList Rows.fnExactEditTextSpec.vars false W args.toList ds gs before) (hL : laidMetH Tryz.prog Rows.fnExactEditTextRow.laid W)
    (_hsz : (DataW.weightsEach Tryz.prog (Tryz.f3.params.toList ++ (OpenSpec.ofChange Rows.fnExactEditTextSpec).bare.plain.varTypes Tryz.prog) (ds ++ gs)).all (· ≤ reachBytes) = true) (_hsh : W.ShapedOpen Tryz.prog) :
    Calls Tryz.prog 3 args W fun e W' => ∃ v, e = .returned v ∧ Rows.fnExactEditTextSpec.post enc Tryz.prog Tryz.f3 false true false false W args v W' := by
  have hW' := hW
  obtain ⟨p, q, hA0, hV, rfl, hfz, hnd⟩ := hW
  have hA : DataW.TrodAll enc Tryz.prog W 0 (fun _ => true) true Tryz.f3.params.toList args.toList ds p := hA0
  rw [Tryz.params3] at hA hval
  obtain ⟨v0, vs0, d0, ds0, p0, q0, hargs, rfl, rfl, h0, r0⟩ := trodAll_cons hA
  obtain ⟨rfl, rfl, rfl⟩ := trodAll_nil r0
  obtain rfl : args = #[v0] := by cases args; simp_all
  obtain ⟨gg, gt, gcs, gfuel, gd, gp, rfl, _⟩ := trodVars_one hV
  obtain ⟨e0, t0, ht0⟩ := ed_of_arg (hval 0 30 v0 rfl rfl) h0
  rw [MakeChecks.laidMetH_plain _ _ _ (by kernel_rfl)] at hL
  have htab : ExTabs W := ⟨Lib.tabIs_of_head (rest := []) (g := 0) (t := 112) (e := 3) (n := 15) (by kernel_rfl) (by kernel_rfl) Tryz.underlying112 Tryz.underlying3 (by kernel_rfl) (by kernel_rfl) hL.tail.tail.tail, Lib.tabIs_of_head (g := 1) (t := 124) (e := 115) (n := 20) (by kernel_rfl) (by kernel_rfl) Tryz.underlying124 Tryz.underlying115 (by kernel_rfl) (by kernel_rfl) hL.tail.tail⟩
  refine Calls.mono (editTextWalk e0 v0 t0 W ht0 htab) fun e W' ⟨he, hg⟩ => ?_
  subst he
  exact ⟨_, rfl, Law.law_post_vars hW' (by kernel_rfl) (by kernel_rfl) Tryz.underlying4 (by kernel_rfl) (by kernel_rfl) rfl hg⟩
set_option maxRecDepth 100000 in
theorem laid_met (os : Os) : laidMet Tryz.prog Rows.fnExactEditTextRow.laid (((World.doorLaid Tryz.prog 512 os)).forCall (fun _ _ => 0) ⟨#[], #[.agg #[.int .i64 0, .string ⟨#[]⟩, .int .i64 0, .int .i64 0, .slice none 0 0, .slice none 0 0, .slice none 0 0]], []⟩).memory :=
  laidMet_of_run' 8 (by kernel_rfl) (by kernel_rfl)
theorem reads (os : Os) {H : Type} (enc : TypeId × Value → H) : ∃ places, DataW.whole enc Tryz.prog (((World.doorLaid Tryz.prog 512 os)).forCall (fun _ _ => 0) ⟨#[], #[.agg #[.int .i64 0, .string ⟨#[]⟩, .int .i64 0, .int .i64 0, .slice none 0 0, .slice none 0 0, .slice none 0 0]], []⟩).memory Tryz.f3.params.toList Rows.fnExactEditTextSpec.vars false (#[.agg #[.int .i64 0, .string ⟨#[]⟩, .int .i64 0, .int .i64 0, .slice none 0 0, .slice none 0 0, .slice none 0 0]] : Array Value).toList 8 = some ([.agg [.agg [.lit (.int .i64 0), .lit (.string []), .lit (.int .i64 0), .agg [.lit (.int .i64 0), .nil], .nil], .nil]], [Rows.laid_loop_example_g00585_impl_arities], places) :=
  ⟨MemPlace.row ⟨0, 0, none⟩ 15, by kernel_rfl⟩
set_option maxRecDepth 100000 in
theorem lifted (os : Os) (started : os.Started) (H : Type) (enc : TypeId × Value → H) (F : Stop.Interp) :
    ReturnsInHanded {} Tryz.checked os 3 .any ((OpenSpec.ofChange Rows.fnExactEditTextSpec).preRow enc Tryz.prog Tryz.f3 Rows.fnExactEditTextRow.domain false Rows.fnExactEditTextRow.laid) (((OpenSpec.ofChange Rows.fnExactEditTextSpec).at F).post enc Tryz.prog Tryz.f3 false true false false) := by
  obtain ⟨places, hx⟩ := reads os enc
  refine returnsInHanded_of_row (C := Tryz.checked) (s := OpenSpec.ofChange Rows.fnExactEditTextSpec) (by kernel_rfl) started (by kernel_rfl) Tryz.func3
    (witness_row_atRef (enc := enc) (C := Tryz.checked) false (World.doorLaid Tryz.prog 512 os) #[.agg #[.int .i64 0, .string ⟨#[]⟩, .int .i64 0, .int .i64 0, .slice none 0 0, .slice none 0 0, .slice none 0 0]] rfl (by kernel_rfl) (by kernel_rfl) (by kernel_rfl)
      (OpenSpec.preRow_of_cond 8 hx (by kernel_rfl) (fun k hk => by cases hk) (by kernel_rfl) (laid_met os))) ?_
  intro W base args ds gs before hval hW _ _ hsz hL hsh _
  exact contract H enc W base args ds gs before hval hW hL hsz hsh
theorem said : Rows.FnExactEditTextSaid :=
  OpenClaim.holds_of_cond 3 Tryz.f3 rfl rfl rfl rfl rfl rfl rfl ⟨rfl, rfl, rfl, rfl, rfl⟩ rfl rfl rfl rfl rfl (by kernel_rfl) Tryz.func3 (by kernel_rfl)
    (of_decide_eq_true (by kernel_rfl)) (by unfold Func.isWrapper; first | (rw [if_pos (by decide +kernel)]; kernel_rfl) | (rw [if_neg (by decide +kernel)]; exact ⟨rfl, rfl⟩))
    (fun os started H enc _ F => by rw [OpenClaim.pre_eq_preRow]; exact lifted os started H enc F)
theorem plain (f : FuncId) (fn : Func) (hf : Tryz.pinned.checked.prog.funcNamed "loop.example/g00585/laws.FnExactEditText" = some f) (hfn : Tryz.pinned.checked.prog.funcs[f]? = some fn) :
    true = Tryz.pinned.checked.prog.looks [] ∧ ∀ (j : Nat) t, fn.params[j]? = some t → Tryz.pinned.checked.prog.wantsStandIn t = false := by
  obtain rfl : f = 3 := Option.some.inj ((show Tryz.prog.funcNamed "loop.example/g00585/laws.FnExactEditText" = some 3 by kernel_rfl).symm.trans hf) |>.symm
  obtain rfl : fn = Tryz.f3 := (Option.some.inj (Tryz.func3.symm.trans hfn)).symm
  refine ⟨by kernel_rfl, fun j t ht => ?_⟩
  rw [Tryz.params3] at ht
  have hm : t ∈ [30] := by simpa using Array.mem_of_getElem? ht
  have hall : ([30].all fun u => !Tryz.prog.wantsStandIn u) = true := by kernel_rfl
  exact (show Tryz.prog.wantsStandIn t = false by simpa using List.all_eq_true.1 hall t hm)
theorem card : Rows.FnExactEditTextCardSaid :=
  Claim7.holds_tied_plain_at .later [] _ _ _ _ said (fun _ h => by cases h) (by kernel_rfl) (fun _ h => by cases h) fnExactEditText_row_tie rfl ⟨rfl, rfl⟩ (by kernel_rfl) rfl plain (by kernel_rfl)
end Go.Proofs.YtimigpdbegfjaaaGreatDoor.ExactEditText
