/-
  Proved: spec.l18Env and spec.l18Form say whether an environment and a whole core expression have the right form; the memory that was there stays as it was.
-/
import Derived.Test.YtnggkcgifjfnfaaDoorSpecCoFields
import Derived.Test.YtnggkcgifjfnfaaDoorRowKeep
import Derived.Test.YtnggkcgifjfnfaaDoorCoreArity
import Derived.Test.YtnggkcgifjfnfaaDoorGrown
import Derived.Test.YtnggkcgifjfnfaaDoorCoLite
namespace Go.Proofs.YtnggkcgifjfnfaaDoor
open Go.RowKit

theorem row_start (w : World) (o : Obj) : ((w.alloc o).alloc (.cells #[] 9)).ownsRow (w.heap.size + 1) 9 1 (.slice (some ⟨w.heap.size + 1, 0, none⟩) 0 0) 0 [] := by
  have h := World.ownsRow_made (size := 1) (e := 9) (w.alloc o) #[] 0 (base := w.heap.size + 1) (by simp) (Nat.zero_le _) rfl
  simpa using h
def envB (k : Int) (ns : List ByteArray) (vs : List Co) : Bool := ownNames [] ns && (Co.forms vs && envK k ns)
theorem envB_name {k : Int} {ns : List ByteArray} {vs : List Co} {j : Nat} (h : j < ns.length) (hb : (nameB ns[j] && !seenB (ns.take j) ns[j].data.toList) = false) : envB k ns vs = false := by
  have e := ownNames_take ns [] j h
  rw [List.nil_append, hb, Bool.and_false] at e
  unfold envB
  rw [ownNames_false ns [] (j + 1) e]; rfl
theorem envB_form {k : Int} {ns : List ByteArray} {vs : List Co} {j : Nat} (h : j < vs.length) (hb : vs[j].form = false) : envB k ns vs = false := by
  have e := Co.forms_take vs j h
  rw [hb, Bool.and_false] at e
  unfold envB
  rw [Co.forms_false vs (j + 1) e, Bool.false_and, Bool.and_false]
theorem coform_of {kd : Int} {nm : ByteArray} {n : Int} {fr ty : Ty} {es : List Co} {ns : List ByteArray} {vs : List Co} {b e c : Bool} {r : Int} (h1 : Co.forms es = true) (h3 : coFieldsB kd nm n fr ty = b) (h2 : envB kd ns vs = e) (h4 : coArity kd = r) (h5 : c = (b && (e && decide ((es.length : Int) = r)))) : (Co.node kd nm n fr ty es ns vs).form = c := by
  subst h3 h4 h2 h5
  simp only [Co.form, h1, envB, Bool.true_and]
set_option maxRecDepth 100000 in
set_option maxHeartbeats 4000000 in
theorem specCoEnv (d : Nat) (IH : Hid (∀ (v : Value) (t : Co) (w : World), CoAt w d v t → t.bulk ≤ 1048576 → Calls Tryd.prog 30 #[v] w fun e w' => e = .returned (.bool t.form) ∧ Below w.heap.size w w')) (v : Value) (kd : Int) (nm0 : ByteArray) (n0 : Int) (fr ty : Ty) (es : List Co) (ns : List ByteArray) (vs : List Co) (w : World) (h : CoAt w (d + 1) v (.node kd nm0 n0 fr ty es ns vs)) (hsz : (Co.node kd nm0 n0 fr ty es ns vs).bulk ≤ 1048576) :
    Calls Tryd.prog 57 #[v] w fun e w' => e = .returned (.bool (envB kd ns vs)) ∧ Below w.heap.size w w' := by
  obtain ⟨i0, hi, hz0, hz1, hz2⟩ := info_parts info_str
  have HI := Lib.hid hi; clear hi
  have HZ0 := Lib.hid hz0; clear hz0
  have HZ1 := Lib.hid hz1; clear hz1
  have HZ2 := Lib.hid hz2; clear hz2
  have HV := co_parts h
  obtain ⟨c3, c4, c5, c6, sl, el, rfl, hk0, hk1, hn0, hn1, hnm, hfr, hty, ⟨a, cap, rfl, hcap, hcap2, hat⟩, hln, a2, cap2, rfl, hcpe, hcpe2, hae⟩ := h
  obtain ⟨k, nm, n, fk, fa, fn, fc, tk, ta, tn, tc, sa, sn, sc, ea, en, ec, hv⟩ := HV
  injection hv with hv
  injection hv with hv
  simp at hv
  obtain ⟨rfl, rfl, rfl, rfl, rfl, rfl, rfl, HVR⟩ := hv
  clear HVR
  have HAT := Lib.hid hat; clear hat
  have HAE := Lib.hid hae; clear hae
  have HLN := Lib.hid hln; clear hln
  have hbk : (Co.node kd nm0 n0 fr ty es ns vs).bulk = nm0.size + (fr.size - 1) + (ty.size - 1) + Co.bulks es + (txs ns + Co.bulks vs) := rfl
  have HSZ : Hid (Co.bulks es + Co.bulks vs ≤ 1048576) := by show _ ≤ _; omega
  have HNM : Hid (nm0.size ≤ 1048576) := by show _ ≤ _; omega
  have HTXS : Hid (txs ns ≤ 1048576) := by show _ ≤ _; omega
  have HFZ : Hid (fr.size ≤ 1048577) := by show _ ≤ _; omega
  have HTZ : Hid (ty.size ≤ 1048577) := by show _ ≤ _; omega
  have hlen : es.length ≤ 1048576 := by have := Co.length_le es; omega
  have hlen2 : vs.length ≤ 1048576 := by have := Co.length_le vs; omega
  have HFR := Lib.hid hfr
  have HTY := Lib.hid hty
  clear hsz hbk hty hfr
  clear HFR HTY HFZ HTZ HNM HTXS HAT
  go_enter Tryd.func57, Tryd.ntmps57
  go_wp2_with fail
  go_loopw [3, 4] (fun o i wr => ∃ (k : Nat) (L : List ByteArray), k ≤ vs.length ∧ i = .int .i64 k ∧ L = ns.take k ∧ ownNames [] (ns.take k) = true ∧ Co.forms (vs.take k) = true ∧ wr.ownsRow (w.heap.size + 1) 9 1 o L.length (L.map Value.string) ∧ Below (w.heap.size + 1) (w.alloc (.cells #[.int .i64 kd, .string nm0, .int .i64 n0, .int .i64 fk, .slice fa fn fc, .int .i64 tk, .slice ta tn tc, .slice a es.length cap, .slice a2 vs.length cap2] 37)) wr) (fun _ i _ => vs.length - (intOf i).toNat)
  case atStart => exact ⟨0, [], by omega, rfl, by simp, by simp [ownNames], by simp [Co.forms], row_start w _, (Below.refl _ _).alloc (by simp) _⟩
  case round =>
    obtain ⟨k, L, hk, rfl, hL, hon, hfo, hown, hb⟩ := hrel
    have hll : L.length ≤ 1048576 := by rw [hL, List.length_take]; have := HLN.out; omega
    have HON := Lib.hid hon; clear hon
    have HFO := Lib.hid hfo; clear hfo
    have HL := Lib.hid hL; clear hL
    have HO := Lib.hid hown; clear hown
    have HBX := Lib.hid hb; clear hb
    have hzr : w.heap.size + 1 ≤ wr.heap.size := by have := HBX.out.size; simpa using this
    by_cases hlt : k < vs.length
    · have HB := Lib.hid (box_below HBX.out)
      have b8 := box_cell HBX.out 8
      have hlt2 : k < ns.length := by have := HLN.out; omega
      obtain ⟨b, off, x0, x1, x2, x3, x4, x5, x6, x7, x8, rfl, hbl, hnz, hcn, hc0, hc1, hc2, hc3, hc4, hc5, hc6, hc7, hc8, ht⟩ := HAE.out k hlt hlt2
      have hg := Co.bulk_get vs k hlt
      have HS2 := HSZ.out
      have HTK := Lib.hid (take_add ns k hlt2)
      have HOT := Lib.hid (ownNames_take ns [] k hlt2)
      have HFT := Lib.hid (Co.forms_take vs k hlt)
      have HNAME : Hid ((nameB ns[k] && !seenB L ns[k].data.toList) = false → envB kd ns vs = false) := by intro hq; rw [HL.out] at hq; exact envB_name hlt2 hq
      have HFORM : Hid (vs[k].form = false → envB kd ns vs = false) := fun hq => envB_form hlt hq
      obtain ⟨x, hx⟩ : ∃ x, x = ns[k] := ⟨_, rfl⟩
      rw [← hx] at hcn hnz
      rw [← hx] at HTK HOT HNAME
      clear hx
      have HC : Hid (wr.cell? ⟨b, off + k * 10, none⟩ = some (.string x) ∧ wr.cell? ⟨b, off + k * 10 + 1, none⟩ = some x0 ∧ wr.cell? ⟨b, off + k * 10 + 2, none⟩ = some x1 ∧ wr.cell? ⟨b, off + k * 10 + 3, none⟩ = some x2 ∧ wr.cell? ⟨b, off + k * 10 + 4, none⟩ = some x3 ∧ wr.cell? ⟨b, off + k * 10 + 5, none⟩ = some x4 ∧ wr.cell? ⟨b, off + k * 10 + 6, none⟩ = some x5 ∧ wr.cell? ⟨b, off + k * 10 + 7, none⟩ = some x6 ∧ wr.cell? ⟨b, off + k * 10 + 8, none⟩ = some x7 ∧ wr.cell? ⟨b, off + k * 10 + 9, none⟩ = some x8) := by
        have hcl : ∀ o, wr.cell? ⟨b, o, none⟩ = w.cell? ⟨b, o, none⟩ := fun o => HB.out.cell (p := ⟨b, o, none⟩) hbl
        exact ⟨(hcl _).trans hcn, (hcl _).trans hc0, (hcl _).trans hc1, (hcl _).trans hc2, (hcl _).trans hc3, (hcl _).trans hc4, (hcl _).trans hc5, (hcl _).trans hc6, (hcl _).trans hc7, (hcl _).trans hc8⟩
      have HT := Lib.hid (ht.below HB.out)
      have hbr : b < wr.heap.size := Nat.lt_of_lt_of_le hbl HB.out.size
      clear ht hcn hc0 hc1 hc2 hc3 hc4 hc5 hc6 hc7 hc8
      have en := HC.out.1
      go_wp2_with fail
      refine (specName x _ hnz).mono ?_
      rintro e w1 ⟨rfl, hw1⟩
      subst hw1
      cases hnb : nameB x with
      | false =>
        have HNO := Lib.hid (HNAME.out (by rw [hnb]; rfl))
        go_wp2_with fail
        go_ret
        exact ⟨by rw [HNO.out]; rfl, HB.out⟩
      | true =>
        have HNB := Lib.hid hnb; clear hnb
        go_wp2_with fail
        refine (specIndex _ L x hll _ (Strs.of_own HO.out)).mono ?_
        rintro e w2 ⟨rfl, hb2⟩
        have HBX2 := Lib.hid (box_next HBX.out hb2)
        have HB2 := Lib.hid (box_below HBX2.out)
        have HT2 := Lib.hid (HT.out.below hb2)
        have HO2 := Lib.hid (rowKeep HO.out hb2)
        clear b8 en
        have b8 := box_cell HBX2.out 8
        obtain ⟨en, q0, q1, q2, q3, q4, q5, q6, q7, q8⟩ := HC.out
        have hk2 : ∀ o, w2.cell? ⟨b, o, none⟩ = w1.cell? ⟨b, o, none⟩ := fun o => hb2.cell (p := ⟨b, o, none⟩) hbr
        replace en := (hk2 _).trans en
        replace q0 := (hk2 _).trans q0
        replace q1 := (hk2 _).trans q1
        replace q2 := (hk2 _).trans q2
        replace q3 := (hk2 _).trans q3
        replace q4 := (hk2 _).trans q4
        replace q5 := (hk2 _).trans q5
        replace q6 := (hk2 _).trans q6
        replace q7 := (hk2 _).trans q7
        replace q8 := (hk2 _).trans q8
        clear hk2 hb2 HC HT
        have hsn := idx_seen L x
        cases hq : seenB L x.data.toList with
        | true =>
          have hge : ¬ (idx L x 0 < 0) := by have := hsn.2 hq; omega
          have HNO := Lib.hid (HNAME.out (by rw [HNB.out, hq]; rfl))
          clear hsn hq
          go_wp2_with fail
          go_ret
          exact ⟨by rw [HNO.out]; rfl, HB2.out⟩
        | false =>
          have hlt0 : idx L x 0 < 0 := by
            by_cases h : idx L x 0 < 0
            · exact h
            · have := hsn.1 (by omega); rw [hq] at this; cases this
          have HQ := Lib.hid hq
          clear hsn hq
          go_wp2_with fail
          refine (IH.out _ _ _ HT2.out (by omega)).mono ?_
          rintro e w3 ⟨rfl, hb3⟩
          have HBX3 := Lib.hid (box_next HBX2.out hb3)
          have HB3 := Lib.hid (box_below HBX3.out)
          have HO3 := Lib.hid (rowKeep HO2.out hb3)
          have en3 : w3.cell? ⟨b, off + k * 10, none⟩ = some (.string x) := (hb3.cell (p := ⟨b, off + k * 10, none⟩) (Nat.lt_of_lt_of_le hbl HB2.out.size)).trans en
          clear hb3 en q0 q1 q2 q3 q4 q5 q6 q7 q8 b8 HT2 HO2
          have b8 := box_cell HBX3.out 8
          cases hf : vs[k].form with
          | false =>
            have HNO := Lib.hid (HFORM.out hf)
            clear hf
            go_wp2_with fail
            go_ret
            exact ⟨by rw [HNO.out]; rfl, HB3.out⟩
          | true =>
            have HF := Lib.hid hf; clear hf
            have hz3 : w.heap.size + 1 ≤ w3.heap.size := by have := HBX3.out.size; simpa using this
            go_wp2_with (at_builtin; go_must (refine wpList_append_own_at _ rfl _ _ 74 rfl (w.heap.size + 1) 9 i0 (.string ⟨#[]⟩) 1 16 Tryd.underlying74 HI.out HZ0.out HZ1.out HZ2.out rfl (by decide) _ _ _ rfl (HO3.out.alloc _) ⟨w3.heap.size, 0, none⟩ 1 1 [.string x] rfl rfl (newsStr _ _ _) (by simp [Value.oneCell']) (by unfold maxLen; omega) (by omega) (by simp; omega) ?_); intro v2 w4 hown2 hg2 _ hblk2; refine Hid.out ?_)
            refine Lib.hid ?_
            have hb4 := (HBX3.out.alloc hz3 _).grown hg2 (by simp; omega) (fun k hk => (HO3.out.lt k hk).1)
            have hown3 : w4.ownsRow (w.heap.size + 1) 9 1 v2 (L ++ [x]).length ((L ++ [x]).map Value.string) := by simpa using hown2
            have HO4 := Lib.hid hown3; clear hown3 hown2 hg2 hblk2
            have HB4 := Lib.hid hb4; clear hb4 en3 b8
            go_wp2_with fail
            exact ⟨⟨k + 1, L ++ [x], by omega, by go_num, by rw [HTK.out, HL.out], by have h := HQ.out; rw [HL.out] at h; rw [HOT.out, HON.out, HNB.out, List.nil_append, h]; rfl, by rw [HFT.out, HFO.out, HF.out]; rfl, HO4.out, HB4.out⟩, by simp [intOf]; omega⟩
    · obtain rfl : k = vs.length := by omega
      obtain ⟨a9, cap9, rfl, _, _⟩ := Strs.of_own HO.out
      have HEN : Hid (envB kd ns vs = envK kd ns) := by
        have h1 := HON.out
        have h2 := HFO.out
        rw [← HLN.out, List.take_length] at h1
        rw [List.take_length] at h2
        show _ = _; unfold envB; rw [h1, h2]; rfl
      have hl9 : L.length = ns.length := by rw [HL.out, List.length_take, ← HLN.out]; omega
      have b0 := box_cell HBX.out 0
      have b8 := box_cell HBX.out 8
      have HB := Lib.hid (box_below HBX.out)
      clear HO HL HAE HON HFO
      rw [hl9]
      clear hl9
      by_cases y0 : ns.length = 0
      · have y0b : ((ns.length : Int) == 0) = true := by simp [y0]
        go_wp2_with fail
        go_ret
        exact ⟨by rw [HEN.out]; simp [envK, y0], HB.out⟩
      have y0b : ((ns.length : Int) == 0) = false := by simp [y0]
      by_cases y1 : kd = 1
      · subst y1
        go_wp2_with fail
        go_ret
        exact ⟨by rw [HEN.out]; simp [envK, boundB], HB.out⟩
      by_cases y2 : kd = 2
      · subst y2
        go_wp2_with fail
        go_ret
        exact ⟨by rw [HEN.out]; simp [envK, boundB], HB.out⟩
      have y1b : (kd == 1) = false := by simp [y1]
      have y2b : (kd == 2) = false := by simp [y2]
      go_wp2_with fail
      go_ret
      exact ⟨by rw [HEN.out]; simp [envK, boundB, y0, y1, y2], HB.out⟩
set_option maxRecDepth 100000 in
set_option maxHeartbeats 4000000 in
theorem specCoForm : ∀ (d : Nat) (v : Value) (t : Co) (w : World), CoAt w d v t → t.bulk ≤ 1048576 →
    Calls Tryd.prog 30 #[v] w fun e w' => e = .returned (.bool t.form) ∧ Below w.heap.size w w'
  | 0, _, _, _, h, _ => h.elim
  | d + 1, v, .node kd nm0 n0 fr ty es ns vs, w, h, hsz => by
    have IH : Hid (∀ (v : Value) (t : Co) (w : World), CoAt w d v t → t.bulk ≤ 1048576 → Calls Tryd.prog 30 #[v] w fun e w' => e = .returned (.bool t.form) ∧ Below w.heap.size w w') := specCoForm d
    have HWH := Lib.hid h
    have HBK := Lib.hid hsz
    have HV := co_parts h
    obtain ⟨c3, c4, c5, c6, sl, el, rfl, hk0, hk1, hn0, hn1, hnm, hfr, hty, ⟨a, cap, rfl, hcap, hcap2, hat⟩, hln, a2, cap2, rfl, hcpe, hcpe2, hae⟩ := h
    obtain ⟨k, nm, n, fk, fa, fn, fc, tk, ta, tn, tc, sa, sn, sc, ea, en, ec, hv⟩ := HV
    injection hv with hv
    injection hv with hv
    simp at hv
    obtain ⟨rfl, rfl, rfl, rfl, rfl, rfl, rfl, HVR⟩ := hv
    clear HVR
    have HAT := Lib.hid hat; clear hat
    have HAE := Lib.hid hae; clear hae
    have HLN := Lib.hid hln; clear hln
    have hbk : (Co.node kd nm0 n0 fr ty es ns vs).bulk = nm0.size + (fr.size - 1) + (ty.size - 1) + Co.bulks es + (txs ns + Co.bulks vs) := rfl
    have HSZ : Hid (Co.bulks es + Co.bulks vs ≤ 1048576) := by show _ ≤ _; omega
    have HNM : Hid (nm0.size ≤ 1048576) := by show _ ≤ _; omega
    have HTXS : Hid (txs ns ≤ 1048576) := by show _ ≤ _; omega
    have HFZ : Hid (fr.size ≤ 1048577) := by show _ ≤ _; omega
    have HTZ : Hid (ty.size ≤ 1048577) := by show _ ≤ _; omega
    have hlen : es.length ≤ 1048576 := by have := Co.length_le es; omega
    have hlen2 : vs.length ≤ 1048576 := by have := Co.length_le vs; omega
    have HFR := Lib.hid hfr
    have HTY := Lib.hid hty
    clear hsz hbk hty hfr
    clear HFR HTY HFZ HTZ HNM HTXS HAE HLN
    go_enter Tryd.func30, Tryd.ntmps30
    go_wp2_with fail
    go_loopw [3] (fun i wr => ∃ k : Nat, k ≤ es.length ∧ i = .int .i64 k ∧ Co.forms (es.take k) = true ∧ Below (w.heap.size + 1) (w.alloc (.cells #[.int .i64 kd, .string nm0, .int .i64 n0, .int .i64 fk, .slice fa fn fc, .int .i64 tk, .slice ta tn tc, .slice a es.length cap, .slice a2 vs.length cap2] 37)) wr) (fun i _ => es.length - (intOf i).toNat)
    case atStart => exact ⟨0, by omega, rfl, by simp [Co.forms], Below.refl _ _⟩
    case round =>
      obtain ⟨k, hk, rfl, hf, hb⟩ := hrel
      have HF := Lib.hid hf; clear hf
      have HB := Lib.hid (box_below hb)
      have HBX := Lib.hid hb; clear hb
      by_cases hlt : k < es.length
      · have b7 := box_cell HBX.out 7
        obtain ⟨b, off, x0, x1, x2, x3, x4, x5, x6, x7, x8, rfl, hbl, hc0, hc1, hc2, hc3, hc4, hc5, hc6, hc7, hc8, ht⟩ := HAT.out k hlt
        have hg := Co.bulk_get es k hlt
        have HS2 := HSZ.out
        have e0 : wr.cell? ⟨b, off + k * 9, none⟩ = some x0 := by rw [HB.out.cell (p := ⟨b, off + k * 9, none⟩) hbl]; exact hc0
        have e1 : wr.cell? ⟨b, off + k * 9 + 1, none⟩ = some x1 := by rw [HB.out.cell (p := ⟨b, off + k * 9 + 1, none⟩) hbl]; exact hc1
        have e2 : wr.cell? ⟨b, off + k * 9 + 2, none⟩ = some x2 := by rw [HB.out.cell (p := ⟨b, off + k * 9 + 2, none⟩) hbl]; exact hc2
        have e3 : wr.cell? ⟨b, off + k * 9 + 3, none⟩ = some x3 := by rw [HB.out.cell (p := ⟨b, off + k * 9 + 3, none⟩) hbl]; exact hc3
        have e4 : wr.cell? ⟨b, off + k * 9 + 4, none⟩ = some x4 := by rw [HB.out.cell (p := ⟨b, off + k * 9 + 4, none⟩) hbl]; exact hc4
        have e5 : wr.cell? ⟨b, off + k * 9 + 5, none⟩ = some x5 := by rw [HB.out.cell (p := ⟨b, off + k * 9 + 5, none⟩) hbl]; exact hc5
        have e6 : wr.cell? ⟨b, off + k * 9 + 6, none⟩ = some x6 := by rw [HB.out.cell (p := ⟨b, off + k * 9 + 6, none⟩) hbl]; exact hc6
        have e7 : wr.cell? ⟨b, off + k * 9 + 7, none⟩ = some x7 := by rw [HB.out.cell (p := ⟨b, off + k * 9 + 7, none⟩) hbl]; exact hc7
        have e8 : wr.cell? ⟨b, off + k * 9 + 8, none⟩ = some x8 := by rw [HB.out.cell (p := ⟨b, off + k * 9 + 8, none⟩) hbl]; exact hc8
        have HT := Lib.hid (ht.below HB.out)
        have HFT := Lib.hid (Co.forms_take es k hlt)
        have HNO : Hid (es[k].form = false → (Co.node kd nm0 n0 fr ty es ns vs).form = false) := fun hq => by
          have e := Co.forms_take es k hlt
          rw [hq, Bool.and_false] at e
          simp only [Co.form, Co.forms_false es (k + 1) e, Bool.false_and]
        clear ht hc0 hc1 hc2 hc3 hc4 hc5 hc6 hc7 hc8
        go_wp2_with fail
        refine (IH.out _ _ _ HT.out (by omega)).mono ?_
        rintro e w' ⟨rfl, hb1⟩
        have HN := Lib.hid (box_next HBX.out hb1); clear hb1
        cases hf : es[k].form with
        | false =>
          have HX := Lib.hid (HNO.out hf)
          clear hf
          go_wp2_with fail
          go_ret
          exact ⟨by rw [HX.out]; rfl, box_below HN.out⟩
        | true =>
          have HF1 := Lib.hid hf; clear hf
          go_wp2_with fail
          exact ⟨⟨k + 1, by omega, by go_num, by rw [HFT.out, HF.out, HF1.out]; rfl, HN.out⟩, by simp [intOf]; omega⟩
      · obtain rfl : k = es.length := by omega
        have HFA := Lib.hid (show Co.forms es = true by have := HF.out; rw [List.take_length] at this; exact this)
        have XA := Lib.hid (co_box_of HBX.out)
        have HW2 := Lib.hid (HWH.out.below HB.out)
        have b7 := box_cell HBX.out 7
        go_wp2_with fail
        have C1 : ∀ q : Grown wr.heap.size wr, Calls Tryd.prog 56 #[.agg #[.int .i64 kd, .string nm0, .int .i64 n0, .int .i64 fk, .slice fa fn fc, .int .i64 tk, .slice ta tn tc, .slice a es.length cap, .slice a2 vs.length cap2]] q.val fun e w' => e = .returned (.bool (coFieldsB kd nm0 n0 fr ty)) ∧ Below q.val.heap.size q.val w' := fun q => specCoFields d _ kd nm0 n0 fr ty es ns vs _ (HW2.out.below q.old) HBK.out
        have C2 : ∀ q : Grown wr.heap.size wr, Calls Tryd.prog 57 #[.agg #[.int .i64 kd, .string nm0, .int .i64 n0, .int .i64 fk, .slice fa fn fc, .int .i64 tk, .slice ta tn tc, .slice a es.length cap, .slice a2 vs.length cap2]] q.val fun e w' => e = .returned (.bool (envB kd ns vs)) ∧ Below q.val.heap.size q.val w' := fun q => specCoEnv d IH _ kd nm0 n0 fr ty es ns vs _ (HW2.out.below q.old) HBK.out
        have C3 : ∀ q : Grown wr.heap.size wr, Calls Tryd.prog 58 #[.int .i64 kd] q.val fun e w' => e = .returned (.int .i64 (coArity kd)) ∧ Below q.val.heap.size q.val w' := fun q => specCoArity _ _
        obtain ⟨fb, hfb⟩ : ∃ b, coFieldsB kd nm0 n0 fr ty = b := ⟨_, rfl⟩
        obtain ⟨eb, heb⟩ : ∃ b, envB kd ns vs = b := ⟨_, rfl⟩
        obtain ⟨r, hr⟩ : ∃ r, coArity kd = r := ⟨_, rfl⟩
        rw [hfb] at C1
        rw [heb] at C2
        rw [hr] at C3
        have HFB := Lib.hid hfb
        have HEB := Lib.hid heb
        have HR := Lib.hid hr
        clear hfb heb hr b7
        have g0 : ∀ q : Grown wr.heap.size wr, q.val.cell? ⟨w.heap.size, 0, none⟩ = _ := fun q => (XA.out.grown q).2 0
        have g1 : ∀ q : Grown wr.heap.size wr, q.val.cell? ⟨w.heap.size, 1, none⟩ = _ := fun q => (XA.out.grown q).2 1
        have g2 : ∀ q : Grown wr.heap.size wr, q.val.cell? ⟨w.heap.size, 2, none⟩ = _ := fun q => (XA.out.grown q).2 2
        have g3 : ∀ q : Grown wr.heap.size wr, q.val.cell? ⟨w.heap.size, 3, none⟩ = _ := fun q => (XA.out.grown q).2 3
        have g4 : ∀ q : Grown wr.heap.size wr, q.val.cell? ⟨w.heap.size, 4, none⟩ = _ := fun q => (XA.out.grown q).2 4
        have g5 : ∀ q : Grown wr.heap.size wr, q.val.cell? ⟨w.heap.size, 5, none⟩ = _ := fun q => (XA.out.grown q).2 5
        have g6 : ∀ q : Grown wr.heap.size wr, q.val.cell? ⟨w.heap.size, 6, none⟩ = _ := fun q => (XA.out.grown q).2 6
        have g7 : ∀ q : Grown wr.heap.size wr, q.val.cell? ⟨w.heap.size, 7, none⟩ = _ := fun q => (XA.out.grown q).2 7
        have g8 : ∀ q : Grown wr.heap.size wr, q.val.cell? ⟨w.heap.size, 8, none⟩ = _ := fun q => (XA.out.grown q).2 8
        clear XA HW2 HAT IH HBX HWH HF HSZ
        cases fb
        case false =>
          refine wp_region_grown wr.heap.size (by kernel_rfl) (by kernel_rfl) ?_
          repeat (go_big_quiet_step ((first | (go_at_call 56; exact grown_of (Nat.le_refl _) (C1 _)) | (go_at_call 57; exact grown_of (Nat.le_refl _) (C2 _)) | (go_at_call 58; exact grown_of (Nat.le_refl _) (C3 _)))))
          refine wpQuiet_nil ?_
          rintro _ ⟨⟨wq, hq⟩, rfl⟩
          go_wp2_with fail
          go_ret
          exact ⟨by rw [coform_of HFA.out HFB.out HEB.out HR.out (c := false) (by simp)]; rfl, below_thru HB.out (Nat.le_refl _) hq⟩
        case true =>
          cases eb
          case false =>
            refine wp_region_grown wr.heap.size (by kernel_rfl) (by kernel_rfl) ?_
            repeat (go_big_quiet_step ((first | (go_at_call 56; exact grown_of (Nat.le_refl _) (C1 _)) | (go_at_call 57; exact grown_of (Nat.le_refl _) (C2 _)) | (go_at_call 58; exact grown_of (Nat.le_refl _) (C3 _)))))
            refine wpQuiet_nil ?_
            rintro _ ⟨⟨wq, hq⟩, rfl⟩
            go_wp2_with fail
            go_ret
            exact ⟨by rw [coform_of HFA.out HFB.out HEB.out HR.out (c := false) (by simp)]; rfl, below_thru HB.out (Nat.le_refl _) hq⟩
          case true =>
            by_cases qa : (es.length : Int) = r
            · have qb : ((es.length : Int) == r) = true := by simp [qa]
              refine wp_region_grown wr.heap.size (by kernel_rfl) (by kernel_rfl) ?_
              repeat (go_big_quiet_step ((first | (go_at_call 56; exact grown_of (Nat.le_refl _) (C1 _)) | (go_at_call 57; exact grown_of (Nat.le_refl _) (C2 _)) | (go_at_call 58; exact grown_of (Nat.le_refl _) (C3 _)))))
              refine wpQuiet_nil ?_
              rintro _ ⟨⟨wq, hq⟩, rfl⟩
              go_wp2_with fail
              go_ret
              exact ⟨by rw [coform_of HFA.out HFB.out HEB.out HR.out (c := true) (by simp [qa])]; rfl, below_thru HB.out (Nat.le_refl _) hq⟩
            · have qb : ((es.length : Int) == r) = false := by simp [qa]
              refine wp_region_grown wr.heap.size (by kernel_rfl) (by kernel_rfl) ?_
              repeat (go_big_quiet_step ((first | (go_at_call 56; exact grown_of (Nat.le_refl _) (C1 _)) | (go_at_call 57; exact grown_of (Nat.le_refl _) (C2 _)) | (go_at_call 58; exact grown_of (Nat.le_refl _) (C3 _)))))
              refine wpQuiet_nil ?_
              rintro _ ⟨⟨wq, hq⟩, rfl⟩
              go_wp2_with fail
              go_ret
              exact ⟨by rw [coform_of HFA.out HFB.out HEB.out HR.out (c := false) (by simp [qa])]; rfl, below_thru HB.out (Nat.le_refl _) hq⟩
end Go.Proofs.YtnggkcgifjfnfaaDoor
