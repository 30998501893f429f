/-
  Proved: spec.IsCtx says whether a list of typings is a context; the memory that was there stays as it was.
-/
import Derived.Test.YtlpdgmgafabadaaCtxOk
import Derived.Test.YtlpdgmgafabadaaSpecName
import Derived.Test.YtlpdgmgafabadaaSpecNote
namespace Go.Proofs.Ytlpdgmgafabadaa
open Go.RowKit

set_option maxRecDepth 100000 in
set_option maxHeartbeats 2000000 in
theorem specCtx (d : Nat) (v : Value) (bs : List Bi) (w : World) (h : BisAt w d v bs) (hsz : Bi.bulks bs ≤ 1048576) :
    Calls Try.prog 21 #[v] w fun e w' => e = .returned (.bool (ctxB bs)) ∧ Below w.heap.size w w' := by
  have hlen := Bi.length_le bs
  obtain ⟨a, cap, rfl, hcap, hcap2, hat⟩ := h
  have HAT := Lib.hid hat; clear hat
  have HSZ := Lib.hid hsz; clear hsz
  go_enter Try.func21, Try.ntmps21
  go_wp2_with fail
  go_loopw [3] (fun i wr => ∃ k : Nat, k ≤ bs.length ∧ i = .int .i64 k ∧ (bs.take k).all Bi.ok = true ∧ Below w.heap.size w wr) (fun i _ => bs.length - (intOf i).toNat)
  case atStart => exact ⟨0, by omega, rfl, rfl, Below.refl _ _⟩
  case round =>
    obtain ⟨k, hk, rfl, ha, hb⟩ := hrel
    have HA := Lib.hid ha; clear ha
    have HB := Lib.hid hb; clear hb
    by_cases hlt : k < bs.length
    · obtain ⟨b, off, x0, x1, x2, rfl, hbl, hc0, hc1, hc2, ht⟩ := HAT.out k hlt
      have hg := Bi.bulk_get bs k hlt
      have hgb : bs[k].bulk = bs[k].name.size + (bs[k].ty.size - 1) := rfl
      have hsz2 := HSZ.out
      have hnz : Hid (bs[k].ty.size ≤ 1048577) := by show _ ≤ _; omega
      clear hg hgb hsz2
      obtain ⟨tk, ta, tn, tc, rfl, rfl, rfl, hnm, hty⟩ := bi_cells ht
      have HN := Lib.hid (all_next bs k hlt)
      have HBAD : Hid (bs[k].ok = false → ctxB bs = false) := fun h => all_bad bs k hlt h
      have HOK : Hid (bs[k].ok = (nameB bs[k].name && bs[k].ty.note)) := rfl
      have e0 : wr.cell? ⟨b, off + k * 3, none⟩ = some (.string bs[k].name) := by rw [HB.out.cell (p := ⟨b, off + k * 3, none⟩) hbl]; exact hc0
      have e1 : wr.cell? ⟨b, off + k * 3 + 1, none⟩ = some (.int .i64 tk) := by rw [HB.out.cell (p := ⟨b, off + k * 3 + 1, none⟩) hbl]; exact hc1
      have e2 : wr.cell? ⟨b, off + k * 3 + 2, none⟩ = some (.slice ta tn tc) := by rw [HB.out.cell (p := ⟨b, off + k * 3 + 2, none⟩) hbl]; exact hc2
      have HT := Lib.hid (hty.below HB.out)
      clear ht hty hc0 hc1 hc2
      generalize bs[k] = bk at hnz hnm HN HBAD HOK e0 HT
      obtain ⟨nm, ty⟩ := bk
      dsimp only at hnz hnm HOK e0 HT
      go_wp2_with fail
      refine (specName nm _ hnm).mono ?_
      rintro e w1 ⟨rfl, hw1⟩
      subst hw1
      cases hnb : nameB nm with
      | false =>
        have HF := Lib.hid (HBAD.out (by rw [HOK.out, hnb]; rfl))
        clear hnb
        go_wp2_with fail
        go_ret
        exact ⟨by rw [HF.out]; rfl, HB.out⟩
      | true =>
        rw [hnb] at HOK
        clear hnb
        go_wp2_with fail
        refine (specNote d _ ty _ HT.out hnz.out).mono ?_
        rintro e w1 ⟨rfl, hb⟩
        replace HB := Lib.hid (HB.out.trans (hb.mono HB.out.size))
        clear hb
        cases hno : ty.note with
        | false =>
          have HF := Lib.hid (HBAD.out (by rw [HOK.out, hno]; rfl))
          clear hno
          go_wp2_with fail
          go_ret
          exact ⟨by rw [HF.out]; rfl, HB.out⟩
        | true =>
          have HK : Hid ((bs.take (k + 1)).all Bi.ok = true) := by show _ = _; rw [HN.out, HA.out, HOK.out, hno]; rfl
          clear hno
          go_wp2_with fail
          exact ⟨⟨k + 1, by omega, by go_num, HK.out, HB.out⟩, by simp [intOf]; omega⟩
    · obtain rfl : k = bs.length := by omega
      have HF := Lib.hid (ctx_all HA.out)
      by_cases q : bs.length ≤ 8
      · have q2 : (bs.length : Int) ≤ 8 := by omega
        have HG : Hid (ctxB bs = true) := by show _ = _; rw [HF.out]; exact decide_eq_true q
        go_wp2_with fail
        go_ret
        exact ⟨by rw [HG.out]; rfl, HB.out⟩
      · have q2 : ¬ ((bs.length : Int) ≤ 8) := by omega
        have HG : Hid (ctxB bs = false) := by show _ = _; rw [HF.out]; exact decide_eq_false q
        go_wp2_with fail
        go_ret
        exact ⟨by rw [HG.out]; rfl, HB.out⟩
end Go.Proofs.Ytlpdgmgafabadaa
