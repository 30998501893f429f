/-
  Proved: laws.toConflictS copies the list into new memory of its own; it leaves the memory that was there as it was.
-/
import Derived.Test.YtajikfageppobaaAtCfls
import Derived.Test.YtajikfageppobaaToCfl
namespace Go.Proofs.Ytajikfageppobaa
open Go.RowKit

theorem info_cfl : (Try.prog.info? 101).map (fun i => (i.zero, i.size, i.bytes)) = some (some (.agg #[.slice none 0 0, .slice none 0 0]), 2, 48) := by kernel_rfl
set_option maxRecDepth 100000 in
set_option maxHeartbeats 4000000 in
theorem toCfls (d : Nat) (v : Value) (ts : List Cfl) (w : World) (hn : Cfl.bulks ts ≤ 1048576) (h : CflsAt w d v ts) :
    Calls Try.prog 36 #[v] w fun e w' => ∃ v' fp, e = .returned v' ∧ CflsIn w' d v' ts w.heap.size w'.heap.size ∧ fp = ([] : List Nat) ∧ Below w.heap.size w w' := by
  obtain ⟨i0, hi, hz0, hz1, hz2⟩ := info_parts info_cfl
  have hlen := Cfl.length_le ts
  obtain ⟨a, cap, rfl, hcap, hcap2, hat⟩ := h
  have HAT := Lib.hid hat; clear hat
  go_enter Try.func36, Try.ntmps36
  go_wp2_with (at_make; refine wpList_make_full _ rfl _ _ 65 rfl w.heap.size 101 i0 (.agg #[.slice none 0 0, .slice none 0 0]) 2 Try.underlying65 hi hz0 hz1 .i64 .i64 _ _ ts.length rfl rfl rfl rfl (by rw [hz2]; omega) (by unfold maxLen; omega) (Nat.le_refl _) ?_; intro w0 hown0 hg0; refine Hid.out ?_)
  refine Lib.hid ?_
  have HB0 := Lib.hid ((Below.refl w.heap.size w).grown hg0 (Nat.le_refl _) (fun k hk => by cases hk))
  have HO0 := Lib.hid hown0
  clear hown0 hg0 hi hz0 hz1 hz2
  go_wp2_with fail
  go_loopw [4] (fun i wr => ∃ (k : Nat) (cs : List Value), k ≤ ts.length ∧ i = .int .i64 k ∧ wr.ownsRow w.heap.size 101 2 (.slice (some ⟨w.heap.size, 0, none⟩) ts.length ts.length) ts.length cs ∧
      (∀ j (h : j < ts.length), j < k → ∃ c0 c1, cs[j * 2]? = some c0 ∧ cs[j * 2 + 1]? = some c1 ∧ Wi (w.heap.size + 1) wr.heap.size (CflIn wr d (.agg #[c0, c1]) ts[j])) ∧ Below w.heap.size w wr) (fun i _ => ts.length - (intOf i).toNat)
  case atStart => exact ⟨0, _, by omega, rfl, HO0.out, fun j h h2 => by omega, HB0.out⟩
  case round =>
    obtain ⟨k, cs, hk, rfl, hown, hdone, hb⟩ := hrel
    have HO := Lib.hid hown
    have HD := Lib.hid hdone; clear hdone
    have HB := Lib.hid hb; clear hb
    have hgl := (hown.lt w.heap.size rfl).2
    clear hown
    by_cases hlt : k < ts.length
    · obtain ⟨b, off, x0, x1, rfl, hbl, hc0, hc1, ht⟩ := HAT.out k hlt
      have hg := Cfl.bulk_get ts k hlt
      have e0 : wr.cell? ⟨b, off + k * 2, none⟩ = some x0 := by rw [HB.out.cell (p := ⟨b, off + k * 2, none⟩) hbl]; exact hc0
      have e1 : wr.cell? ⟨b, off + k * 2 + 1, none⟩ = some x1 := by rw [HB.out.cell (p := ⟨b, off + k * 2 + 1, none⟩) hbl]; exact hc1
      have HT := Lib.hid (ht.below HB.out)
      clear ht hc0 hc1
      go_wp2_with fail
      clear e0 e1
      refine (toCfl d _ _ wr (by omega) HT.out).mono ?_
      rintro e w' ⟨v2, fp, rfl, ht, hf, hb1⟩
      have HO1 := Lib.hid (own_below HO.out hb1); clear HO
      have hz1 := hb1.size
      obtain ⟨zba, zbn, zbc, zca, zcn, zcc, rfl⟩ := cfl_parts ht.at_
      have HY := Lib.hid ht
      clear ht hf
      have hcs : cs.length = ts.length * 2 := HO1.out.1
      obtain ⟨u0v, p0⟩ : ∃ u, w'.cell? ⟨w.heap.size, k * 2, none⟩ = some u := by
        rw [HO1.out.cellAt (k * 2) (by omega)]
        exact ⟨_, List.getElem?_eq_getElem (by rw [HO1.out.1]; omega)⟩
      have f0 := HO1.out.frozenAt (k * 2)
      obtain ⟨u1v, p1⟩ : ∃ u, w'.cell? ⟨w.heap.size, k * 2 + 1, none⟩ = some u := by
        rw [HO1.out.cellAt (k * 2 + 1) (by omega)]
        exact ⟨_, List.getElem?_eq_getElem (by rw [HO1.out.1]; omega)⟩
      have f1 := HO1.out.frozenAt (k * 2 + 1)
      have HB1 := Lib.hid hb1; clear hb1
      have HCS := Lib.hid hcs; clear hcs
      go_wp2_with fail
      clear p0 f0 p1 f1
      have hcs := HCS.out
      have hs0 := HO1.out.stored (k * 2) (.slice zba zbn zbc)
      have hs1 := hs0.1.stored (k * 2 + 1) (.slice zca zcn zcc)
      have KP : Rest w.heap.size (w.heap.size + 1) w' ((w'.setCell ⟨w.heap.size, k * 2, none⟩ (.slice zba zbn zbc)).setCell ⟨w.heap.size, k * 2 + 1, none⟩ (.slice zca zcn zcc)) := ((Rest.refl _ _ _).set (Nat.le_refl _) (by omega)).set (Nat.le_refl _) (by omega)
      have hzz : ((w'.setCell ⟨w.heap.size, k * 2, none⟩ (.slice zba zbn zbc)).setCell ⟨w.heap.size, k * 2 + 1, none⟩ (.slice zca zcn zcc)).heap.size = w'.heap.size := by simp
      have hBB : Below w.heap.size w ((w'.setCell ⟨w.heap.size, k * 2, none⟩ (.slice zba zbn zbc)).setCell ⟨w.heap.size, k * 2 + 1, none⟩ (.slice zca zcn zcc)) := (((HB.out.trans (HB1.out.mono HB.out.size)).setCell (Nat.le_refl _) _).setCell (Nat.le_refl _) _)
      have hsl := hs1.1
      clear hs0 hs1
      generalize ((w'.setCell ⟨w.heap.size, k * 2, none⟩ (.slice zba zbn zbc)).setCell ⟨w.heap.size, k * 2 + 1, none⟩ (.slice zca zcn zcc)) = WS at hsl KP hzz hBB ⊢
      refine ⟨⟨k + 1, _, by omega, by go_num, hsl, ?_, hBB⟩, by simp [intOf]; omega⟩
      intro j hj hjk
      by_cases hjk2 : j = k
      · subst hjk2
        refine ⟨_, _, ?_, ?_, ⟨wr.heap.size, w'.heap.size, by omega, by omega, HY.out.rest KP (by omega)⟩⟩
        · rw [List.getElem?_set_ne (by omega), List.getElem?_set_self (by first | omega | (simp only [List.length_set]; omega))]
        · rw [List.getElem?_set_self (by first | omega | (simp only [List.length_set]; omega))]
      · obtain ⟨c0, c1, hc0, hc1, hty⟩ := HD.out j hj (by omega)
        refine ⟨c0, c1, ?_, ?_, (hty.map fun _ _ ha hb h => (h.below HB1.out).rest KP (Or.inr ha)).wide (Nat.le_refl _) (by omega)⟩
        · rw [List.getElem?_set_ne (by omega), List.getElem?_set_ne (by omega)]; exact hc0
        · rw [List.getElem?_set_ne (by omega), List.getElem?_set_ne (by omega)]; exact hc1
    · have hkk : k = ts.length := by omega
      subst hkk
      go_wp2_with fail
      go_ret
      refine ⟨_, [], rfl, ⟨_, _, rfl, Nat.le_refl _, by omega, fun j hj => ?_⟩, rfl, HB.out⟩
      obtain ⟨c0, c1, hc0, hc1, hty⟩ := HD.out j hj hj
      exact ⟨w.heap.size, 0, c0, c1, rfl, hgl, Nat.le_refl _, hgl, (by rw [Nat.zero_add, HO.out.cellAt (j * 2) (by omega)]; exact hc0), (by rw [Nat.zero_add, HO.out.cellAt (j * 2 + 1) (by omega)]; exact hc1), hty.wide (by omega) (Nat.le_refl _)⟩
end Go.Proofs.Ytajikfageppobaa
