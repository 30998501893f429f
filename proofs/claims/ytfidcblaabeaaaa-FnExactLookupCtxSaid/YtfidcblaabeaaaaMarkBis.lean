/-
  Proved: laws.markTypingS writes only into typings of the call's own.
-/
import Derived.Test.YtfidcblaabeaaaaBindOwn
import Derived.Test.YtfidcblaabeaaaaMarkText
import Derived.Test.YtfidcblaabeaaaaMarkType
import Derived.Test.YtfidcblaabeaaaaOwnIn
namespace Go.Proofs.Ytfidcblaabeaaaa
open Go.RowKit

/-- How many marks typings take. -/
def Bi.nums : List Bi → Nat
  | [] => 0
  | b :: r => 1 + b.ty.size + Bi.nums r
theorem Bi.nums_take : ∀ (bs : List Bi) (k : Nat) (h : k < bs.length), Bi.nums (bs.take (k + 1)) = Bi.nums (bs.take k) + (1 + bs[k].ty.size)
  | b :: r, 0, _ => by simp [Bi.nums]
  | b :: r, k + 1, h => by
    simp only [List.take_succ_cons, Bi.nums, List.getElem_cons_succ]
    rw [Bi.nums_take r k (by simpa using h)]; omega
theorem Bi.nums_le : ∀ (bs : List Bi) (k : Nat), Bi.nums (bs.take k) ≤ Bi.nums bs
  | [], _ => by simp
  | b :: r, 0 => by simp [Bi.nums]
  | b :: r, k + 1 => by
    have := Bi.nums_le r k
    simp only [List.take_succ_cons, Bi.nums]; omega
theorem Bi.nums_bulks : ∀ bs : List Bi, Bi.nums bs ≤ 2 * Bi.bulks bs
  | [] => by simp [Bi.nums]
  | b :: r => by
    have h1 := Bi.nums_bulks r
    have h2 := b.ty.size_pos
    simp only [Bi.nums, Bi.bulks, Bi.bulk]; omega

set_option maxRecDepth 100000 in
set_option maxHeartbeats 1000000 in
theorem markBis (B d : Nat) (v : Value) (ts : List Bi) (fp : List Nat) (k : Int) (w : World) (hB : B ≤ w.heap.size) (hfB : ∀ b, b ∈ fp → B ≤ b) (hnd : fp.Nodup) (hk0 : 0 < k) (hk1 : k + Bi.nums ts ≤ 1099511627776) (h : BisOwn w d v ts fp) :
    Calls Try.prog 27 #[v, .int .i64 k] w fun e w' => e = .returned (.int .i64 (k + Bi.nums ts)) ∧ Below B w w' ∧ (∀ b, b < w.heap.size → b ∉ fp → w'.heap[b]? = w.heap[b]?) := by
  have HFB := Lib.hid hfB; clear hfB
  have HND := Lib.hid hnd; clear hnd
  obtain ⟨a, cap, hd, fps, rfl, hcap, hcap2, hl, hf, hhd, hat⟩ := h
  have HAT := Lib.hid hat; clear hat hhd
  go_enter Try.func27, Try.ntmps27
  go_wp2_with fail
  go_loopw [1, 5] (fun m i wr => ∃ (j : Nat), j ≤ ts.length ∧ i = .int .i64 j ∧ m = .int .i64 (k + Bi.nums (ts.take j)) ∧
      (∀ t (h : t < ts.length), j ≤ t → ∃ g off c0 c1 c2 f, a = some ⟨g, off, none⟩ ∧ hd = [g] ∧ g < wr.heap.size ∧ wr.cell? ⟨g, off + t * 3, none⟩ = some c0 ∧ wr.cell? ⟨g, off + t * 3 + 1, none⟩ = some c1 ∧ wr.cell? ⟨g, off + t * 3 + 2, none⟩ = some c2 ∧ (∀ o, wr.frozen? ⟨g, o, none⟩ = false) ∧ fps[t]? = some f ∧ BiOwn wr d (.agg #[c0, c1, c2]) ts[t] f) ∧
      Below B w wr ∧ (∀ b, b < w.heap.size → b ∉ fp → wr.heap[b]? = w.heap[b]?)) (fun _ i _ => ts.length - (intOf i).toNat)
  case atStart => exact ⟨0, by omega, rfl, by simp [Bi.nums], fun t ht _ => HAT.out t ht, Below.refl _ _, fun _ _ _ => rfl⟩
  case round =>
    obtain ⟨j, hj, rfl, rfl, hrow, hb, hout⟩ := hrel
    have HR := Lib.hid hrow; clear hrow
    have HB := Lib.hid hb; clear hb
    have HO := Lib.hid hout; clear hout
    by_cases hlt : j < ts.length
    · obtain ⟨g, off, c0, c1, c2, f, rfl, rfl, hg, e0, e1, e2, ff, hfj, hty⟩ := HR.out j hlt (Nat.le_refl _)
      have HS := Lib.hid (Bi.nums_take ts j hlt)
      have hle := Bi.nums_le ts (j + 1)
      obtain ⟨tk, ta, tn, tc, hv, _, hty⟩ := hty
      have hc : c0 = .string ts[j].name ∧ c1 = .int .i64 tk ∧ c2 = .slice ta tn tc := by injection hv with hv; injection hv with hv; simpa using hv
      obtain ⟨rfl, rfl, rfl⟩ := hc
      clear hv
      cases d with
      | zero => exact hty.elim
      | succ d =>
      cases htj : ts[j].ty with
      | node kd us =>
        rw [htj] at hty
        obtain ⟨sl, hv, _, _, hus⟩ := hty
        have hc : sl = .slice ta tn tc := by injection hv with hv; injection hv with hv; simp at hv; exact hv.2.symm
        subst hc
        clear hv
        have hsz : ts[j].ty.size = 1 + Ty.sizes us := by rw [htj]; rfl
        have HUS : Hid (TysOwn wr d (.slice ta tn tc) us f) := hus
        clear hus htj
        subst hf
        have hnd := List.nodup_append.1 HND.out
        have HN2 := Lib.hid hnd.2.1
        have HG : Hid (∀ (t : Nat) (f' : List Nat) (b : Nat), fps[t]? = some f' → b ∈ f' → b ≠ g) := fun t f' b hf' hb e => hnd.2.2 g (by simp) b (flat_sub hf' hb) e.symm
        clear hnd
        have hgf : g ∉ f := fun hb => HG.out j f g hfj hb rfl
        have HFJ := Lib.hid hfj; clear hfj
        have hle0 : (k + Bi.nums (ts.take j) : Int) + 1 + (1 + Ty.sizes us : Nat) ≤ 1099511627776 := by have := HS.out; omega
        have hgB : B ≤ g := HFB.out g (by simp)
        have HFF := Lib.hid ff
        clear ff
        go_wp2_with fail
        refine (markText (k + Bi.nums (ts.take j)) (by omega) (by omega) _).mono ?_
        rintro e w1 ⟨rfl, hb1⟩
        have hz1 := hb1.size
        have g1 : w1.heap[g]? = wr.heap[g]? := hb1.block g hg
        have e0' : w1.cell? ⟨g, off + j * 3, none⟩ = some (.string ts[j].name) := by rw [World.cell?_of_block g1]; exact e0
        have e1' : w1.cell? ⟨g, off + j * 3 + 1, none⟩ = some (.int .i64 tk) := by rw [World.cell?_of_block g1]; exact e1
        have e2' : w1.cell? ⟨g, off + j * 3 + 2, none⟩ = some (.slice ta tn tc) := by rw [World.cell?_of_block g1]; exact e2
        have f0' : w1.frozen? ⟨g, off + j * 3, none⟩ = false := by rw [World.frozen?_of_block g1]; exact HFF.out _
        have f1' : w1.frozen? ⟨g, off + j * 3 + 1, none⟩ = false := by rw [World.frozen?_of_block g1]; exact HFF.out _
        have HB1 := Lib.hid hb1
        have HBB := Lib.hid (HB.out.trans (hb1.mono (Nat.le_trans hB HB.out.size)))
        have HU1 := Lib.hid (HUS.out.kept hb1.size fun b hbf => hb1.block b (Nat.lt_of_lt_of_le (by
          have := TyOwn.lt (d := d + 1) (t := .node 0 us) (v := .agg #[.int .i64 0, .slice ta tn tc]) ⟨_, rfl, by omega, by omega, HUS.out⟩ b hbf
          exact this) (Nat.le_refl _)))
        clear hb1 e0 e1 e2
        obtain ⟨us0, husl⟩ : ∃ n, n = us.length := ⟨_, rfl⟩
        go_wp2_with fail
        have W1 : B ≤ ((w1.setCell ⟨g, off + j * 3, none⟩ (.string (mt (k + Bi.nums (ts.take j)).natAbs))).setCell ⟨g, off + j * 3 + 1, none⟩ (.int .i64 (k + Bi.nums (ts.take j) + 1))).heap.size := by
          rw [World.size_setCell, World.size_setCell]; exact Nat.le_trans hB (Nat.le_trans HB.out.size hz1)
        have W2 := Lib.hid (show ∀ b, b ∈ f → B ≤ b from fun b hb => HFB.out b (List.mem_append_right _ (flat_sub HFJ.out hb)))
        have W3 := Lib.hid (flat_nodup HN2.out HFJ.out)
        have W5 : Hid (TysOwn ((w1.setCell ⟨g, off + j * 3, none⟩ (.string (mt (k + Bi.nums (ts.take j)).natAbs))).setCell ⟨g, off + j * 3 + 1, none⟩ (.int .i64 (k + Bi.nums (ts.take j) + 1))) d (.slice ta tn tc) us f) :=
          TysOwn.kept HU1.out (by rw [World.size_setCell, World.size_setCell]; exact Nat.le_refl _) fun b hb => by
            rw [heap_setCell_other _ _ _ _ (HG.out j f b HFJ.out hb), heap_setCell_other _ _ _ _ (HG.out j f b HFJ.out hb)]
        refine (markTys_all d B _ us f (k + Bi.nums (ts.take j) + 1 + 1) _ W1 W2.out W3.out (by omega) (by omega) W5.out).mono ?_
        rintro e w' ⟨rfl, _, hb2, hout2⟩
        have hz2 := hb2.size
        simp at hz2
        have HB2 := Lib.hid ((((HBB.out).setCell hgB _).setCell hgB _).trans hb2)
        have hblk : ∀ b, b ≠ g → b ∉ f → b < wr.heap.size → w'.heap[b]? = wr.heap[b]? := fun b h1 h2 h3 => by
          rw [hout2 b (by simp; omega) h2, heap_setCell_other _ _ _ _ h1, heap_setCell_other _ _ _ _ h1]; exact HB1.out.block b h3
        have hgb := hout2 g (by simp; omega) hgf
        have HBL := Lib.hid hblk
        clear hb2 hout2 hblk
        go_wp2_with fail
        have hL : ∀ o, o ≠ off + j * 3 → o ≠ off + j * 3 + 1 → w'.cell? ⟨g, o, none⟩ = wr.cell? ⟨g, o, none⟩ := fun o h1 h2 => by
          rw [World.cell?_of_block (a := ⟨g, o, none⟩) hgb, World.cell?_setCell_other _ _ _ _ (by first | (simp; done) | (simp; omega)), World.cell?_setCell_other _ _ _ _ (by first | (simp; done) | (simp; omega)), World.cell?_of_block (a := ⟨g, o, none⟩) g1]
        refine ⟨⟨j + 1, by omega, by go_num, by rw [HS.out, hsz]; go_num, fun t ht hjt => ?_, HB2.out, fun b h1 h2 => ?_⟩, by simp [intOf]; omega⟩
        · obtain ⟨g', off', d0, d1, d2, ft, q1, q2, q3, q4, q5, q6, q7, q8, q9⟩ := HR.out t ht (by omega)
          cases q1
          refine ⟨g, off, d0, d1, d2, ft, rfl, rfl, by omega, (hL _ (by omega) (by omega)).trans q4, (hL _ (by omega) (by omega)).trans q5, (hL _ (by omega) (by omega)).trans q6, fun o => ?_, q8, q9.kept (by omega) fun b hb => HBL.out b (HG.out t ft b q8 hb) (flat_apart HN2.out q8 HFJ.out (by omega) hb) ?_⟩
          · rw [World.frozen?_of_block (a := ⟨g, o, none⟩) hgb, World.frozen?_setCell, World.frozen?_setCell, World.frozen?_of_block (a := ⟨g, o, none⟩) g1]; exact q7 o
          · obtain ⟨_, _, _, _, _, _, hto⟩ := q9
            exact TyOwn.lt hto b hb
        · have hnb : b ≠ g := fun e => h2 (by rw [e]; simp)
          have hnf : b ∉ f := fun e => h2 (List.mem_append_right _ (flat_sub HFJ.out e))
          rw [HBL.out b hnb hnf (Nat.lt_of_lt_of_le h1 HB.out.size)]
          exact HO.out b h1 h2
    · have hjn : j = ts.length := by omega
      subst hjn
      go_wp2_with fail
      go_ret
      exact ⟨by rw [List.take_length]; rfl, HB.out, HO.out⟩
/-- Typings whose blocks all lie from lo up to hi. -/
def BisIn (w : World) (d : Nat) (v : Value) (ts : List Bi) (lo hi : Nat) : Prop := ∃ fp, BisOwn w d v ts fp ∧ Fp lo hi fp ∧ hi ≤ w.heap.size
theorem BisIn.at_ {w : World} {d : Nat} {v : Value} {ts : List Bi} {lo hi : Nat} (h : BisIn w d v ts lo hi) : BisAt w d v ts := by obtain ⟨fp, h, _⟩ := h; exact h.at_
theorem BisIn.below {w w' : World} {d : Nat} {v : Value} {ts : List Bi} {lo hi : Nat} (h : BisIn w d v ts lo hi) (hb : Below w.heap.size w w') : BisIn w' d v ts lo hi := by
  obtain ⟨fp, h, hf, hz⟩ := h
  exact ⟨fp, h.kept hb.size fun b hbf => hb.block b (Nat.lt_of_lt_of_le (hf.2 b hbf).2 hz), hf, Nat.le_trans hz hb.size⟩
theorem markBisIn (B d : Nat) (v : Value) (ts : List Bi) (lo hi : Nat) (k : Int) (w : World) (hB : B ≤ lo) (hBw : B ≤ w.heap.size) (hk0 : 0 < k) (hk1 : k + Bi.nums ts ≤ 1099511627776) (h : BisIn w d v ts lo hi) :
    Calls Try.prog 27 #[v, .int .i64 k] w fun e w' => e = .returned (.int .i64 (k + Bi.nums ts)) ∧ Below B w w' ∧ Kept lo hi w w' := by
  obtain ⟨fp, h, hf, hz⟩ := h
  refine (markBis B d v ts fp k w hBw (fun b hb => by have := (hf.2 b hb).1; omega) hf.1 hk0 hk1 h).mono ?_
  rintro e w' ⟨rfl, h2, h3⟩
  exact ⟨rfl, h2, h2.size, fun b h4 h5 => h3 b h4 fun hm => by have := hf.2 b hm; omega⟩
end Go.Proofs.Ytfidcblaabeaaaa
