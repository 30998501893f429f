/-
  Proved: laws.markExpr numbers what lies below an expression's root in its own memory; plain facts on expressions that own their blocks, with the blocks' bounds.
-/
import Derived.Test.YtcohfbdhdngplaaMarkEx
import Derived.Test.YtcohfbdhdngplaaExIn
import Derived.Test.YtcohfbdhdngplaaOwnIn
namespace Go.Proofs.Ytcohfbdhdngplaa
open Go.RowKit

/-- The expression with all that lies below its root numbered from k on. -/
def Ex.markIn : Ex → Int → Ex
  | .node kd nm n ty es, k => .node kd nm n (ty.markIn k) (Ex.marks es (k + ((ty.size - 1 : Nat) : Int)))
def MarkExEnd (B d : Nat) (v : Value) (t : Ex) (fp : List Nat) (k : Int) (w : World) (e : Ending) (w' : World) : Prop :=
  e = .returned (.int .i64 (k + (t.wt : Int))) ∧ ExOwn w' d v (t.markIn k) fp ∧ Below B w w' ∧ (∀ b, b < w.heap.size → b ∉ fp → w'.heap[b]? = w.heap[b]?)
set_option maxRecDepth 100000 in
set_option maxHeartbeats 1000000 in
theorem markEx (B d : Nat) (v : Value) (t : Ex) (fp : List Nat) (k : Int) (w : World) (hB : B ≤ w.heap.size) (hfB : ∀ b, b ∈ fp → B ≤ b) (hnd : fp.Nodup) (hk0 : 0 ≤ k) (hk1 : k + t.wt + 1 ≤ 1099511627776) (h : ExOwn w d v t fp) :
    Calls Try.prog 16 #[v, .int .i64 k] w (MarkExEnd B d v t fp k w) := by
  cases d with
  | zero => exact h.elim
  | succ d =>
    cases t with
    | node kd nm n ty us =>
      have hlt := ExOwn.lt h
      obtain ⟨tk, ta, tn, tc, sa, sn, sc, hv0⟩ : ∃ tk ta tn tc sa sn sc, v = .agg #[.int .i64 kd, .string nm, .int .i64 n, .int .i64 tk, .slice ta tn tc, .slice sa sn sc] := by
        obtain ⟨_, _, _, tk, ta, tn, tc, sa, sn, sc, hv⟩ := ex_parts h.at_
        obtain ⟨c3, c4, sl, f1, f2, rfl, _⟩ := h
        injection hv with hv
        injection hv with hv
        simp at hv
        obtain ⟨rfl, rfl, rfl, rfl, rfl, rfl⟩ := hv
        exact ⟨tk, ta, tn, tc, sa, sn, sc, rfl⟩
      subst hv0
      obtain ⟨c3, c4, sl, f1, f2, hv, h0, h1, h2, h3, h4, hff, hty, hus⟩ := h
      injection hv with hv
      injection hv with hv
      simp at hv
      obtain ⟨rfl, rfl, rfl⟩ := hv
      subst hff
      have hn12 := List.nodup_append.1 hnd
      have hwt : (Ex.node kd nm n ty us).wt = (ty.size - 1) + Ex.wts us := rfl
      rw [hwt] at hk1
      have hpos := ty.size_pos
      obtain ⟨W, hW⟩ : ∃ W, W = w.alloc (.cells #[.int .i64 kd, .string nm, .int .i64 n, .int .i64 tk, .slice ta tn tc, .slice sa sn sc] 36) := ⟨_, rfl⟩
      have e1 : Below w.heap.size w W := by rw [hW]; exact below_alloc _ _
      have XA : Hid (BoxAt W w.heap.size #[.int .i64 kd, .string nm, .int .i64 n, .int .i64 tk, .slice ta tn tc, .slice sa sn sc]) := by rw [hW]; exact BoxAt.new _ _ _
      have HTY : Hid (TyOwn W d (.agg #[.int .i64 tk, .slice ta tn tc]) ty f1) := hty.kept e1.size fun b hb => e1.block b (hlt b (List.mem_append_left _ hb))
      have HUS : Hid (ExsOwn W d (.slice sa sn sc) us f2) := ExsOwn.kept hus e1.size fun b hb => e1.block b (hlt b (List.mem_append_right _ hb))
      have HE := Lib.hid e1
      have HLT := Lib.hid hlt; clear hlt
      have HN := Lib.hid hn12; clear hn12
      have HF1 := Lib.hid (show ∀ b, b ∈ f1 → B ≤ b from fun b hb => hfB b (List.mem_append_left _ hb))
      have HF2 := Lib.hid (show ∀ b, b ∈ f2 → B ≤ b from fun b hb => hfB b (List.mem_append_right _ hb))
      have hBW : B ≤ W.heap.size := Nat.le_trans hB e1.size
      have x3 := XA.out.2 3
      have x4 := XA.out.2 4
      have x5 := XA.out.2 5
      have hBB : Hid (Below B w W) := by rw [hW]; exact (Below.refl _ _).alloc hB _
      clear hty hus hnd hfB e1
      go_enter Try.func16, Try.ntmps16
      go_wp2_with fail
      rw [← hW]
      go_wp2_with fail
      refine (markTy B d _ ty f1 k W hBW HF1.out HN.out.1 hk0 (by omega) HTY.out).mono ?_
      rintro e w2 ⟨rfl, ht, hb, hout⟩
      have HT2 := Lib.hid ht; clear ht
      have HB2 := Lib.hid (hBB.out.trans hb)
      have hz2 := hb.size
      have HO := Lib.hid hout; clear hout
      have hpW : w.heap.size < W.heap.size := XA.out.1
      have hgb : w2.heap[w.heap.size]? = W.heap[w.heap.size]? := HO.out _ hpW (fun hm => absurd (HLT.out _ (List.mem_append_left _ hm)) (by omega))
      have y5 : w2.cell? ⟨w.heap.size, 5, none⟩ = some (.slice sa sn sc) := (World.cell?_of_block (a := ⟨w.heap.size, 5, none⟩) hgb).trans (XA.out.2 5)
      have HUS2 : Hid (ExsOwn w2 d (.slice sa sn sc) us f2) := ExsOwn.kept HUS.out hb.size fun b hm => HO.out b (Nat.lt_of_lt_of_le (HLT.out b (List.mem_append_right _ hm)) HE.out.size) (fun h => HN.out.2.2 b h b hm rfl)
      have hB2 : B ≤ w2.heap.size := Nat.le_trans hBW hz2
      clear hb x3 x4 x5 hgb
      go_wp2_with fail
      refine (markExs_all d B _ us f2 (k + ((ty.size - 1 : Nat) : Int)) w2 hB2 HF2.out HN.out.2.1 (by omega) (by omega) HUS2.out).mono ?_
      rintro e w3 ⟨rfl, ht, hb, hout⟩
      have HT3 := Lib.hid ht; clear ht
      have HB3 := Lib.hid (HB2.out.trans hb)
      have HTY3 : Hid (TyOwn w3 d (.agg #[.int .i64 tk, .slice ta tn tc]) (ty.markIn k) f1) := HT2.out.kept hb.size fun b hm => hout b (TyOwn.lt HT2.out b hm) (fun h => HN.out.2.2 b hm b h rfl)
      have HO3 := Lib.hid hout; clear hout hb y5
      go_wp2_with fail
      go_ret
      refine ⟨by rw [hwt, Int.add_assoc]; rfl, ⟨_, _, _, f1, f2, rfl, h0, h1, h2, h3, h4, rfl, HTY3.out, HT3.out⟩, HB3.out, fun b b1 b2 => ?_⟩
      rw [HO3.out b (by omega) (fun h => b2 (List.mem_append_right _ h)), HO.out b (by omega) (fun h => b2 (List.mem_append_left _ h))]
      exact HE.out.block b b1
theorem ExIn.beside {w w' : World} {d : Nat} {v : Value} {t : Ex} {lo hi lo2 hi2 : Nat} (h : ExIn w d v t lo hi) (k : Kept lo2 hi2 w w') (hd : hi ≤ lo2 ∨ hi2 ≤ lo) : ExIn w' d v t lo hi := by
  obtain ⟨fp, h, hf, hz⟩ := h
  exact ⟨fp, h.kept k.1 fun b hbf => k.2 b (by have := (hf.2 b hbf).2; omega) (by have := hf.2 b hbf; omega), hf, Nat.le_trans hz k.1⟩
theorem markExIn (B d : Nat) (v : Value) (t : Ex) (lo hi : Nat) (k : Int) (w : World) (hB : B ≤ lo) (hBw : B ≤ w.heap.size) (hk0 : 0 ≤ k) (hk1 : k + t.wt + 1 ≤ 1099511627776) (h : ExIn w d v t lo hi) :
    Calls Try.prog 16 #[v, .int .i64 k] w fun e w' => e = .returned (.int .i64 (k + (t.wt : Int))) ∧ ExIn w' d v (t.markIn k) lo hi ∧ Below B w w' ∧ Kept lo hi w w' := by
  obtain ⟨fp, h, hf, hz⟩ := h
  refine (markEx B d v t fp k w hBw (fun b hb => by have := (hf.2 b hb).1; omega) hf.1 hk0 hk1 h).mono ?_
  rintro e w' ⟨rfl, h1, h2, h3⟩
  exact ⟨rfl, ⟨fp, h1, hf, Nat.le_trans hz h2.size⟩, h2, h2.size, fun b h4 h5 => h3 b h4 fun hm => by have := hf.2 b hm; omega⟩
end Go.Proofs.Ytcohfbdhdngplaa
