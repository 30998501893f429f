/-
  Proved: impl.CountMarks counts the nodes of one kind of an expression; the memory that was there stays as it was.
-/
import Derived.Test.YtpioddfihaabdaaNodes
import Derived.Test.YtpioddfihaabdaaHold
namespace Go.Proofs.Ytpioddfihaabdaa
open Go.RowKit Go.Shelf
attribute [local go_sem] Oper.semAt_some

theorem cell_of_box_n {W : World} {B : Nat} {v : Value} {t : TypeId} (h : W.heap[B]? = some (.cells #[v] t (0, 0))) : W.cell? ⟨B, 0, none⟩ = some v ∧ W.frozen? ⟨B, 0, none⟩ = false := by
  constructor <;> simp [World.cell?, World.frozen?, h]
theorem cell_new_n (W : World) (v : Value) (t : TypeId) : (W.alloc (.cells #[v] t)).cell? ⟨W.heap.size, 0, none⟩ = some v ∧ (W.alloc (.cells #[v] t)).frozen? ⟨W.heap.size, 0, none⟩ = false :=
  cell_of_box_n (World.alloc_heap_new W _)
theorem cell_alloc_n {W : World} {a : Addr} {v : Value} (o : Obj) (h : W.cell? a = some v) : (W.alloc o).cell? a = some v := cell_kept h (World.grownBy_alloc W o none) (fun r e => by cases e)
theorem frozen_alloc_n {W : World} {a : Addr} {v : Value} (o : Obj) (h : W.cell? a = some v) (hf : W.frozen? a = false) : (W.alloc o).frozen? a = false := (frozen_kept h (World.grownBy_alloc W o none) (fun r e => by cases e)).trans hf
theorem kc_snoc {w0 : World} (K : Int) (a : List (NodeAt w0)) (x : NodeAt w0) : kc K (a ++ [x]) = kc K a + (if x.1.2.2.1 = K then 1 else 0) := by rw [kc_append]; simp [kc]
set_option maxRecDepth 100000 in
set_option maxHeartbeats 4000000 in
theorem implCountMarks_in (F : Fence) (hd : F.depth = none) (nn : Nat) (h3 : F.fn 8) (h4 : F.fn 17) (h5 : F.fn 25) (h6 : F.fn 26) (hro : F.round = none) (hn : 3 ≤ nn) (d : Nat) (v : Value) (t : Ex) (w : World) (h : ExAt w d v t) (hsz : t.bulk ≤ 1048576) :
    CallsIn F nn Try.prog 8 #[v] w fun e w' => e = .returned (.int .i64 ((t.kcount 14 : Nat) : Int)) ∧ Below w.heap.size w w' := by
  have h1 : 1 ≤ nn := by omega
  obtain ⟨k, nm, n, tk, ta, tn, tc, sa, sn, sc, rfl⟩ := ex_parts h
  have hb0 : Below w.heap.size w (w.alloc (.cells #[.int .i64 k, .string nm, .int .i64 n, .int .i64 tk, .slice ta tn tc, .slice sa sn sc] 35)) := below_alloc _ _
  have XA := BoxAt.new w #[.int .i64 k, .string nm, .int .i64 n, .int .i64 tk, .slice ta tn tc, .slice sa sn sc] 35
  obtain ⟨ys, hys, hyl, _, hkc⟩ := nodes_of (w.alloc (.cells #[.int .i64 k, .string nm, .int .i64 n, .int .i64 tk, .slice ta tn tc, .slice sa sn sc] 35)) d w.heap.size 0 t _ _ _ _ _ _ XA.1 ⟨XA.2 0, XA.2 1, XA.2 2, XA.2 3, XA.2 4, XA.2 5⟩ (h.below hb0)
  have hkc1 := hkc 14
  have hz : (w.alloc (.cells #[.int .i64 k, .string nm, .int .i64 n, .int .i64 tk, .slice ta tn tc, .slice sa sn sc] 35)).heap.size = w.heap.size + 1 := by simp
  have hs := cell_new_n (w.alloc (.cells #[.int .i64 k, .string nm, .int .i64 n, .int .i64 tk, .slice ta tn tc, .slice sa sn sc] 35)) (.int .i64 0) 3
  rw [hz] at hs
  have hb := cell_new_n ((w.alloc (.cells #[.int .i64 k, .string nm, .int .i64 n, .int .i64 tk, .slice ta tn tc, .slice sa sn sc] 35)).alloc (.cells #[.int .i64 0] 3)) (.pointer (some ⟨w.heap.size, 0, none⟩)) 48
  rw [show ((w.alloc (.cells #[.int .i64 k, .string nm, .int .i64 n, .int .i64 tk, .slice ta tn tc, .slice sa sn sc] 35)).alloc (.cells #[.int .i64 0] 3)).heap.size = w.heap.size + 1 + 1 from by simp] at hb
  have hB0 : Below (w.heap.size + 1) (w.alloc (.cells #[.int .i64 k, .string nm, .int .i64 n, .int .i64 tk, .slice ta tn tc, .slice sa sn sc] 35)) (((w.alloc (.cells #[.int .i64 k, .string nm, .int .i64 n, .int .i64 tk, .slice ta tn tc, .slice sa sn sc] 35)).alloc (.cells #[.int .i64 0] 3)).alloc (.cells #[.pointer (some ⟨w.heap.size, 0, none⟩)] 48)) := ((Below.refl _ _).alloc (by simp) _).alloc (by simp) _
  have HB0 := Lib.hid hb0
  clear h XA hkc hb0
  refine callsIn_of_wp_marks Try.func8 rfl h3 ?_ hro
  simp only [Try.ntmps8, List.size_toArray, List.length_cons, List.length_nil, Nat.reduceAdd, Nat.reduceSub, Array.replicate_succ, Array.replicate_zero, List.push_toArray, List.append_toArray, List.nil_append, List.cons_append]
  gi_wp2_with (gi_at_call 17; refine (nodes_in F (nn - 1) h4 hro _ _).mono ?_; rintro e w' ⟨rfl, rfl⟩)
  refine wpIn_rangeFunc_ownF hro h1 (gf := 25) (lb := #[.pointer (some ⟨w.heap.size + 1 + 1, 0, none⟩)]) rfl h5 (enters_of Try.func25 (by kernel_rfl) rfl)
    (nodes_stops F hd (nn - 1) h5 h6 hro (w.alloc (.cells #[.int .i64 k, .string nm, .int .i64 n, .int .i64 tk, .slice ta tn tc, .slice sa sn sc] 35)) (w.heap.size + 1 + 1) d w.heap.size 0 t ys _ (by simp) (by first | (simp; done) | (simp; omega)) (by rw [hz]; exact hB0) hb.1 hys) belowK_t (belowK_b (by first | (simp; done) | (simp; omega))) (Below.refl _ _) (fun _ => rfl)
    (fun pre W => (W.cell? ⟨w.heap.size + 1, 0, none⟩ = some (.int .i64 ((kc 14 pre : Nat) : Int)) ∧ W.frozen? ⟨w.heap.size + 1, 0, none⟩ = false) ∧ Below (w.heap.size + 1) (w.alloc (.cells #[.int .i64 k, .string nm, .int .i64 n, .int .i64 tk, .slice ta tn tc, .slice sa sn sc] 35)) W)
    (fun _ _ _ => False)
    (OwnFrom.and (Own.from (fun s A B row hs hg hr => ⟨cell_kept hs.1 hg hr, (frozen_kept hs.1 hg hr).trans hs.2⟩) _) (ownFrom_below (by simp) (by first | (simp; done) | (simp; omega))))
    (fun _ _ _ _ _ hs _ _ => hs)
    ⟨⟨cell_alloc_n _ hs.1, frozen_alloc_n _ hs.1 hs.2⟩, hB0⟩
    (fun x => { tmps := #[.agg #[.int .i64 k, .string nm, .int .i64 n, .int .i64 tk, .slice ta tn tc, .slice sa sn sc], .pointer (some ⟨w.heap.size, 0, none⟩), .int .i64 0, .pointer (some ⟨w.heap.size + 1, 0, none⟩), nodePtr x, .func (.func 25) #[] #[.pointer (some ⟨w.heap.size + 1 + 1, 0, none⟩)], nodePtr x, undef, undef, undef, undef, undef, undef, undef, undef], defers := [] }) ?assign ?body ?done ?stop
  case assign =>
    intro l x W K hK
    gi_wp2
    exact hK
  case body =>
    rintro l pre x W ⟨⟨hc, hf⟩, hB⟩ hlen
    have hk := kc_le 14 pre
    have hk2 : kc 14 pre ≤ 1048577 := by omega
    have hsn := Lib.hid (kc_snoc 14 pre x)
    generalize hpx : pre ++ [x] = px at hsn ⊢
    obtain ⟨⟨b, off, kd, num⟩, hxb, hxc, hxd⟩ := x
    dsimp only [nodePtr] at hxb hxc hsn ⊢
    have c0 : W.cell? ⟨b, off, none⟩ = some (.int .i64 kd) := (hB.cell (p := ⟨b, off, none⟩) (by rw [hz] at hxb; exact hxb)).trans hxc
    clear hpx
    by_cases q : kd = 14
    · subst q
      have hsn2 : kc 14 px = kc 14 pre + 1 := by rw [hsn.out]; simp
      gi_wp2
      exact ⟨KeepsOthers.setCell _ _ _, (Below.refl _ W).setCell (p := ⟨w.heap.size + 1, 0, none⟩) (Nat.le_refl _) _, ⟨by rw [hsn2]; exact World.cell?_setCell_same' _ _ _ (by rw [hc]; rfl), by rw [World.frozen?_setCell]; exact hf⟩, hB.setCell (p := ⟨w.heap.size + 1, 0, none⟩) (Nat.le_refl _) _⟩
    · have q' : (kd == 14) = false := by simp [q]
      have hsn2 : kc 14 px = kc 14 pre := by rw [hsn.out]; simp [q]
      gi_wp2
      exact ⟨KeepsOthers.refl _, Below.refl _ _, ⟨by rw [hsn2]; exact hc, hf⟩, hB⟩
  case done =>
    rintro D zs W hD rfl ⟨⟨hc, _⟩, hB⟩ hK
    gi_wp2
    refine ⟨by simp, .inl ⟨_, _, rfl, run_takeDeferred hK, ?_⟩⟩
    refine ⟨_, results_tmp rfl _ _ _, (by first | rfl | (show Ending.returned (Value.int IntKind.i64 ((kc 14 zs : Nat) : Int)) = _; rw [hkc1])), HB0.out.trans ((hB.trans (belowK_b (w := (w.alloc (.cells #[.int .i64 k, .string nm, .int .i64 n, .int .i64 tk, .slice ta tn tc, .slice sa sn sc] 35))) (by simp) W D _ _ (by simp at hD ⊢; omega) hK rfl rfl)).mono (by omega))⟩
  case stop =>
    rintro D c pre W _ _ h _
    exact h.elim
theorem implCountMarks (d : Nat) (v : Value) (t : Ex) (w : World) (h : ExAt w d v t) (hsz : t.bulk ≤ 1048576) :
    Calls Try.prog 8 #[v] w fun e w' => e = .returned (.int .i64 ((t.kcount 14 : Nat) : Int)) ∧ Below w.heap.size w w' :=
  (callsIn_wide (n := 3)).1 (implCountMarks_in Fence.wide rfl 3 trivial trivial trivial trivial rfl (by omega) d v t w h hsz)
end Go.Proofs.Ytpioddfihaabdaa
