/-
  Proved: impl.HasUniqueHoles says whether the numbers of the holes and marks differ from one another; the memory that was there stays as it was.
-/
import Derived.Test.YtpioddfihaabdaaNodes
import Derived.Test.YtpioddfihaabdaaSetIn
import Derived.Test.YtpioddfihaabdaaHold
import Derived.BigQuiet
namespace Go.Proofs.Ytpioddfihaabdaa
open Go.RowKit Go.Shelf
attribute [local go_sem] Oper.semAt_some

theorem cell_of_box_u {W : World} {B : Nat} {v : Value} {t : TypeId} (h : W.heap[B]? = some (.cells #[v] t (0, 0))) : W.cell? ⟨B, 0, none⟩ = some v ∧ W.frozen? ⟨B, 0, none⟩ = false := by
  constructor <;> simp [World.cell?, World.frozen?, h]
theorem cell_new_u (W : World) (v : Value) (t : TypeId) : (W.alloc (.cells #[v] t)).cell? ⟨W.heap.size, 0, none⟩ = some v ∧ (W.alloc (.cells #[v] t)).frozen? ⟨W.heap.size, 0, none⟩ = false :=
  cell_of_box_u (World.alloc_heap_new W _)
theorem cell_alloc_u {W : World} {a : Addr} {v : Value} (o : Obj) (h : W.cell? a = some v) : (W.alloc o).cell? a = some v := cell_kept h (World.grownBy_alloc W o none) (fun r e => by cases e)
theorem frozen_alloc_u {W : World} {a : Addr} {v : Value} (o : Obj) (h : W.cell? a = some v) (hf : W.frozen? a = false) : (W.alloc o).frozen? a = false := (frozen_kept h (World.grownBy_alloc W o none) (fun r e => by cases e)).trans hf
theorem law_intU : Maps.Keyed Try.prog 3 := Maps.int_keyed Try.underlying3
theorem zero_boolU (w : World) : (zeroValue 4).run Try.prog w = .ok (.bool false) w := Try.zeroValue4 w
theorem wf64U {n : Int} (h0 : -9223372036854775808 ≤ n) (h1 : n ≤ 9223372036854775807) : (Lit.int .i64 n).wf = true := WalkArith.wf_i64 (by omega)
theorem key_intU (x : Int) (h0 : -9223372036854775808 ≤ x) (h1 : x ≤ 9223372036854775807) : keyOf Try.prog 3 (.int .i64 x) = some (.int .i64 x) :=
  Maps.keyOf_int_mk Try.underlying3 (wf64U h0 h1)
set_option maxRecDepth 100000 in
set_option maxHeartbeats 2000000 in
theorem isHoleIn (F : Fence) (n : Nat) (h7 : F.fn 22) (hro : F.round = none) (b off : Nat) (kd : Int) (W : World) (c0 : W.cell? ⟨b, off, none⟩ = some (.int .i64 kd)) :
    CallsIn F n Try.prog 22 #[.pointer (some ⟨b, off, none⟩)] W fun e w' => e = .returned (.bool (decide (kd = 1 ∨ kd = 14))) ∧ w' = W := by
  by_cases q1 : kd = 1
  · subst q1
    refine callsIn_of_wp Try.func22 rfl h7 ?_ hro
    simp only [Try.ntmps22, List.size_toArray, List.length_cons, List.length_nil, Nat.reduceAdd, Nat.reduceSub, Array.replicate_succ, Array.replicate_zero, List.push_toArray, List.append_toArray, List.nil_append, List.cons_append]
    gi_wp2
    go_ret
    exact ⟨rfl, rfl⟩
  · have q1b : (kd == 1) = false := by simp [q1]
    by_cases q2 : kd = 14
    · subst q2
      refine callsIn_of_wp Try.func22 rfl h7 ?_ hro
      simp only [Try.ntmps22, List.size_toArray, List.length_cons, List.length_nil, Nat.reduceAdd, Nat.reduceSub, Array.replicate_succ, Array.replicate_zero, List.push_toArray, List.append_toArray, List.nil_append, List.cons_append]
      gi_wp2
      go_ret
      exact ⟨rfl, rfl⟩
    · have q2b : (kd == 14) = false := by simp [q2]
      have e : Hid (decide (kd = 1 ∨ kd = 14) = false) := by show _ = _; simp [q1, q2]
      refine callsIn_of_wp Try.func22 rfl h7 ?_ hro
      simp only [Try.ntmps22, List.size_toArray, List.length_cons, List.length_nil, Nat.reduceAdd, Nat.reduceSub, Array.replicate_succ, Array.replicate_zero, List.push_toArray, List.append_toArray, List.nil_append, List.cons_append]
      gi_wp2
      go_ret
      exact ⟨by rw [e.out]; rfl, rfl⟩
theorem hnum_snoc {w0 : World} (a : List (NodeAt w0)) (x : NodeAt w0) : hnum (a ++ [x]) = hnum a ++ (if x.1.2.2.1 = 1 ∨ x.1.2.2.1 = 14 then [x.1.2.2.2] else []) := by rw [hnum_append]; simp [hnum]
theorem hnum_pre {w0 : World} {a b : List (NodeAt w0)} (h : a <+: b) : hnum a <+: hnum b := by
  obtain ⟨r, rfl⟩ := h
  rw [hnum_append]
  exact List.prefix_append _ _
set_option maxRecDepth 100000 in
set_option maxHeartbeats 4000000 in
theorem hasUnique_in (F : Fence) (hd : F.depth = none) (nn : Nat) (h3 : F.fn 11) (h4 : F.fn 17) (h5 : F.fn 25) (h6 : F.fn 26) (h7 : F.fn 22) (hro : F.round = none) (hn : 4 ≤ nn) (d : Nat) (v : Value) (t : Ex) (w : World) (h : ExAt w d v t) (hsz : t.bulk ≤ 1048576) :
    CallsIn F nn Try.prog 11 #[v] w fun e w' => e = .returned (.bool (decide t.holes.Nodup)) ∧ Below w.heap.size w w' := by
  have h1 : 1 ≤ nn := by omega
  have h2 : 1 ≤ nn - 1 - 1 := by omega
  have hmm := @run_makeMap Try.prog
  obtain ⟨k, nm, n, tk, ta, tn, tc, sa, sn, sc, rfl⟩ := ex_parts h
  have hb0 : Below w.heap.size w (w.alloc (.cells #[.int .i64 k, .string nm, .int .i64 n, .int .i64 tk, .slice ta tn tc, .slice sa sn sc] 35)) := below_alloc _ _
  have XA := BoxAt.new w #[.int .i64 k, .string nm, .int .i64 n, .int .i64 tk, .slice ta tn tc, .slice sa sn sc] 35
  obtain ⟨ys, hys, hyl, hyn, _⟩ := nodes_of (w.alloc (.cells #[.int .i64 k, .string nm, .int .i64 n, .int .i64 tk, .slice ta tn tc, .slice sa sn sc] 35)) d w.heap.size 0 t _ _ _ _ _ _ XA.1 ⟨XA.2 0, XA.2 1, XA.2 2, XA.2 3, XA.2 4, XA.2 5⟩ (h.below hb0)
  have hz : (w.alloc (.cells #[.int .i64 k, .string nm, .int .i64 n, .int .i64 tk, .slice ta tn tc, .slice sa sn sc] 35)).heap.size = w.heap.size + 1 := by simp
  have hr0 := cell_new_u (w.alloc (.cells #[.int .i64 k, .string nm, .int .i64 n, .int .i64 tk, .slice ta tn tc, .slice sa sn sc] 35)) (.bool false) 4
  rw [hz] at hr0
  have hm0 := SetAt.new Try.prog 3 4 (Lit.int .i64) ((w.alloc (.cells #[.int .i64 k, .string nm, .int .i64 n, .int .i64 tk, .slice ta tn tc, .slice sa sn sc] 35)).alloc (.cells #[.bool false] 4))
  rw [show ((w.alloc (.cells #[.int .i64 k, .string nm, .int .i64 n, .int .i64 tk, .slice ta tn tc, .slice sa sn sc] 35)).alloc (.cells #[.bool false] 4)).heap.size = w.heap.size + 1 + 1 from by simp] at hm0
  have hs0 := cell_new_u (((w.alloc (.cells #[.int .i64 k, .string nm, .int .i64 n, .int .i64 tk, .slice ta tn tc, .slice sa sn sc] 35)).alloc (.cells #[.bool false] 4)).alloc (.map #[] 0)) (.map (some (w.heap.size + 1 + 1))) 54
  rw [show (((w.alloc (.cells #[.int .i64 k, .string nm, .int .i64 n, .int .i64 tk, .slice ta tn tc, .slice sa sn sc] 35)).alloc (.cells #[.bool false] 4)).alloc (.map #[] 0)).heap.size = w.heap.size + 1 + 1 + 1 from by simp] at hs0
  have hb := cell_new_u ((((w.alloc (.cells #[.int .i64 k, .string nm, .int .i64 n, .int .i64 tk, .slice ta tn tc, .slice sa sn sc] 35)).alloc (.cells #[.bool false] 4)).alloc (.map #[] 0)).alloc (.cells #[.map (some (w.heap.size + 1 + 1))] 54)) (.pointer (some ⟨w.heap.size, 0, none⟩)) 48
  rw [show ((((w.alloc (.cells #[.int .i64 k, .string nm, .int .i64 n, .int .i64 tk, .slice ta tn tc, .slice sa sn sc] 35)).alloc (.cells #[.bool false] 4)).alloc (.map #[] 0)).alloc (.cells #[.map (some (w.heap.size + 1 + 1))] 54)).heap.size = w.heap.size + 1 + 1 + 1 + 1 from by simp] at hb
  have hB0 : Below (w.heap.size + 1) (w.alloc (.cells #[.int .i64 k, .string nm, .int .i64 n, .int .i64 tk, .slice ta tn tc, .slice sa sn sc] 35)) (((((w.alloc (.cells #[.int .i64 k, .string nm, .int .i64 n, .int .i64 tk, .slice ta tn tc, .slice sa sn sc] 35)).alloc (.cells #[.bool false] 4)).alloc (.map #[] 0)).alloc (.cells #[.map (some (w.heap.size + 1 + 1))] 54)).alloc (.cells #[.pointer (some ⟨w.heap.size, 0, none⟩)] 48)) := ((((Below.refl _ _).alloc (by simp) _).alloc (by simp) _).alloc (by simp) _).alloc (by simp) _
  have HB0 := Lib.hid hb0
  clear h XA hb0
  refine callsIn_of_wp_marks Try.func11 rfl h3 ?_ hro
  simp only [Try.ntmps11, List.size_toArray, List.length_cons, List.length_nil, Nat.reduceAdd, Nat.reduceSub, Array.replicate_succ, Array.replicate_zero, List.push_toArray, List.append_toArray, List.nil_append, List.cons_append]
  gi_wp2_with (gi_at_call 17; refine (nodes_in F (nn - 1) h4 hro _ _).mono ?_; rintro e w' ⟨rfl, rfl⟩)
  refine wpIn_rangeFunc_ownG hro h1 (gf := 25) (lb := #[.pointer (some ⟨w.heap.size + 1 + 1 + 1 + 1, 0, none⟩)]) rfl h5 (enters_of Try.func25 (by kernel_rfl) rfl)
    (nodes_stops F hd (nn - 1) h5 h6 hro (w.alloc (.cells #[.int .i64 k, .string nm, .int .i64 n, .int .i64 tk, .slice ta tn tc, .slice sa sn sc] 35)) (w.heap.size + 1 + 1 + 1 + 1) d w.heap.size 0 t ys _ (by simp) (by first | (simp; done) | (simp; omega)) (by rw [hz]; exact hB0) hb.1 hys) belowK_t (belowK_b (by first | (simp; done) | (simp; omega))) (Below.refl _ _) (fun _ => rfl)
    (fun pre W => ((W.cell? ⟨w.heap.size + 1, 0, none⟩ = some (.bool false) ∧ W.frozen? ⟨w.heap.size + 1, 0, none⟩ = false) ∧ W.cell? ⟨w.heap.size + 1 + 1 + 1, 0, none⟩ = some (.map (some (w.heap.size + 1 + 1))) ∧ SetAt Try.prog 3 4 (Lit.int .i64) W (w.heap.size + 1 + 1) pre.length (fun s => decide (s ∈ hnum pre)) ∧ (hnum pre).Nodup) ∧ Below (w.heap.size + 1) (w.alloc (.cells #[.int .i64 k, .string nm, .int .i64 n, .int .i64 tk, .slice ta tn tc, .slice sa sn sc] 35)) W)
    (fun c pre W => (c = .ret ∧ ¬ (hnum pre).Nodup ∧ W.cell? ⟨w.heap.size + 1, 0, none⟩ = some (.bool false)) ∧ Below (w.heap.size + 1) (w.alloc (.cells #[.int .i64 k, .string nm, .int .i64 n, .int .i64 tk, .slice ta tn tc, .slice sa sn sc] 35)) W)
    (OwnFrom.and (fun s A B row hs hg hr => ⟨⟨cell_kept hs.1.1 hg (fun r e => (hr r e).2), (frozen_kept hs.1.1 hg (fun r e => (hr r e).2)).trans hs.1.2⟩, cell_kept hs.2.1 hg (fun r e => (hr r e).2), hs.2.2.1.kept (hg.block _ hs.2.2.1.lt (fun e => by have := (hr _ e.symm).1; simp at this; omega)), hs.2.2.2⟩) (ownFrom_below (by simp) (by first | (simp; done) | (simp; omega))))
    (fun c => OwnFrom.and (fun s A B row hs hg hr => ⟨hs.1, hs.2.1, cell_kept hs.2.2 hg (fun r e => (hr r e).2)⟩) (ownFrom_below (by simp) (by first | (simp; done) | (simp; omega))))
    ⟨⟨⟨cell_alloc_u _ (cell_alloc_u _ (cell_alloc_u _ hr0.1)), frozen_alloc_u _ (cell_alloc_u _ (cell_alloc_u _ hr0.1)) (frozen_alloc_u _ (cell_alloc_u _ hr0.1) (frozen_alloc_u _ hr0.1 hr0.2))⟩, cell_alloc_u _ hs0.1, (hm0.below (below_alloc _ _)).below (below_alloc _ _), by simp [hnum]⟩, hB0⟩
    (fun x => { tmps := #[.agg #[.int .i64 k, .string nm, .int .i64 n, .int .i64 tk, .slice ta tn tc, .slice sa sn sc], .pointer (some ⟨w.heap.size, 0, none⟩), .pointer (some ⟨w.heap.size + 1, 0, none⟩), .pointer (some ⟨w.heap.size + 1 + 1 + 1, 0, none⟩), nodePtr x, .map (some (w.heap.size + 1 + 1)), .func (.func 25) #[] #[.pointer (some ⟨w.heap.size + 1 + 1 + 1 + 1, 0, none⟩)], nodePtr x, undef, undef, undef, undef, undef, undef, undef, undef, undef, undef, undef, undef, undef, undef], defers := [] }) ?assign ?body ?done ?stop
  case assign =>
    intro l x W K hK
    gi_wp2
    exact hK
  case body =>
    rintro l pre x W ⟨⟨⟨hcr, hfr⟩, hcs, hset, hnd⟩, hB⟩ hlen
    have hsn := Lib.hid (hnum_snoc pre x)
    generalize hpx : pre ++ [x] = px at hsn ⊢
    have hpl : px.length = pre.length + 1 := by rw [← hpx]; simp
    obtain ⟨⟨b, off, kd, num⟩, hxb, hxc, hxd, hn0, hn1⟩ := x
    dsimp only [nodePtr] at hxb hxc hxd hn0 hn1 hsn ⊢
    have hxb2 : b < w.heap.size + 1 := by rw [hz] at hxb; exact hxb
    have c0 : W.cell? ⟨b, off, none⟩ = some (.int .i64 kd) := (hB.cell (p := ⟨b, off, none⟩) hxb2).trans hxc
    have c2 : W.cell? ⟨b, off + 2, none⟩ = some (.int .i64 num) := (hB.cell (p := ⟨b, off + 2, none⟩) hxb2).trans hxd
    have hmx : Try.prog.follows .mixedOrders = true := by kernel_rfl
    have hih := isHoleIn F (nn - 1 - 1 - 1) h7 hro b off kd W c0
    have hk := key_intU num hn0 hn1
    clear hpx
    by_cases q : kd = 1 ∨ kd = 14
    · have hq : decide (kd = 1 ∨ kd = 14) = true := decide_eq_true q
      have hsn2 : hnum px = hnum pre ++ [num] := by rw [hsn.out, if_pos q]
      rw [hq] at hih
      by_cases m : num ∈ hnum pre
      · have hm : decide (num ∈ hnum pre) = true := decide_eq_true m
        have hbad : ¬ (hnum px).Nodup := by
          rw [hsn2]
          intro h
          exact (List.nodup_append.1 h).2.2 num m num (by simp) rfl
        have hsd := hset.below (below_drew W)
        have hlk : Sem.run Try.prog (Instr.lookup 54 (.map (some (w.heap.size + 1 + 1))) (.int .i64 num) false) W.drew = .ok (.bool true) W.drew := by
          have := set_run hsd 54 law_intU Try.underlying54 Try.underlying4 (zero_boolU _) (.int .i64 num) num hk
          rw [this, hm]
        gi_wp2_with (gi_at_call 22; refine (CallsIn.inRound l hih).mono ?_; rintro e w' ⟨he, hw⟩; subst he; subst hw)
        gi_region_with_o (fail)
        all_goals gi_wp2
        all_goals (try go_bits)
        all_goals exact ⟨((KeepsOthers.drew _).trans (KeepsOthers.setCell _ _ _)).from _, ⟨rfl, hbad, World.cell?_setCell_same' _ _ _ (by rw [hcr]; rfl)⟩, hB.drew.setCell (p := ⟨w.heap.size + 1, 0, none⟩) (Nat.le_refl _) _⟩
      · have hm : decide (num ∈ hnum pre) = false := decide_eq_false m
        have hgood : (hnum px).Nodup := by
          rw [hsn2, List.nodup_append]
          exact ⟨hnd, by simp, fun a ha b hb hab => by simp only [List.mem_singleton] at hb; subst hb; subst hab; exact m ha⟩
        have hsd := hset.below (below_drew W)
        have hlk : Sem.run Try.prog (Instr.lookup 54 (.map (some (w.heap.size + 1 + 1))) (.int .i64 num) false) W.drew = .ok (.bool false) W.drew := by
          have := set_run hsd 54 law_intU Try.underlying54 Try.underlying4 (zero_boolU _) (.int .i64 num) num hk
          rw [this, hm]
        obtain ⟨w1, hup, hset1, hg1⟩ := set_update (hsd.below (below_drew W.drew)) (by unfold maxLen; omega) 54 law_intU Try.underlying54 Try.underlying4 (.int .i64 num) num true hk (fun _ h => by injection h) trivial
        have hf : (fun x => if x = num then true else decide (x ∈ hnum pre)) = (fun s => decide (s ∈ hnum px)) := by
          funext s
          rw [hsn2]
          by_cases e : s = num <;> simp [e]
        obtain ⟨D0, ⟨es0, ck0, hh0, _⟩, _⟩ := hset
        have hcells : ∀ r, some (w.heap.size + 1 + 1) = some r → ∃ o, W.drew.drew.heap[r]? = some o ∧ o.isCells = false := fun r e => by cases e; exact ⟨_, hh0, rfl⟩
        have hbd : Below (w.heap.size + 1) _ W.drew.drew := hB.drew.drew
        have hbs : w.heap.size + 1 ≤ W.drew.drew.heap.size := by have := hbd.size; rw [hz] at this; exact this
        have hset2 : SetAt Try.prog 3 4 (Lit.int .i64) w1 (w.heap.size + 1 + 1) px.length (fun s => decide (s ∈ hnum px)) := by rw [← hf, hpl]; exact hset1
        have hbb : ∀ k, some (w.heap.size + 1 + 1) = some k → w.heap.size + 1 ≤ k := fun k e => by cases e; simp
        have hkf := KeepsFrom.of_grownBy hg1 (B := (((((w.alloc (.cells #[.int .i64 k, .string nm, .int .i64 n, .int .i64 tk, .slice ta tn tc, .slice sa sn sc] 35)).alloc (.cells #[.bool false] 4)).alloc (.map #[] 0)).alloc (.cells #[.map (some (w.heap.size + 1 + 1))] 54)).alloc (.cells #[.pointer (some ⟨w.heap.size, 0, none⟩)] 48)).heap.size) (fun j e => by cases e; first | (simp; done) | (simp; omega))
        have hk1 : w1.cell? ⟨w.heap.size + 1, 0, none⟩ = some (.bool false) := cell_kept (W := W.drew.drew) hcr hg1 hcells
        have hk2 : w1.frozen? ⟨w.heap.size + 1, 0, none⟩ = false := (frozen_kept (W := W.drew.drew) hcr hg1 hcells).trans hfr
        have hk3 : w1.cell? ⟨w.heap.size + 1 + 1 + 1, 0, none⟩ = some (.map (some (w.heap.size + 1 + 1))) := cell_kept (W := W.drew.drew) hcs hg1 hcells
        gi_wp2_with (gi_at_call 22; refine (CallsIn.inRound l hih).mono ?_; rintro e w' ⟨he, hw⟩; subst he; subst hw)
        gi_region_with_o (fail)
        all_goals gi_wp2
        all_goals gi_region_with_o (fail)
        all_goals gi_wp2
        all_goals (try go_bits)
        all_goals exact ⟨(((KeepsOthers.drew _).trans (KeepsOthers.drew _)).from _).trans hkf, ((Below.refl _ _).drew.drew).grown hg1 (by rw [hz]; exact hbs) (fun k e => by rw [hz]; exact hbb k e), ⟨⟨hk1, hk2⟩, hk3, hset2, hgood⟩, hbd.grown hg1 hbs hbb⟩
    · have hq : decide (kd = 1 ∨ kd = 14) = false := decide_eq_false q
      have hsn2 : hnum px = hnum pre := by rw [hsn.out, if_neg q, List.append_nil]
      rw [hq] at hih
      gi_wp2_with (gi_at_call 22; refine (CallsIn.inRound l hih).mono ?_; rintro e w' ⟨rfl, rfl⟩)
      exact ⟨KeepsFrom.refl _ _, Below.refl _ _, ⟨⟨hcr, hfr⟩, hcs, by rw [hpl, hsn2]; exact hset.more (by omega), by rw [hsn2]; exact hnd⟩, hB⟩
  case done =>
    rintro D zs W hD rfl ⟨⟨⟨hcr, hfr⟩, hcs, hset, hnd⟩, hB⟩ hK
    rw [hyn] at hnd
    gi_wp2
    have hK' := (KeepsOthers.setCell W ⟨w.heap.size + 1, 0, none⟩ (.bool true)).same D _ hK rfl
    refine ⟨by simp, .inl ⟨_, _, rfl, run_takeDeferred hK', ?_⟩⟩
    have hc5 := cell_kept (World.cell?_setCell_same' W ⟨w.heap.size + 1, 0, none⟩ (.bool true) (by rw [hcr]; rfl)) (grownBy_putObj' _ D (.deferred none)) (fun r e => by cases e; exact ⟨_, hK', rfl⟩)
    refine ⟨.bool true, ?_, by rw [decide_eq_true hnd], HB0.out.trans (((hB.setCell (p := ⟨w.heap.size + 1, 0, none⟩) (by simp) _).trans (belowK_b (w := (w.alloc (.cells #[.int .i64 k, .string nm, .int .i64 n, .int .i64 tk, .slice ta tn tc, .slice sa sn sc] 35))) (by simp) _ D _ _ (by simp at hD ⊢; omega) hK' rfl rfl)).mono (by omega))⟩
    simp [results, Try.f11, go_sem, hc5]
  case stop =>
    rintro D c pre W hD hpre ⟨⟨rfl, hnd, hcr⟩, hB⟩ hK
    have hnd2 : ¬ t.holes.Nodup := fun h => hnd (h.sublist (by rw [← hyn]; exact (hnum_pre hpre).sublist))
    gi_wp2
    refine ⟨by simp, .inl ⟨_, _, rfl, run_takeDeferred hK, ?_⟩⟩
    have hc5 := cell_kept hcr (grownBy_putObj' _ D (.deferred none)) (fun r e => by cases e; exact ⟨_, hK, rfl⟩)
    refine ⟨.bool false, ?_, by rw [decide_eq_false hnd2], HB0.out.trans ((hB.trans (belowK_b (w := (w.alloc (.cells #[.int .i64 k, .string nm, .int .i64 n, .int .i64 tk, .slice ta tn tc, .slice sa sn sc] 35))) (by simp) W D _ _ (by simp at hD ⊢; omega) hK rfl rfl)).mono (by omega))⟩
    simp [results, Try.f11, go_sem, hc5]
theorem implHasUnique (d : Nat) (v : Value) (t : Ex) (w : World) (h : ExAt w d v t) (hsz : t.bulk ≤ 1048576) :
    Calls Try.prog 11 #[v] w fun e w' => e = .returned (.bool (decide t.holes.Nodup)) ∧ Below w.heap.size w w' :=
  (callsIn_wide (n := 4)).1 (hasUnique_in Fence.wide rfl 4 trivial trivial trivial trivial trivial rfl (by omega) d v t w h hsz)
end Go.Proofs.Ytpioddfihaabdaa
