/-
  Proved: spec.SubtermAt copies the node at a path; the memory that was there stays as it was.
-/
import Derived.Test.YtimigpdbegfjaaaSubEx
import Derived.Test.YtimigpdbegfjaaaSpecExCopy
import Derived.Test.YtimigpdbegfjaaaSpecIn
import Derived.Test.YtimigpdbegfjaaaExIn
import Derived.Test.YtimigpdbegfjaaaHold
import Derived.Test.YtimigpdbegfjaaaPut
import Derived.BigQuiet
import Derived.Deep.QuietTactic
namespace Go.Proofs.Ytimigpdbegfjaaa
open Go.RowKit

def exNil : Ex := .node 0 ⟨#[]⟩ 0 (.node 0 []) []
/-- What the search for a node at a path gives: a copy of it, or an empty expression, and whether it is there. -/
def SubEnd (d : Nat) (r : Option Ex) (w : World) (e : Ending) (w' : World) : Prop :=
  ∃ s, e = .returned (.tuple #[s, .bool r.isSome]) ∧ ExIn w' d s (r.getD exNil) w.heap.size w'.heap.size ∧ Below w.heap.size w w'
theorem nil_own (w : World) (d : Nat) : ExOwn w (d + 2) (.agg #[.int .i64 0, .string ⟨#[]⟩, .int .i64 0, .int .i64 0, .slice none 0 0, .slice none 0 0]) exNil [] := by
  refine ⟨.int .i64 0, .slice none 0 0, .slice none 0 0, [], [], rfl, by omega, by omega, by omega, by omega, by decide, rfl, ?_, ?_⟩
  · exact ⟨_, rfl, by omega, by omega, none, 0, [], [], rfl, Nat.le_refl _, by omega, rfl, rfl, (fun b hb => by cases hb), fun j hj => by simp at hj⟩
  · exact ⟨none, 0, [], [], rfl, Nat.le_refl _, by omega, rfl, rfl, (fun b hb => by cases hb), fun j hj => by simp at hj⟩
theorem ex_deep {w : World} {d : Nat} {v : Value} {e : Ex} (h : ExAt w d v e) : ∃ c, d = c + 2 := by
  cases d with
  | zero => exact h.elim
  | succ d =>
    cases e with
    | node kd nm n ty es =>
      obtain ⟨c3, c4, sl, _, _, _, _, _, _, ht, _⟩ := h
      cases d with
      | zero => exact ht.elim
      | succ d => exact ⟨d, rfl⟩
theorem ExIn.stored {w : World} {d : Nat} {v : Value} {t : Ex} {lo hi q j : Nat} {u : Value} (h : ExIn w d v t lo hi) (hq : q < lo) : ExIn (w.setCell ⟨q, j, none⟩ u) d v t lo hi := by
  obtain ⟨fp, h, hf, hz⟩ := h
  refine ⟨fp, h.kept (by simp) fun b hb => ?_, hf, by simpa using hz⟩
  have := (hf.2 b hb).1
  exact heap_setCell_other _ _ _ _ (by simp; omega)
theorem ExIn.wide {w : World} {d : Nat} {v : Value} {t : Ex} {lo hi lo2 hi2 : Nat} (h : ExIn w d v t lo hi) (h1 : lo2 ≤ lo) (h2 : hi ≤ hi2) (h3 : hi2 ≤ w.heap.size) : ExIn w d v t lo2 hi2 := by
  obtain ⟨fp, h, hf, hz⟩ := h
  exact ⟨fp, h, hf.mono h1 h2, h3⟩
set_option maxRecDepth 100000 in
set_option maxHeartbeats 4000000 in
theorem specSub (d : Nat) (v1 v2 : Value) (e : Ex) (ps : List Int) (w : World) (h : ExAt w d v1 e) (hp : Ints w v2 ps) (hsz : e.bulk ≤ 1048576) (hn : ps.length ≤ 1048576) :
    Calls Try.prog 56 #[v1, v2] w (SubEnd d (e.sub ps) w) := by
  obtain ⟨c, rfl⟩ := ex_deep h
  obtain ⟨xk, xnm, xn, xtk, xta, xtn, xtc, xa, xm, xc, rfl⟩ := ex_parts h
  obtain ⟨pa, pc, rfl, hpc, hpat⟩ := hp
  have HP := Lib.hid hpat; clear hpat
  have HSZ := Lib.hid hsz; clear hsz
  have hb0 : Below w.heap.size w ((w.alloc (.cells #[.int .i64 xk, .string xnm, .int .i64 xn, .int .i64 xtk, .slice xta xtn xtc, .slice xa xm xc] 37)).alloc (.cells #[.int .i64 0, .string ⟨#[]⟩, .int .i64 0, .int .i64 0, .slice none 0 0, .slice none 0 0] 37)) := ((Below.refl _ _).alloc (Nat.le_refl _) _).alloc (by simp) _
  have HX0 : Hid (ExAt w (c + 2) (.agg #[.int .i64 xk, .string xnm, .int .i64 xn, .int .i64 xtk, .slice xta xtn xtc, .slice xa xm xc]) e) := h
  have XA : Hid (BoxAt ((w.alloc (.cells #[.int .i64 xk, .string xnm, .int .i64 xn, .int .i64 xtk, .slice xta xtn xtc, .slice xa xm xc] 37)).alloc (.cells #[.int .i64 0, .string ⟨#[]⟩, .int .i64 0, .int .i64 0, .slice none 0 0, .slice none 0 0] 37)) w.heap.size #[.int .i64 xk, .string xnm, .int .i64 xn, .int .i64 xtk, .slice xta xtn xtc, .slice xa xm xc]) := (BoxAt.new _ _ _).below (below_alloc _ _)
  have XR : Hid (BoxAt ((w.alloc (.cells #[.int .i64 xk, .string xnm, .int .i64 xn, .int .i64 xtk, .slice xta xtn xtc, .slice xa xm xc] 37)).alloc (.cells #[.int .i64 0, .string ⟨#[]⟩, .int .i64 0, .int .i64 0, .slice none 0 0, .slice none 0 0] 37)) (w.heap.size + 1) #[.int .i64 0, .string ⟨#[]⟩, .int .i64 0, .int .i64 0, .slice none 0 0, .slice none 0 0]) := box_at (BoxAt.new _ _ _) (by simp)
  have FA : Hid (FreeAt ((w.alloc (.cells #[.int .i64 xk, .string xnm, .int .i64 xn, .int .i64 xtk, .slice xta xtn xtc, .slice xa xm xc] 37)).alloc (.cells #[.int .i64 0, .string ⟨#[]⟩, .int .i64 0, .int .i64 0, .slice none 0 0, .slice none 0 0] 37)) w.heap.size) := (FreeAt.new _ _ _).below (below_alloc _ _)
  have FR : Hid (FreeAt ((w.alloc (.cells #[.int .i64 xk, .string xnm, .int .i64 xn, .int .i64 xtk, .slice xta xtn xtc, .slice xa xm xc] 37)).alloc (.cells #[.int .i64 0, .string ⟨#[]⟩, .int .i64 0, .int .i64 0, .slice none 0 0, .slice none 0 0] 37)) (w.heap.size + 1)) := free_at (FreeAt.new _ _ _) (by simp)
  have hz0 : ((w.alloc (.cells #[.int .i64 xk, .string xnm, .int .i64 xn, .int .i64 xtk, .slice xta xtn xtc, .slice xa xm xc] 37)).alloc (.cells #[.int .i64 0, .string ⟨#[]⟩, .int .i64 0, .int .i64 0, .slice none 0 0, .slice none 0 0] 37)).heap.size = w.heap.size + 2 := by simp
  have B0 := Lib.hid hb0
  clear hb0 h
  go_enter Try.func56, Try.ntmps56
  go_wp2_with fail
  go_loopw [6] (fun i wr => ∃ (k : Nat) (x : Ex) (xk : Int) (xnm : ByteArray) (xn xtk : Int) (xta : Option Addr) (xtn xtc : Nat) (xa : Option Addr) (xm xc : Nat), k ≤ ps.length ∧ i = .int .i64 k ∧ BoxAt wr w.heap.size #[.int .i64 xk, .string xnm, .int .i64 xn, .int .i64 xtk, .slice xta xtn xtc, .slice xa xm xc] ∧ BoxAt wr (w.heap.size + 1) #[.int .i64 0, .string ⟨#[]⟩, .int .i64 0, .int .i64 0, .slice none 0 0, .slice none 0 0] ∧ FreeAt wr w.heap.size ∧ FreeAt wr (w.heap.size + 1) ∧ wr.heap.size = w.heap.size + 2 ∧ ExAt w (c + 2) (.agg #[.int .i64 xk, .string xnm, .int .i64 xn, .int .i64 xtk, .slice xta xtn xtc, .slice xa xm xc]) x ∧ x.bulk ≤ 1048576 ∧ e.sub ps = x.sub (ps.drop k) ∧ Below w.heap.size w wr) (fun i _ => ps.length - (intOf i).toNat)
  case atStart => exact ⟨0, e, xk, xnm, xn, xtk, xta, xtn, xtc, xa, xm, xc, by omega, rfl, XA.out, XR.out, FA.out, FR.out, hz0, HX0.out, HSZ.out, by simp, B0.out⟩
  clear XA XR FA FR hz0 B0 HX0
  case round =>
    obtain ⟨k, x, yk, ynm, yn, ytk, yta, ytn, ytc, ya, ym, yc, hk, rfl, hxa, hxr, hfa, hfr, hz, hex, hxs, hsub, hb⟩ := hrel
    have HSUB := Lib.hid hsub; clear hsub
    have XA := Lib.hid hxa
    have XR := Lib.hid hxr
    have FA := Lib.hid hfa
    have FR := Lib.hid hfr
    have HEX := Lib.hid hex
    have HXS := Lib.hid hxs
    have HB := Lib.hid hb
    clear hxa hxr hfa hfr hxs hb
    by_cases hlt : k < ps.length
    · obtain ⟨bp, offp, rfl, hblp, hcp⟩ := HP.out k hlt
      obtain ⟨rfl, hmc, hc2, hrow⟩ := ex_row hex
      have HROW := Lib.hid hrow; clear hrow hex
      have HDR := Lib.hid (drop_at ps k hlt)
      obtain ⟨p, hp⟩ : ∃ p, p = ps[k] := ⟨_, rfl⟩
      rw [← hp] at hcp HDR
      clear hp
      have cp : wr.cell? ⟨bp, offp + k, none⟩ = some (.int .i64 p) := (HB.out.cell (p := ⟨bp, offp + k, none⟩) hblp).trans hcp
      have HCP := Lib.hid hcp
      clear hcp
      have a5 := XA.out.2 5
      have CI : ∀ W, Calls Try.prog 103 #[.int .i64 p, .int .i64 0, .int .i64 ((x.parts.length : Int) - 1)] W fun e w' => e = .returned (.bool (decide (0 ≤ p) && decide (p ≤ (x.parts.length : Int) - 1))) ∧ w' = W := fun W => specIn p 0 _ W
      have hwrap : IntKind.i64.wrap ((x.parts.length : Int) - 1) = (x.parts.length : Int) - 1 := IntWalk.i64_in _ (by omega)
      by_cases q : 0 ≤ p ∧ p ≤ (x.parts.length : Int) - 1
      · obtain ⟨m, rfl⟩ : ∃ m : Nat, p = m := ⟨p.toNat, by omega⟩
        have hm : m < x.parts.length := by omega
        have HN : Hid (e.sub ps = (x.parts[m]).sub (ps.drop (k + 1))) := by
          show _ = _
          rw [HSUB.out, HDR.out]
          exact sub_step (by omega) (by simpa using hm)
        have HM : Hid ((x.parts[m]).bulk ≤ 1048576) := Nat.le_trans (part_bulk hm) HXS.out
        rw [show (decide ((0 : Int) ≤ (m : Int)) && decide ((m : Int) ≤ (x.parts.length : Int) - 1)) = true from by rw [decide_eq_true q.1, decide_eq_true q.2]; rfl] at CI
        have HCI := Lib.hid CI; clear CI q
        obtain ⟨bn, offn, z0, z1, z2, z3, z4, z5, rfl, hbn, f0, f1, f2, f3, f4, f5, hz6⟩ := HROW.out m hm
        obtain ⟨zk, znm, zn, ztk, zta, ztn, ztc, za, zm, zc, rfl, rfl, rfl, rfl, rfl, rfl⟩ := ex_cells hz6
        have HZ := Lib.hid hz6
        have hne : bn ≠ w.heap.size := by omega
        go_wp2_with fail
        go_quiet ((go_at_call 103; exact Calls.quiet_of_same (HCI.out _)))
        go_wp2_with fail
        have hb : Below wr.heap.size wr (wr.drewN nq) := ⟨rfl, rfl, rfl, Nat.le_refl _, fun _ _ => rfl⟩
        replace XA := Lib.hid (XA.out.below hb)
        replace XR := Lib.hid (XR.out.below hb)
        replace FA := Lib.hid (FA.out.below hb)
        replace FR := Lib.hid (FR.out.below hb)
        replace HB := Lib.hid (below_thru HB.out (Nat.le_refl _) hb)
        have hzq : (wr.drewN nq).heap.size = w.heap.size + 2 := hz
        clear hb a5 cp hz
        generalize wr.drewN nq = wq at XA XR FA FR HB hzq ⊢
        have cp : wq.cell? ⟨bp, offp + k, none⟩ = some (.int .i64 (m : Int)) := (HB.out.cell (p := ⟨bp, offp + k, none⟩) hblp).trans HCP.out
        have g0 := (HB.out.cell (p := ⟨bn, offn + m * 6, none⟩) hbn).trans f0
        have g1 := (HB.out.cell (p := ⟨bn, offn + m * 6 + 1, none⟩) hbn).trans f1
        have g2 := (HB.out.cell (p := ⟨bn, offn + m * 6 + 2, none⟩) hbn).trans f2
        have g3 := (HB.out.cell (p := ⟨bn, offn + m * 6 + 3, none⟩) hbn).trans f3
        have g4 := (HB.out.cell (p := ⟨bn, offn + m * 6 + 4, none⟩) hbn).trans f4
        have g5 := (HB.out.cell (p := ⟨bn, offn + m * 6 + 5, none⟩) hbn).trans f5
        have a0 := XA.out.2 0
        have q0 := FA.out.2 0
        have a1 := XA.out.2 1
        have q1 := FA.out.2 1
        have a2 := XA.out.2 2
        have q2 := FA.out.2 2
        have a3 := XA.out.2 3
        have q3 := FA.out.2 3
        have a4 := XA.out.2 4
        have q4 := FA.out.2 4
        have a5 := XA.out.2 5
        have q5 := FA.out.2 5
        clear f0 f1 f2 f3 f4 f5 hz6
        go_region
        clear cp g0 g1 g2 g3 g4 g5 a0 q0 a1 q1 a2 q2 a3 q3 a4 q4 a5 q5
        have XA2 : Hid (BoxAt ((((((wq.setCell ⟨w.heap.size, 0, none⟩ (.int .i64 zk)).setCell ⟨w.heap.size, 1, none⟩ (.string znm)).setCell ⟨w.heap.size, 2, none⟩ (.int .i64 zn)).setCell ⟨w.heap.size, 3, none⟩ (.int .i64 ztk)).setCell ⟨w.heap.size, 4, none⟩ (.slice zta ztn ztc)).setCell ⟨w.heap.size, 5, none⟩ (.slice za zm zc)) w.heap.size #[.int .i64 zk, .string znm, .int .i64 zn, .int .i64 ztk, .slice zta ztn ztc, .slice za zm zc]) := by
          have := ((((((XA.out.put (j := 0) (u := .int .i64 zk) (by simp)).put (j := 1) (u := .string znm) (by simp)).put (j := 2) (u := .int .i64 zn) (by simp)).put (j := 3) (u := .int .i64 ztk) (by simp)).put (j := 4) (u := .slice zta ztn ztc) (by simp)).put (j := 5) (u := .slice za zm zc) (by simp))
          exact this
        have XR2 : Hid (BoxAt ((((((wq.setCell ⟨w.heap.size, 0, none⟩ (.int .i64 zk)).setCell ⟨w.heap.size, 1, none⟩ (.string znm)).setCell ⟨w.heap.size, 2, none⟩ (.int .i64 zn)).setCell ⟨w.heap.size, 3, none⟩ (.int .i64 ztk)).setCell ⟨w.heap.size, 4, none⟩ (.slice zta ztn ztc)).setCell ⟨w.heap.size, 5, none⟩ (.slice za zm zc)) (w.heap.size + 1) #[.int .i64 0, .string ⟨#[]⟩, .int .i64 0, .int .i64 0, .slice none 0 0, .slice none 0 0]) := ((((((XR.out.stored (by omega)).stored (by omega)).stored (by omega)).stored (by omega)).stored (by omega)).stored (by omega))
        have FA2 : Hid (FreeAt ((((((wq.setCell ⟨w.heap.size, 0, none⟩ (.int .i64 zk)).setCell ⟨w.heap.size, 1, none⟩ (.string znm)).setCell ⟨w.heap.size, 2, none⟩ (.int .i64 zn)).setCell ⟨w.heap.size, 3, none⟩ (.int .i64 ztk)).setCell ⟨w.heap.size, 4, none⟩ (.slice zta ztn ztc)).setCell ⟨w.heap.size, 5, none⟩ (.slice za zm zc)) w.heap.size) := FA.out.put.put.put.put.put.put
        have FR2 : Hid (FreeAt ((((((wq.setCell ⟨w.heap.size, 0, none⟩ (.int .i64 zk)).setCell ⟨w.heap.size, 1, none⟩ (.string znm)).setCell ⟨w.heap.size, 2, none⟩ (.int .i64 zn)).setCell ⟨w.heap.size, 3, none⟩ (.int .i64 ztk)).setCell ⟨w.heap.size, 4, none⟩ (.slice zta ztn ztc)).setCell ⟨w.heap.size, 5, none⟩ (.slice za zm zc)) (w.heap.size + 1)) := FR.out.put.put.put.put.put.put
        have HB2 : Hid (Below w.heap.size w ((((((wq.setCell ⟨w.heap.size, 0, none⟩ (.int .i64 zk)).setCell ⟨w.heap.size, 1, none⟩ (.string znm)).setCell ⟨w.heap.size, 2, none⟩ (.int .i64 zn)).setCell ⟨w.heap.size, 3, none⟩ (.int .i64 ztk)).setCell ⟨w.heap.size, 4, none⟩ (.slice zta ztn ztc)).setCell ⟨w.heap.size, 5, none⟩ (.slice za zm zc))) := (((((HB.out.setCell (Nat.le_refl _) _).setCell (Nat.le_refl _) _).setCell (Nat.le_refl _) _).setCell (Nat.le_refl _) _).setCell (Nat.le_refl _) _).setCell (Nat.le_refl _) _
        have hz2 : ((((((wq.setCell ⟨w.heap.size, 0, none⟩ (.int .i64 zk)).setCell ⟨w.heap.size, 1, none⟩ (.string znm)).setCell ⟨w.heap.size, 2, none⟩ (.int .i64 zn)).setCell ⟨w.heap.size, 3, none⟩ (.int .i64 ztk)).setCell ⟨w.heap.size, 4, none⟩ (.slice zta ztn ztc)).setCell ⟨w.heap.size, 5, none⟩ (.slice za zm zc)).heap.size = w.heap.size + 2 := by simpa using hzq
        generalize ((((((wq.setCell ⟨w.heap.size, 0, none⟩ (.int .i64 zk)).setCell ⟨w.heap.size, 1, none⟩ (.string znm)).setCell ⟨w.heap.size, 2, none⟩ (.int .i64 zn)).setCell ⟨w.heap.size, 3, none⟩ (.int .i64 ztk)).setCell ⟨w.heap.size, 4, none⟩ (.slice zta ztn ztc)).setCell ⟨w.heap.size, 5, none⟩ (.slice za zm zc)) = wf at XA2 XR2 FA2 FR2 HB2 hz2 ⊢
        have hb : Below wf.heap.size wf wf.drew := below_drew wf
        replace XA2 := Lib.hid (XA2.out.below hb)
        replace XR2 := Lib.hid (XR2.out.below hb)
        replace FA2 := Lib.hid (FA2.out.below hb)
        replace FR2 := Lib.hid (FR2.out.below hb)
        replace HB2 := Lib.hid (below_thru HB2.out (Nat.le_refl _) hb)
        have hz3 : wf.drew.heap.size = w.heap.size + 2 := hz2
        clear hb hz2
        generalize wf.drew = wz at XA2 XR2 FA2 FR2 HB2 hz3 ⊢
        go_wp2_with fail
        exact ⟨⟨k + 1, x.parts[m], zk, znm, zn, ztk, zta, ztn, ztc, za, zm, zc, by omega, by go_num, XA2.out, XR2.out, FA2.out, FR2.out, hz3, HZ.out, HM.out, HN.out, HB2.out⟩, by simp [intOf]; omega⟩
      · have HN : Hid (e.sub ps = none) := by
          show _ = _
          rw [HSUB.out, HDR.out]
          by_cases q1 : p < 0
          · exact sub_low q1
          · exact sub_high (by omega)
        rw [show (decide ((0 : Int) ≤ p) && decide (p ≤ (x.parts.length : Int) - 1)) = false from by
          by_cases q1 : 0 ≤ p
          · rw [decide_eq_true q1, decide_eq_false (fun h => q ⟨q1, h⟩)]; rfl
          · rw [decide_eq_false q1]; rfl] at CI
        have HCI := Lib.hid CI; clear CI q
        go_wp2_with fail
        go_quiet ((go_at_call 103; exact Calls.quiet_of_same (HCI.out _)))
        have hb : Below wr.heap.size wr (wr.drewN nq) := ⟨rfl, rfl, rfl, Nat.le_refl _, fun _ _ => rfl⟩
        replace XR := Lib.hid (XR.out.below hb)
        replace FR := Lib.hid (FR.out.below hb)
        replace HB := Lib.hid (below_thru HB.out (Nat.le_refl _) hb)
        have hzq : (wr.drewN nq).heap.size = w.heap.size + 2 := hz
        clear hb a5 cp hz
        generalize wr.drewN nq = wq at XR FR HB hzq ⊢
        have r0 := XR.out.2 0
        have s0 := FR.out.2 0
        have r1 := XR.out.2 1
        have s1 := FR.out.2 1
        have r2 := XR.out.2 2
        have s2 := FR.out.2 2
        have r3 := XR.out.2 3
        have s3 := FR.out.2 3
        have r4 := XR.out.2 4
        have s4 := FR.out.2 4
        have r5 := XR.out.2 5
        have s5 := FR.out.2 5
        go_wp2_with fail
        have XRF : BoxAt ((((((wq.setCell ⟨w.heap.size + 1, 0, none⟩ (.int .i64 0)).setCell ⟨w.heap.size + 1, 1, none⟩ (.string ⟨#[]⟩)).setCell ⟨w.heap.size + 1, 2, none⟩ (.int .i64 0)).setCell ⟨w.heap.size + 1, 3, none⟩ (.int .i64 0)).setCell ⟨w.heap.size + 1, 4, none⟩ (.slice none 0 0)).setCell ⟨w.heap.size + 1, 5, none⟩ (.slice none 0 0)) (w.heap.size + 1) #[.int .i64 0, .string ⟨#[]⟩, .int .i64 0, .int .i64 0, .slice none 0 0, .slice none 0 0] := by
          have := ((((((XR.out.put (j := 0) (u := .int .i64 0) (by simp)).put (j := 1) (u := .string ⟨#[]⟩) (by simp)).put (j := 2) (u := .int .i64 0) (by simp)).put (j := 3) (u := .int .i64 0) (by simp)).put (j := 4) (u := .slice none 0 0) (by simp)).put (j := 5) (u := .slice none 0 0) (by simp))
          exact this
        have hBF : Below w.heap.size w ((((((wq.setCell ⟨w.heap.size + 1, 0, none⟩ (.int .i64 0)).setCell ⟨w.heap.size + 1, 1, none⟩ (.string ⟨#[]⟩)).setCell ⟨w.heap.size + 1, 2, none⟩ (.int .i64 0)).setCell ⟨w.heap.size + 1, 3, none⟩ (.int .i64 0)).setCell ⟨w.heap.size + 1, 4, none⟩ (.slice none 0 0)).setCell ⟨w.heap.size + 1, 5, none⟩ (.slice none 0 0)) := ((((((HB.out.setCell (by simp) _).setCell (by simp) _).setCell (by simp) _).setCell (by simp) _).setCell (by simp) _).setCell (by simp) _)
        have hzF : ((((((wq.setCell ⟨w.heap.size + 1, 0, none⟩ (.int .i64 0)).setCell ⟨w.heap.size + 1, 1, none⟩ (.string ⟨#[]⟩)).setCell ⟨w.heap.size + 1, 2, none⟩ (.int .i64 0)).setCell ⟨w.heap.size + 1, 3, none⟩ (.int .i64 0)).setCell ⟨w.heap.size + 1, 4, none⟩ (.slice none 0 0)).setCell ⟨w.heap.size + 1, 5, none⟩ (.slice none 0 0)).heap.size = w.heap.size + 2 := by simpa using hzq
        have h0 := XRF.2 0
        have h1 := XRF.2 1
        have h2 := XRF.2 2
        have h3 := XRF.2 3
        have h4 := XRF.2 4
        have h5 := XRF.2 5
        clear XRF
        generalize ((((((wq.setCell ⟨w.heap.size + 1, 0, none⟩ (.int .i64 0)).setCell ⟨w.heap.size + 1, 1, none⟩ (.string ⟨#[]⟩)).setCell ⟨w.heap.size + 1, 2, none⟩ (.int .i64 0)).setCell ⟨w.heap.size + 1, 3, none⟩ (.int .i64 0)).setCell ⟨w.heap.size + 1, 4, none⟩ (.slice none 0 0)).setCell ⟨w.heap.size + 1, 5, none⟩ (.slice none 0 0)) = WX at h0 h1 h2 h3 h4 h5 hBF hzF ⊢
        refine bodyPost_ret (v := .tuple #[.agg #[.int .i64 0, .string ⟨#[]⟩, .int .i64 0, .int .i64 0, .slice none 0 0, .slice none 0 0], .bool false]) (by simp [results, Try.results56, go_sem, h0, h1, h2, h3, h4, h5]) rfl ?_
        rw [HN.out]
        exact ⟨_, rfl, ⟨[], nil_own _ c, Fp.nil _ _, Nat.le_refl _⟩, hBF⟩
    · obtain rfl : k = ps.length := by omega
      have HN : Hid (e.sub ps = some x) := by show _ = _; rw [HSUB.out, List.drop_length]; exact sub_nil x
      have a0 := XA.out.2 0
      have a1 := XA.out.2 1
      have a2 := XA.out.2 2
      have a3 := XA.out.2 3
      have a4 := XA.out.2 4
      have a5 := XA.out.2 5
      go_wp2_with fail
      clear a0 a1 a2 a3 a4 a5
      refine (specExCopy (c + 2) _ x _ HXS.out (HEX.out.below HB.out)).mono ?_
      rintro e1 w1 ⟨v1, fp, rfl, ht, hf, hb⟩
      obtain ⟨zk, znm, zn, ztk, zta, ztn, ztc, za, zm, zc, rfl⟩ := ex_parts ht.at_
      have hz1 := hb.size
      rw [hz] at hz1 hf
      have HO : Hid (ExIn w1 (c + 2) (.agg #[.int .i64 zk, .string znm, .int .i64 zn, .int .i64 ztk, .slice zta ztn ztc, .slice za zm zc]) x (w.heap.size + 2) w1.heap.size) := ⟨fp, ht, hf, Nat.le_refl _⟩
      replace HB := Lib.hid (below_thru HB.out (Nat.le_refl _) hb)
      replace XR := Lib.hid (XR.out.below hb)
      replace FR := Lib.hid (FR.out.below hb)
      clear ht hf hb hz
      have r0 := XR.out.2 0
      have s0 := FR.out.2 0
      have r1 := XR.out.2 1
      have s1 := FR.out.2 1
      have r2 := XR.out.2 2
      have s2 := FR.out.2 2
      have r3 := XR.out.2 3
      have s3 := FR.out.2 3
      have r4 := XR.out.2 4
      have s4 := FR.out.2 4
      have r5 := XR.out.2 5
      have s5 := FR.out.2 5
      go_wp2_with fail
      have XRF : BoxAt ((((((w1.setCell ⟨w.heap.size + 1, 0, none⟩ (.int .i64 zk)).setCell ⟨w.heap.size + 1, 1, none⟩ (.string znm)).setCell ⟨w.heap.size + 1, 2, none⟩ (.int .i64 zn)).setCell ⟨w.heap.size + 1, 3, none⟩ (.int .i64 ztk)).setCell ⟨w.heap.size + 1, 4, none⟩ (.slice zta ztn ztc)).setCell ⟨w.heap.size + 1, 5, none⟩ (.slice za zm zc)) (w.heap.size + 1) #[.int .i64 zk, .string znm, .int .i64 zn, .int .i64 ztk, .slice zta ztn ztc, .slice za zm zc] := by
        have := ((((((XR.out.put (j := 0) (u := .int .i64 zk) (by simp)).put (j := 1) (u := .string znm) (by simp)).put (j := 2) (u := .int .i64 zn) (by simp)).put (j := 3) (u := .int .i64 ztk) (by simp)).put (j := 4) (u := .slice zta ztn ztc) (by simp)).put (j := 5) (u := .slice za zm zc) (by simp))
        exact this
      have hBF : Below w.heap.size w ((((((w1.setCell ⟨w.heap.size + 1, 0, none⟩ (.int .i64 zk)).setCell ⟨w.heap.size + 1, 1, none⟩ (.string znm)).setCell ⟨w.heap.size + 1, 2, none⟩ (.int .i64 zn)).setCell ⟨w.heap.size + 1, 3, none⟩ (.int .i64 ztk)).setCell ⟨w.heap.size + 1, 4, none⟩ (.slice zta ztn ztc)).setCell ⟨w.heap.size + 1, 5, none⟩ (.slice za zm zc)) := ((((((HB.out.setCell (by simp) _).setCell (by simp) _).setCell (by simp) _).setCell (by simp) _).setCell (by simp) _).setCell (by simp) _)
      have HOF : ExIn ((((((w1.setCell ⟨w.heap.size + 1, 0, none⟩ (.int .i64 zk)).setCell ⟨w.heap.size + 1, 1, none⟩ (.string znm)).setCell ⟨w.heap.size + 1, 2, none⟩ (.int .i64 zn)).setCell ⟨w.heap.size + 1, 3, none⟩ (.int .i64 ztk)).setCell ⟨w.heap.size + 1, 4, none⟩ (.slice zta ztn ztc)).setCell ⟨w.heap.size + 1, 5, none⟩ (.slice za zm zc)) (c + 2) (.agg #[.int .i64 zk, .string znm, .int .i64 zn, .int .i64 ztk, .slice zta ztn ztc, .slice za zm zc]) x (w.heap.size + 2) w1.heap.size := ((((((HO.out.stored (by omega)).stored (by omega)).stored (by omega)).stored (by omega)).stored (by omega)).stored (by omega))
      have hzF : ((((((w1.setCell ⟨w.heap.size + 1, 0, none⟩ (.int .i64 zk)).setCell ⟨w.heap.size + 1, 1, none⟩ (.string znm)).setCell ⟨w.heap.size + 1, 2, none⟩ (.int .i64 zn)).setCell ⟨w.heap.size + 1, 3, none⟩ (.int .i64 ztk)).setCell ⟨w.heap.size + 1, 4, none⟩ (.slice zta ztn ztc)).setCell ⟨w.heap.size + 1, 5, none⟩ (.slice za zm zc)).heap.size = w1.heap.size := by simp
      have h0 := XRF.2 0
      have h1 := XRF.2 1
      have h2 := XRF.2 2
      have h3 := XRF.2 3
      have h4 := XRF.2 4
      have h5 := XRF.2 5
      clear XRF
      generalize ((((((w1.setCell ⟨w.heap.size + 1, 0, none⟩ (.int .i64 zk)).setCell ⟨w.heap.size + 1, 1, none⟩ (.string znm)).setCell ⟨w.heap.size + 1, 2, none⟩ (.int .i64 zn)).setCell ⟨w.heap.size + 1, 3, none⟩ (.int .i64 ztk)).setCell ⟨w.heap.size + 1, 4, none⟩ (.slice zta ztn ztc)).setCell ⟨w.heap.size + 1, 5, none⟩ (.slice za zm zc)) = WX at h0 h1 h2 h3 h4 h5 hBF HOF hzF ⊢
      refine bodyPost_ret (v := .tuple #[.agg #[.int .i64 zk, .string znm, .int .i64 zn, .int .i64 ztk, .slice zta ztn ztc, .slice za zm zc], .bool true]) (by simp [results, Try.results56, go_sem, h0, h1, h2, h3, h4, h5]) rfl ?_
      rw [HN.out]
      exact ⟨_, rfl, HOF.wide (by omega) (by omega) (Nat.le_refl _), hBF⟩
end Go.Proofs.Ytimigpdbegfjaaa
