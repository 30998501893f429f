/-
  Proved: the law FnExactMoveDown: for every edit and step, impl.MoveDown returns the same as the reference, in memory of its own, and changes no argument; the program's table holds what its text lays (the card ties it).
-/
import Derived.Test.YtmmnjdhmankieaaDoorEditBase1
import Derived.BigQuiet
import Derived.Deep.QuietTactic
import Derived.Test.YtmmnjdhmankieaaDoorEditUp
import Derived.Test.YtmmnjdhmankieaaDoorSpecCopyEdit
import Derived.Deep.DeepCutAuto
import Derived.Deep.AppendLies
import Derived.Deep.Upon
import Derived.ArgAppend
import Derived.Deep.RegionLaw
import Derived.Test.YtmmnjdhmankieaaDoorIntsRow
import Derived.Maps.AppendAt
import Derived.Deep.RegionHeld3
import Derived.Test.YtmmnjdhmankieaaDoorEditBase2
import Derived.Test.YtmmnjdhmankieaaDoorEditIn
import Derived.Test.YtmmnjdhmankieaaDoorHold
import Derived.Test.YtmmnjdhmankieaaDoorTwo
import Derived.Test.YtmmnjdhmankieaaDoorHeldEx
import Derived.Test.YtmmnjdhmankieaaDoorToEditIn
import Derived.Test.YtmmnjdhmankieaaDoorSzEdit
import Derived.Test.YtmmnjdhmankieaaDoorEqEdit
import Derived.Test.YtmmnjdhmankieaaDoorMarkEdit
import Derived.Test.YtmmnjdhmankieaaDoorEqExpr
import Derived.Test.YtmmnjdhmankieaaDoorSince
import Derived.Test.YtmmnjdhmankieaaDoorCards
import Derived.Test.YtmmnjdhmankieaaDoorTie
import Derived.Test.YtmmnjdhmankieaaDoorLaw
import Derived.Deep.DeepHandedRow
import Derived.Lib.LaidTab
import Derived.LaidMore
import Derived.Test.YtmmnjdhmankieaaDoorEditArg
import Derived.ChangeVars
/-
  Proved: spec.SubtermAt, for paths of one more step.
-/
namespace Go.Proofs.YtmmnjdhmankieaaDoor
open Go.RowKit

set_option maxRecDepth 100000 in
set_option maxHeartbeats 4000000 in
theorem specSubW (d : Nat) (v1 v2 : Value) (e : Ex) (ps : List Int) (w : World) (h : ExAt w d v1 e) (hp : Ints w v2 ps) (hsz : e.bulk ≤ 1048576) (hn : ps.length ≤ 1048577) :
    Calls Tryd.prog 69 #[v1, v2] w (SubEnd d (e.sub ps) w) := by
  obtain ⟨c, rfl⟩ := ex_deep h
  obtain ⟨xk, xnm, xn, xtk, xta, xtn, xtc, xa, xm, xc, rfl⟩ := ex_parts h
  obtain ⟨pa, pc, rfl, hpc, hpat⟩ := hp
  have HP := Lib.hid hpat; clear hpat
  have HSZ := Lib.hid hsz; clear hsz
  have hb0 : Below w.heap.size w ((w.alloc (.cells #[.int .i64 xk, .string xnm, .int .i64 xn, .int .i64 xtk, .slice xta xtn xtc, .slice xa xm xc] 37)).alloc (.cells #[.int .i64 0, .string ⟨#[]⟩, .int .i64 0, .int .i64 0, .slice none 0 0, .slice none 0 0] 37)) := ((Below.refl _ _).alloc (Nat.le_refl _) _).alloc (by simp) _
  have HX0 : Hid (ExAt w (c + 2) (.agg #[.int .i64 xk, .string xnm, .int .i64 xn, .int .i64 xtk, .slice xta xtn xtc, .slice xa xm xc]) e) := h
  have XA : Hid (BoxAt ((w.alloc (.cells #[.int .i64 xk, .string xnm, .int .i64 xn, .int .i64 xtk, .slice xta xtn xtc, .slice xa xm xc] 37)).alloc (.cells #[.int .i64 0, .string ⟨#[]⟩, .int .i64 0, .int .i64 0, .slice none 0 0, .slice none 0 0] 37)) w.heap.size #[.int .i64 xk, .string xnm, .int .i64 xn, .int .i64 xtk, .slice xta xtn xtc, .slice xa xm xc]) := (BoxAt.new _ _ _).below (below_alloc _ _)
  have XR : Hid (BoxAt ((w.alloc (.cells #[.int .i64 xk, .string xnm, .int .i64 xn, .int .i64 xtk, .slice xta xtn xtc, .slice xa xm xc] 37)).alloc (.cells #[.int .i64 0, .string ⟨#[]⟩, .int .i64 0, .int .i64 0, .slice none 0 0, .slice none 0 0] 37)) (w.heap.size + 1) #[.int .i64 0, .string ⟨#[]⟩, .int .i64 0, .int .i64 0, .slice none 0 0, .slice none 0 0]) := box_at (BoxAt.new _ _ _) (by simp)
  have FA : Hid (FreeAt ((w.alloc (.cells #[.int .i64 xk, .string xnm, .int .i64 xn, .int .i64 xtk, .slice xta xtn xtc, .slice xa xm xc] 37)).alloc (.cells #[.int .i64 0, .string ⟨#[]⟩, .int .i64 0, .int .i64 0, .slice none 0 0, .slice none 0 0] 37)) w.heap.size) := (FreeAt.new _ _ _).below (below_alloc _ _)
  have FR : Hid (FreeAt ((w.alloc (.cells #[.int .i64 xk, .string xnm, .int .i64 xn, .int .i64 xtk, .slice xta xtn xtc, .slice xa xm xc] 37)).alloc (.cells #[.int .i64 0, .string ⟨#[]⟩, .int .i64 0, .int .i64 0, .slice none 0 0, .slice none 0 0] 37)) (w.heap.size + 1)) := free_at (FreeAt.new _ _ _) (by simp)
  have hz0 : ((w.alloc (.cells #[.int .i64 xk, .string xnm, .int .i64 xn, .int .i64 xtk, .slice xta xtn xtc, .slice xa xm xc] 37)).alloc (.cells #[.int .i64 0, .string ⟨#[]⟩, .int .i64 0, .int .i64 0, .slice none 0 0, .slice none 0 0] 37)).heap.size = w.heap.size + 2 := by simp
  have B0 := Lib.hid hb0
  clear hb0 h
  go_enter Tryd.func69, Tryd.ntmps69
  go_wp2_with fail
  go_loopw [6] (fun i wr => ∃ (k : Nat) (x : Ex) (xk : Int) (xnm : ByteArray) (xn xtk : Int) (xta : Option Addr) (xtn xtc : Nat) (xa : Option Addr) (xm xc : Nat), k ≤ ps.length ∧ i = .int .i64 k ∧ BoxAt wr w.heap.size #[.int .i64 xk, .string xnm, .int .i64 xn, .int .i64 xtk, .slice xta xtn xtc, .slice xa xm xc] ∧ BoxAt wr (w.heap.size + 1) #[.int .i64 0, .string ⟨#[]⟩, .int .i64 0, .int .i64 0, .slice none 0 0, .slice none 0 0] ∧ FreeAt wr w.heap.size ∧ FreeAt wr (w.heap.size + 1) ∧ wr.heap.size = w.heap.size + 2 ∧ ExAt w (c + 2) (.agg #[.int .i64 xk, .string xnm, .int .i64 xn, .int .i64 xtk, .slice xta xtn xtc, .slice xa xm xc]) x ∧ x.bulk ≤ 1048576 ∧ e.sub ps = x.sub (ps.drop k) ∧ Below w.heap.size w wr) (fun i _ => ps.length - (intOf i).toNat)
  case atStart => exact ⟨0, e, xk, xnm, xn, xtk, xta, xtn, xtc, xa, xm, xc, by omega, rfl, XA.out, XR.out, FA.out, FR.out, hz0, HX0.out, HSZ.out, by simp, B0.out⟩
  clear XA XR FA FR hz0 B0 HX0
  case round =>
    obtain ⟨k, x, yk, ynm, yn, ytk, yta, ytn, ytc, ya, ym, yc, hk, rfl, hxa, hxr, hfa, hfr, hz, hex, hxs, hsub, hb⟩ := hrel
    have HSUB := Lib.hid hsub; clear hsub
    have XA := Lib.hid hxa
    have XR := Lib.hid hxr
    have FA := Lib.hid hfa
    have FR := Lib.hid hfr
    have HEX := Lib.hid hex
    have HXS := Lib.hid hxs
    have HB := Lib.hid hb
    clear hxa hxr hfa hfr hxs hb
    by_cases hlt : k < ps.length
    · obtain ⟨bp, offp, rfl, hblp, hcp⟩ := HP.out k hlt
      obtain ⟨rfl, hmc, hc2, hrow⟩ := ex_row hex
      have HROW := Lib.hid hrow; clear hrow hex
      have HDR := Lib.hid (drop_at ps k hlt)
      obtain ⟨p, hp⟩ : ∃ p, p = ps[k] := ⟨_, rfl⟩
      rw [← hp] at hcp HDR
      clear hp
      have cp : wr.cell? ⟨bp, offp + k, none⟩ = some (.int .i64 p) := (HB.out.cell (p := ⟨bp, offp + k, none⟩) hblp).trans hcp
      have HCP := Lib.hid hcp
      clear hcp
      have a5 := XA.out.2 5
      have CI : ∀ W, Calls Tryd.prog 77 #[.int .i64 p, .int .i64 0, .int .i64 ((x.parts.length : Int) - 1)] W fun e w' => e = .returned (.bool (decide (0 ≤ p) && decide (p ≤ (x.parts.length : Int) - 1))) ∧ w' = W := fun W => specIn p 0 _ W
      have hwrap : IntKind.i64.wrap ((x.parts.length : Int) - 1) = (x.parts.length : Int) - 1 := IntWalk.i64_in _ (by omega)
      by_cases q : 0 ≤ p ∧ p ≤ (x.parts.length : Int) - 1
      · obtain ⟨m, rfl⟩ : ∃ m : Nat, p = m := ⟨p.toNat, by omega⟩
        have hm : m < x.parts.length := by omega
        have HN : Hid (e.sub ps = (x.parts[m]).sub (ps.drop (k + 1))) := by
          show _ = _
          rw [HSUB.out, HDR.out]
          exact sub_step (by omega) (by simpa using hm)
        have HM : Hid ((x.parts[m]).bulk ≤ 1048576) := Nat.le_trans (part_bulk hm) HXS.out
        rw [show (decide ((0 : Int) ≤ (m : Int)) && decide ((m : Int) ≤ (x.parts.length : Int) - 1)) = true from by rw [decide_eq_true q.1, decide_eq_true q.2]; rfl] at CI
        have HCI := Lib.hid CI; clear CI q
        obtain ⟨bn, offn, z0, z1, z2, z3, z4, z5, rfl, hbn, f0, f1, f2, f3, f4, f5, hz6⟩ := HROW.out m hm
        obtain ⟨zk, znm, zn, ztk, zta, ztn, ztc, za, zm, zc, rfl, rfl, rfl, rfl, rfl, rfl⟩ := ex_cells hz6
        have HZ := Lib.hid hz6
        have hne : bn ≠ w.heap.size := by omega
        go_wp2_with fail
        go_quiet ((go_at_call 77; exact Calls.quiet_of_same (HCI.out _)))
        go_wp2_with fail
        have hb : Below wr.heap.size wr (wr.drewN nq) := ⟨rfl, rfl, rfl, Nat.le_refl _, fun _ _ => rfl⟩
        replace XA := Lib.hid (XA.out.below hb)
        replace XR := Lib.hid (XR.out.below hb)
        replace FA := Lib.hid (FA.out.below hb)
        replace FR := Lib.hid (FR.out.below hb)
        replace HB := Lib.hid (below_thru HB.out (Nat.le_refl _) hb)
        have hzq : (wr.drewN nq).heap.size = w.heap.size + 2 := hz
        clear hb a5 cp hz
        generalize wr.drewN nq = wq at XA XR FA FR HB hzq ⊢
        have cp : wq.cell? ⟨bp, offp + k, none⟩ = some (.int .i64 (m : Int)) := (HB.out.cell (p := ⟨bp, offp + k, none⟩) hblp).trans HCP.out
        have g0 := (HB.out.cell (p := ⟨bn, offn + m * 6, none⟩) hbn).trans f0
        have g1 := (HB.out.cell (p := ⟨bn, offn + m * 6 + 1, none⟩) hbn).trans f1
        have g2 := (HB.out.cell (p := ⟨bn, offn + m * 6 + 2, none⟩) hbn).trans f2
        have g3 := (HB.out.cell (p := ⟨bn, offn + m * 6 + 3, none⟩) hbn).trans f3
        have g4 := (HB.out.cell (p := ⟨bn, offn + m * 6 + 4, none⟩) hbn).trans f4
        have g5 := (HB.out.cell (p := ⟨bn, offn + m * 6 + 5, none⟩) hbn).trans f5
        have a0 := XA.out.2 0
        have q0 := FA.out.2 0
        have a1 := XA.out.2 1
        have q1 := FA.out.2 1
        have a2 := XA.out.2 2
        have q2 := FA.out.2 2
        have a3 := XA.out.2 3
        have q3 := FA.out.2 3
        have a4 := XA.out.2 4
        have q4 := FA.out.2 4
        have a5 := XA.out.2 5
        have q5 := FA.out.2 5
        clear f0 f1 f2 f3 f4 f5 hz6
        go_region
        clear cp g0 g1 g2 g3 g4 g5 a0 q0 a1 q1 a2 q2 a3 q3 a4 q4 a5 q5
        have XA2 : Hid (BoxAt ((((((wq.setCell ⟨w.heap.size, 0, none⟩ (.int .i64 zk)).setCell ⟨w.heap.size, 1, none⟩ (.string znm)).setCell ⟨w.heap.size, 2, none⟩ (.int .i64 zn)).setCell ⟨w.heap.size, 3, none⟩ (.int .i64 ztk)).setCell ⟨w.heap.size, 4, none⟩ (.slice zta ztn ztc)).setCell ⟨w.heap.size, 5, none⟩ (.slice za zm zc)) w.heap.size #[.int .i64 zk, .string znm, .int .i64 zn, .int .i64 ztk, .slice zta ztn ztc, .slice za zm zc]) := by
          have := ((((((XA.out.put (j := 0) (u := .int .i64 zk) (by simp)).put (j := 1) (u := .string znm) (by simp)).put (j := 2) (u := .int .i64 zn) (by simp)).put (j := 3) (u := .int .i64 ztk) (by simp)).put (j := 4) (u := .slice zta ztn ztc) (by simp)).put (j := 5) (u := .slice za zm zc) (by simp))
          exact this
        have XR2 : Hid (BoxAt ((((((wq.setCell ⟨w.heap.size, 0, none⟩ (.int .i64 zk)).setCell ⟨w.heap.size, 1, none⟩ (.string znm)).setCell ⟨w.heap.size, 2, none⟩ (.int .i64 zn)).setCell ⟨w.heap.size, 3, none⟩ (.int .i64 ztk)).setCell ⟨w.heap.size, 4, none⟩ (.slice zta ztn ztc)).setCell ⟨w.heap.size, 5, none⟩ (.slice za zm zc)) (w.heap.size + 1) #[.int .i64 0, .string ⟨#[]⟩, .int .i64 0, .int .i64 0, .slice none 0 0, .slice none 0 0]) := ((((((XR.out.stored (by omega)).stored (by omega)).stored (by omega)).stored (by omega)).stored (by omega)).stored (by omega))
        have FA2 : Hid (FreeAt ((((((wq.setCell ⟨w.heap.size, 0, none⟩ (.int .i64 zk)).setCell ⟨w.heap.size, 1, none⟩ (.string znm)).setCell ⟨w.heap.size, 2, none⟩ (.int .i64 zn)).setCell ⟨w.heap.size, 3, none⟩ (.int .i64 ztk)).setCell ⟨w.heap.size, 4, none⟩ (.slice zta ztn ztc)).setCell ⟨w.heap.size, 5, none⟩ (.slice za zm zc)) w.heap.size) := FA.out.put.put.put.put.put.put
        have FR2 : Hid (FreeAt ((((((wq.setCell ⟨w.heap.size, 0, none⟩ (.int .i64 zk)).setCell ⟨w.heap.size, 1, none⟩ (.string znm)).setCell ⟨w.heap.size, 2, none⟩ (.int .i64 zn)).setCell ⟨w.heap.size, 3, none⟩ (.int .i64 ztk)).setCell ⟨w.heap.size, 4, none⟩ (.slice zta ztn ztc)).setCell ⟨w.heap.size, 5, none⟩ (.slice za zm zc)) (w.heap.size + 1)) := FR.out.put.put.put.put.put.put
        have HB2 : Hid (Below w.heap.size w ((((((wq.setCell ⟨w.heap.size, 0, none⟩ (.int .i64 zk)).setCell ⟨w.heap.size, 1, none⟩ (.string znm)).setCell ⟨w.heap.size, 2, none⟩ (.int .i64 zn)).setCell ⟨w.heap.size, 3, none⟩ (.int .i64 ztk)).setCell ⟨w.heap.size, 4, none⟩ (.slice zta ztn ztc)).setCell ⟨w.heap.size, 5, none⟩ (.slice za zm zc))) := (((((HB.out.setCell (Nat.le_refl _) _).setCell (Nat.le_refl _) _).setCell (Nat.le_refl _) _).setCell (Nat.le_refl _) _).setCell (Nat.le_refl _) _).setCell (Nat.le_refl _) _
        have hz2 : ((((((wq.setCell ⟨w.heap.size, 0, none⟩ (.int .i64 zk)).setCell ⟨w.heap.size, 1, none⟩ (.string znm)).setCell ⟨w.heap.size, 2, none⟩ (.int .i64 zn)).setCell ⟨w.heap.size, 3, none⟩ (.int .i64 ztk)).setCell ⟨w.heap.size, 4, none⟩ (.slice zta ztn ztc)).setCell ⟨w.heap.size, 5, none⟩ (.slice za zm zc)).heap.size = w.heap.size + 2 := by simpa using hzq
        generalize ((((((wq.setCell ⟨w.heap.size, 0, none⟩ (.int .i64 zk)).setCell ⟨w.heap.size, 1, none⟩ (.string znm)).setCell ⟨w.heap.size, 2, none⟩ (.int .i64 zn)).setCell ⟨w.heap.size, 3, none⟩ (.int .i64 ztk)).setCell ⟨w.heap.size, 4, none⟩ (.slice zta ztn ztc)).setCell ⟨w.heap.size, 5, none⟩ (.slice za zm zc)) = wf at XA2 XR2 FA2 FR2 HB2 hz2 ⊢
        have hb : Below wf.heap.size wf wf.drew := below_drew wf
        replace XA2 := Lib.hid (XA2.out.below hb)
        replace XR2 := Lib.hid (XR2.out.below hb)
        replace FA2 := Lib.hid (FA2.out.below hb)
        replace FR2 := Lib.hid (FR2.out.below hb)
        replace HB2 := Lib.hid (below_thru HB2.out (Nat.le_refl _) hb)
        have hz3 : wf.drew.heap.size = w.heap.size + 2 := hz2
        clear hb hz2
        generalize wf.drew = wz at XA2 XR2 FA2 FR2 HB2 hz3 ⊢
        go_wp2_with fail
        exact ⟨⟨k + 1, x.parts[m], zk, znm, zn, ztk, zta, ztn, ztc, za, zm, zc, by omega, by go_num, XA2.out, XR2.out, FA2.out, FR2.out, hz3, HZ.out, HM.out, HN.out, HB2.out⟩, by simp [intOf]; omega⟩
      · have HN : Hid (e.sub ps = none) := by
          show _ = _
          rw [HSUB.out, HDR.out]
          by_cases q1 : p < 0
          · exact sub_low q1
          · exact sub_high (by omega)
        rw [show (decide ((0 : Int) ≤ p) && decide (p ≤ (x.parts.length : Int) - 1)) = false from by
          by_cases q1 : 0 ≤ p
          · rw [decide_eq_true q1, decide_eq_false (fun h => q ⟨q1, h⟩)]; rfl
          · rw [decide_eq_false q1]; rfl] at CI
        have HCI := Lib.hid CI; clear CI q
        go_wp2_with fail
        go_quiet ((go_at_call 77; exact Calls.quiet_of_same (HCI.out _)))
        have hb : Below wr.heap.size wr (wr.drewN nq) := ⟨rfl, rfl, rfl, Nat.le_refl _, fun _ _ => rfl⟩
        replace XR := Lib.hid (XR.out.below hb)
        replace FR := Lib.hid (FR.out.below hb)
        replace HB := Lib.hid (below_thru HB.out (Nat.le_refl _) hb)
        have hzq : (wr.drewN nq).heap.size = w.heap.size + 2 := hz
        clear hb a5 cp hz
        generalize wr.drewN nq = wq at XR FR HB hzq ⊢
        have r0 := XR.out.2 0
        have s0 := FR.out.2 0
        have r1 := XR.out.2 1
        have s1 := FR.out.2 1
        have r2 := XR.out.2 2
        have s2 := FR.out.2 2
        have r3 := XR.out.2 3
        have s3 := FR.out.2 3
        have r4 := XR.out.2 4
        have s4 := FR.out.2 4
        have r5 := XR.out.2 5
        have s5 := FR.out.2 5
        go_wp2_with fail
        have XRF : BoxAt ((((((wq.setCell ⟨w.heap.size + 1, 0, none⟩ (.int .i64 0)).setCell ⟨w.heap.size + 1, 1, none⟩ (.string ⟨#[]⟩)).setCell ⟨w.heap.size + 1, 2, none⟩ (.int .i64 0)).setCell ⟨w.heap.size + 1, 3, none⟩ (.int .i64 0)).setCell ⟨w.heap.size + 1, 4, none⟩ (.slice none 0 0)).setCell ⟨w.heap.size + 1, 5, none⟩ (.slice none 0 0)) (w.heap.size + 1) #[.int .i64 0, .string ⟨#[]⟩, .int .i64 0, .int .i64 0, .slice none 0 0, .slice none 0 0] := by
          have := ((((((XR.out.put (j := 0) (u := .int .i64 0) (by simp)).put (j := 1) (u := .string ⟨#[]⟩) (by simp)).put (j := 2) (u := .int .i64 0) (by simp)).put (j := 3) (u := .int .i64 0) (by simp)).put (j := 4) (u := .slice none 0 0) (by simp)).put (j := 5) (u := .slice none 0 0) (by simp))
          exact this
        have hBF : Below w.heap.size w ((((((wq.setCell ⟨w.heap.size + 1, 0, none⟩ (.int .i64 0)).setCell ⟨w.heap.size + 1, 1, none⟩ (.string ⟨#[]⟩)).setCell ⟨w.heap.size + 1, 2, none⟩ (.int .i64 0)).setCell ⟨w.heap.size + 1, 3, none⟩ (.int .i64 0)).setCell ⟨w.heap.size + 1, 4, none⟩ (.slice none 0 0)).setCell ⟨w.heap.size + 1, 5, none⟩ (.slice none 0 0)) := ((((((HB.out.setCell (by simp) _).setCell (by simp) _).setCell (by simp) _).setCell (by simp) _).setCell (by simp) _).setCell (by simp) _)
        have hzF : ((((((wq.setCell ⟨w.heap.size + 1, 0, none⟩ (.int .i64 0)).setCell ⟨w.heap.size + 1, 1, none⟩ (.string ⟨#[]⟩)).setCell ⟨w.heap.size + 1, 2, none⟩ (.int .i64 0)).setCell ⟨w.heap.size + 1, 3, none⟩ (.int .i64 0)).setCell ⟨w.heap.size + 1, 4, none⟩ (.slice none 0 0)).setCell ⟨w.heap.size + 1, 5, none⟩ (.slice none 0 0)).heap.size = w.heap.size + 2 := by simpa using hzq
        have h0 := XRF.2 0
        have h1 := XRF.2 1
        have h2 := XRF.2 2
        have h3 := XRF.2 3
        have h4 := XRF.2 4
        have h5 := XRF.2 5
        clear XRF
        generalize ((((((wq.setCell ⟨w.heap.size + 1, 0, none⟩ (.int .i64 0)).setCell ⟨w.heap.size + 1, 1, none⟩ (.string ⟨#[]⟩)).setCell ⟨w.heap.size + 1, 2, none⟩ (.int .i64 0)).setCell ⟨w.heap.size + 1, 3, none⟩ (.int .i64 0)).setCell ⟨w.heap.size + 1, 4, none⟩ (.slice none 0 0)).setCell ⟨w.heap.size + 1, 5, none⟩ (.slice none 0 0)) = WX at h0 h1 h2 h3 h4 h5 hBF hzF ⊢
        refine bodyPost_ret (v := .tuple #[.agg #[.int .i64 0, .string ⟨#[]⟩, .int .i64 0, .int .i64 0, .slice none 0 0, .slice none 0 0], .bool false]) (by simp [results, Tryd.results69, go_sem, h0, h1, h2, h3, h4, h5]) rfl ?_
        rw [HN.out]
        exact ⟨_, rfl, ⟨[], nil_own _ c, Fp.nil _ _, Nat.le_refl _⟩, hBF⟩
    · obtain rfl : k = ps.length := by omega
      have HN : Hid (e.sub ps = some x) := by show _ = _; rw [HSUB.out, List.drop_length]; exact sub_nil x
      have a0 := XA.out.2 0
      have a1 := XA.out.2 1
      have a2 := XA.out.2 2
      have a3 := XA.out.2 3
      have a4 := XA.out.2 4
      have a5 := XA.out.2 5
      go_wp2_with fail
      clear a0 a1 a2 a3 a4 a5
      refine (specExCopy (c + 2) _ x _ HXS.out (HEX.out.below HB.out)).mono ?_
      rintro e1 w1 ⟨v1, fp, rfl, ht, hf, hb⟩
      obtain ⟨zk, znm, zn, ztk, zta, ztn, ztc, za, zm, zc, rfl⟩ := ex_parts ht.at_
      have hz1 := hb.size
      rw [hz] at hz1 hf
      have HO : Hid (ExIn w1 (c + 2) (.agg #[.int .i64 zk, .string znm, .int .i64 zn, .int .i64 ztk, .slice zta ztn ztc, .slice za zm zc]) x (w.heap.size + 2) w1.heap.size) := ⟨fp, ht, hf, Nat.le_refl _⟩
      replace HB := Lib.hid (below_thru HB.out (Nat.le_refl _) hb)
      replace XR := Lib.hid (XR.out.below hb)
      replace FR := Lib.hid (FR.out.below hb)
      clear ht hf hb hz
      have r0 := XR.out.2 0
      have s0 := FR.out.2 0
      have r1 := XR.out.2 1
      have s1 := FR.out.2 1
      have r2 := XR.out.2 2
      have s2 := FR.out.2 2
      have r3 := XR.out.2 3
      have s3 := FR.out.2 3
      have r4 := XR.out.2 4
      have s4 := FR.out.2 4
      have r5 := XR.out.2 5
      have s5 := FR.out.2 5
      go_wp2_with fail
      have XRF : BoxAt ((((((w1.setCell ⟨w.heap.size + 1, 0, none⟩ (.int .i64 zk)).setCell ⟨w.heap.size + 1, 1, none⟩ (.string znm)).setCell ⟨w.heap.size + 1, 2, none⟩ (.int .i64 zn)).setCell ⟨w.heap.size + 1, 3, none⟩ (.int .i64 ztk)).setCell ⟨w.heap.size + 1, 4, none⟩ (.slice zta ztn ztc)).setCell ⟨w.heap.size + 1, 5, none⟩ (.slice za zm zc)) (w.heap.size + 1) #[.int .i64 zk, .string znm, .int .i64 zn, .int .i64 ztk, .slice zta ztn ztc, .slice za zm zc] := by
        have := ((((((XR.out.put (j := 0) (u := .int .i64 zk) (by simp)).put (j := 1) (u := .string znm) (by simp)).put (j := 2) (u := .int .i64 zn) (by simp)).put (j := 3) (u := .int .i64 ztk) (by simp)).put (j := 4) (u := .slice zta ztn ztc) (by simp)).put (j := 5) (u := .slice za zm zc) (by simp))
        exact this
      have hBF : Below w.heap.size w ((((((w1.setCell ⟨w.heap.size + 1, 0, none⟩ (.int .i64 zk)).setCell ⟨w.heap.size + 1, 1, none⟩ (.string znm)).setCell ⟨w.heap.size + 1, 2, none⟩ (.int .i64 zn)).setCell ⟨w.heap.size + 1, 3, none⟩ (.int .i64 ztk)).setCell ⟨w.heap.size + 1, 4, none⟩ (.slice zta ztn ztc)).setCell ⟨w.heap.size + 1, 5, none⟩ (.slice za zm zc)) := ((((((HB.out.setCell (by simp) _).setCell (by simp) _).setCell (by simp) _).setCell (by simp) _).setCell (by simp) _).setCell (by simp) _)
      have HOF : ExIn ((((((w1.setCell ⟨w.heap.size + 1, 0, none⟩ (.int .i64 zk)).setCell ⟨w.heap.size + 1, 1, none⟩ (.string znm)).setCell ⟨w.heap.size + 1, 2, none⟩ (.int .i64 zn)).setCell ⟨w.heap.size + 1, 3, none⟩ (.int .i64 ztk)).setCell ⟨w.heap.size + 1, 4, none⟩ (.slice zta ztn ztc)).setCell ⟨w.heap.size + 1, 5, none⟩ (.slice za zm zc)) (c + 2) (.agg #[.int .i64 zk, .string znm, .int .i64 zn, .int .i64 ztk, .slice zta ztn ztc, .slice za zm zc]) x (w.heap.size + 2) w1.heap.size := ((((((HO.out.stored (by omega)).stored (by omega)).stored (by omega)).stored (by omega)).stored (by omega)).stored (by omega))
      have hzF : ((((((w1.setCell ⟨w.heap.size + 1, 0, none⟩ (.int .i64 zk)).setCell ⟨w.heap.size + 1, 1, none⟩ (.string znm)).setCell ⟨w.heap.size + 1, 2, none⟩ (.int .i64 zn)).setCell ⟨w.heap.size + 1, 3, none⟩ (.int .i64 ztk)).setCell ⟨w.heap.size + 1, 4, none⟩ (.slice zta ztn ztc)).setCell ⟨w.heap.size + 1, 5, none⟩ (.slice za zm zc)).heap.size = w1.heap.size := by simp
      have h0 := XRF.2 0
      have h1 := XRF.2 1
      have h2 := XRF.2 2
      have h3 := XRF.2 3
      have h4 := XRF.2 4
      have h5 := XRF.2 5
      clear XRF
      generalize ((((((w1.setCell ⟨w.heap.size + 1, 0, none⟩ (.int .i64 zk)).setCell ⟨w.heap.size + 1, 1, none⟩ (.string znm)).setCell ⟨w.heap.size + 1, 2, none⟩ (.int .i64 zn)).setCell ⟨w.heap.size + 1, 3, none⟩ (.int .i64 ztk)).setCell ⟨w.heap.size + 1, 4, none⟩ (.slice zta ztn ztc)).setCell ⟨w.heap.size + 1, 5, none⟩ (.slice za zm zc)) = WX at h0 h1 h2 h3 h4 h5 hBF HOF hzF ⊢
      refine bodyPost_ret (v := .tuple #[.agg #[.int .i64 zk, .string znm, .int .i64 zn, .int .i64 ztk, .slice zta ztn ztc, .slice za zm zc], .bool true]) (by simp [results, Tryd.results69, go_sem, h0, h1, h2, h3, h4, h5]) rfl ?_
      rw [HN.out]
      exact ⟨_, rfl, HOF.wide (by omega) (by omega) (Nat.le_refl _), hBF⟩
end Go.Proofs.YtmmnjdhmankieaaDoor
/-
  Proved: specIsEdit, for paths of one more step.
-/
namespace Go.Proofs.YtmmnjdhmankieaaDoor
open Go.RowKit

set_option maxRecDepth 100000 in
set_option maxHeartbeats 2000000 in
theorem specIsEditW (d : Nat) (v : Value) (t : Edi) (w : World) (h : EditAt w d v t) (hx : t.ex.bulk ≤ 1048576) (hn : t.path.length ≤ 1048577) :
    Calls Tryd.prog 53 #[v] w fun e w' => e = .returned (.bool t.okB) ∧ Below w.heap.size w w' := by
  cases t with
  | mk ex ps =>
    obtain ⟨k, nm, n, tk, ta, tn, tc, sa, sn, sc, pa, pn, pc, rfl, he, hp, hl⟩ := h
    dsimp only at he hp hl ⊢
    have hbk : (Edi.mk ex ps).bulk = ex.bulk + ps.length := rfl
    have hn1 : ex.bulk ≤ 1048576 := hx
    have hn2 : ps.length ≤ 1048577 := hn
    have HQ : Hid ((Edi.mk ex ps).okB = ((ex.sub ps).isSome && (ex.valid && !ex.has 14))) := rfl
    clear hx hn hbk hl
    have B : Hid (Below w.heap.size w (w.alloc (.cells #[.int .i64 k, .string nm, .int .i64 n, .int .i64 tk, .slice ta tn tc, .slice sa sn sc, .slice pa pn pc] 39))) := below_alloc _ _
    have XA : Hid (BoxAt (w.alloc (.cells #[.int .i64 k, .string nm, .int .i64 n, .int .i64 tk, .slice ta tn tc, .slice sa sn sc, .slice pa pn pc] 39)) w.heap.size #[.int .i64 k, .string nm, .int .i64 n, .int .i64 tk, .slice ta tn tc, .slice sa sn sc, .slice pa pn pc]) := BoxAt.new _ _ _
    have HE := Lib.hid (he.below B.out)
    have HP := Lib.hid (hp.below B.out)
    clear he hp
    go_enter Tryd.func53, Tryd.ntmps53
    go_wp2_with fail
    refine (specSubW d _ _ ex ps _ HE.out HP.out hn1 hn2).mono ?_
    rintro e w1 ⟨s, rfl, hs, hb⟩
    obtain ⟨yk, ynm, yn, ytk, yta, ytn, ytc, ya, ym, yc, rfl⟩ := ex_parts hs.at_
    clear hs
    replace B := Lib.hid (below_thru B.out (Nat.le_refl _) hb)
    replace XA := Lib.hid (XA.out.below hb)
    replace HE := Lib.hid (HE.out.below hb)
    replace HP := Lib.hid (HP.out.below hb)
    clear hb
    cases hq : (ex.sub ps).isSome with
    | false =>
      rw [hq] at HQ
      go_wp2_with fail
      go_ret
      exact ⟨by rw [HQ.out]; rfl, B.out.alloc B.out.size _⟩
    | true =>
      rw [hq] at HQ
      have hb : Below w1.heap.size w1 (w1.alloc (.cells #[.int .i64 yk, .string ynm, .int .i64 yn, .int .i64 ytk, .slice yta ytn ytc, .slice ya ym yc] 37)) := below_alloc _ _
      replace B := Lib.hid (below_thru B.out (Nat.le_refl _) hb)
      replace XA := Lib.hid (XA.out.below hb)
      replace HE := Lib.hid (HE.out.below hb)
      replace HP := Lib.hid (HP.out.below hb)
      clear hb
      have c0 := XA.out.2 0
      have c1 := XA.out.2 1
      have c2 := XA.out.2 2
      have c3 := XA.out.2 3
      have c4 := XA.out.2 4
      have c5 := XA.out.2 5
      go_wp2_with fail
      clear c0 c1 c2 c3 c4 c5
      refine (specExRaw d _ ex _ HE.out hn1).mono ?_
      rintro e w2 ⟨rfl, hb⟩
      replace B := Lib.hid (below_thru B.out (Nat.le_refl _) hb)
      replace XA := Lib.hid (XA.out.below hb)
      replace HE := Lib.hid (HE.out.below hb)
      replace HP := Lib.hid (HP.out.below hb)
      clear hb
      go_wp2_with fail
      go_ret
      exact ⟨by rw [HQ.out]; rfl, B.out⟩
end Go.Proofs.YtmmnjdhmankieaaDoor
/-
  Proved: spec.l14To, for paths of one more step.
-/
namespace Go.Proofs.YtmmnjdhmankieaaDoor
open Go.RowKit

theorem path_appendW (ty : TypeId) (w : World) (b : Addr) (v : Value) (ps : List Int) (hv : Ints w v ps) (hn : ps.length ≤ 1048577) :
    ∃ v' w', (Builtin.append_ #[28, 28] ty #[.slice (some b) 0 0, v]).run Tryd.prog w = .ok v' w' ∧ (∃ a cap, v' = .slice a ps.length cap) ∧ (∀ W', (∀ b, w.heap.size ≤ b → b < w'.heap.size → W'.heap[b]? = w'.heap[b]?) → Ints W' v' ps) ∧ Below w.heap.size w w' := by
  obtain ⟨i0, hi, hz0, hz1, hz2⟩ := info_parts info_i
  obtain ⟨a, cap, rfl, hcap, hat⟩ := hv
  by_cases h0 : 0 < ps.length
  · obtain ⟨g, off, rfl, hg, _⟩ := hat 0 h0
    obtain ⟨v', w', hr, ho, hgr⟩ := run_append_arg_grows (P := Tryd.prog) (w := w) 28 ty 3 i0 (.int .i64 0) 1 8 Tryd.underlying28 hi hz0 hz1 hz2 rfl (by omega) b 0 0 [] rfl (fun j u h => by simp at h)
      ⟨g, off, none⟩ ps.length cap (ps.map (Value.int IntKind.i64)) (by simp) (fun j u h => by
        simp at h
        obtain ⟨x, hx, rfl⟩ := h
        obtain ⟨hj, rfl⟩ := List.getElem?_eq_some_iff.1 hx
        obtain ⟨g', off', e, _, hc⟩ := hat j hj
        cases e
        rw [addr_add]; exact hc) (by omega) (by unfold maxLen; omega) (by omega)
    rw [Nat.zero_add, List.nil_append] at ho
    have hi2 := Ints.of_own ho
    refine ⟨v', w', hr, ?_, fun W' hk => Ints.of_own (own_keeps ho fun k e => hk k (ho.lt k e).1 (ho.lt k e).2), (Below.refl _ w).grown hgr (Nat.le_refl _) (fun k e => by cases e)⟩
    obtain ⟨a', cap', hv', _⟩ := hi2
    exact ⟨a', cap', hv'⟩
  · have hp : ps = [] := List.length_eq_zero_iff.1 (by omega)
    subst hp
    refine ⟨_, w, run_append_nothing w 28 28 ty 3 i0 Tryd.underlying28 hi (some b) 0 0 (Nat.le_refl _) (.slice a 0 cap) ?_, ⟨some b, 0, rfl⟩, fun _ _ => Ints.nil _ _, Below.refl _ _⟩
    cases a with
    | none => exact Src.ofNil w Tryd.underlying28 cap
    | some a => exact Src.ofSlice w Tryd.underlying28 a 0 cap [] (by simp) (fun j u h => by simp at h) (by simp)
set_option maxRecDepth 100000 in
set_option maxHeartbeats 8000000 in
theorem specToW (d : Nat) (v pv : Value) (t : Edi) (ps : List Int) (w : World) (h : EditAt w d v t) (hp2 : Ints w pv ps) (hsz : t.bulk ≤ 1048576) (hn : ps.length ≤ 1048577) :
    Calls Tryd.prog 28 #[v, pv] w (EdEnd d (t.to ps).1 (t.to ps).2 w) := by
  obtain ⟨xk, xnm, xn, xtk, xta, xtn, xtc, xsa, xsn, xsc, xpa, xpn, xpc, rfl⟩ := edit_parts h
  obtain ⟨pa, pc, rfl, hpc, hpat⟩ := hp2
  have hp2 : Ints w (.slice pa ps.length pc) ps := ⟨pa, pc, rfl, hpc, hpat⟩
  clear hpc hpat
  have hbk : t.bulk = t.ex.bulk + t.path.length := rfl
  have hn1 : t.ex.bulk ≤ 1048576 := by omega
  have hn3 : t.path.length ≤ 1048577 := by omega
  clear hbk
  have hn2 : ps.length ≤ 1048577 := hn
  have B : Hid (Below w.heap.size w ((w.alloc (.cells #[.int .i64 xk, .string xnm, .int .i64 xn, .int .i64 xtk, .slice xta xtn xtc, .slice xsa xsn xsc, .slice xpa xpn xpc] 39)).alloc (.cells #[.int .i64 0, .string ⟨#[]⟩, .int .i64 0, .int .i64 0, .slice none 0 0, .slice none 0 0, .slice none 0 0] 39))) := ((Below.refl _ _).alloc (Nat.le_refl _) _).alloc (by simp) _
  have XA : Hid (BoxAt ((w.alloc (.cells #[.int .i64 xk, .string xnm, .int .i64 xn, .int .i64 xtk, .slice xta xtn xtc, .slice xsa xsn xsc, .slice xpa xpn xpc] 39)).alloc (.cells #[.int .i64 0, .string ⟨#[]⟩, .int .i64 0, .int .i64 0, .slice none 0 0, .slice none 0 0, .slice none 0 0] 39)) w.heap.size #[.int .i64 xk, .string xnm, .int .i64 xn, .int .i64 xtk, .slice xta xtn xtc, .slice xsa xsn xsc, .slice xpa xpn xpc]) := (BoxAt.new _ _ _).below (below_alloc _ _)
  have XR : Hid (BoxAt ((w.alloc (.cells #[.int .i64 xk, .string xnm, .int .i64 xn, .int .i64 xtk, .slice xta xtn xtc, .slice xsa xsn xsc, .slice xpa xpn xpc] 39)).alloc (.cells #[.int .i64 0, .string ⟨#[]⟩, .int .i64 0, .int .i64 0, .slice none 0 0, .slice none 0 0, .slice none 0 0] 39)) (w.heap.size + 1) #[.int .i64 0, .string ⟨#[]⟩, .int .i64 0, .int .i64 0, .slice none 0 0, .slice none 0 0, .slice none 0 0]) := box_at (BoxAt.new _ _ _) (by simp)
  have FR : Hid (FreeAt ((w.alloc (.cells #[.int .i64 xk, .string xnm, .int .i64 xn, .int .i64 xtk, .slice xta xtn xtc, .slice xsa xsn xsc, .slice xpa xpn xpc] 39)).alloc (.cells #[.int .i64 0, .string ⟨#[]⟩, .int .i64 0, .int .i64 0, .slice none 0 0, .slice none 0 0, .slice none 0 0] 39)) (w.heap.size + 1)) := free_at (FreeAt.new _ _ _) (by simp)
  have hz0 : ((w.alloc (.cells #[.int .i64 xk, .string xnm, .int .i64 xn, .int .i64 xtk, .slice xta xtn xtc, .slice xsa xsn xsc, .slice xpa xpn xpc] 39)).alloc (.cells #[.int .i64 0, .string ⟨#[]⟩, .int .i64 0, .int .i64 0, .slice none 0 0, .slice none 0 0, .slice none 0 0] 39)).heap.size = w.heap.size + 2 := by simp
  have HA := Lib.hid (h.below B.out)
  have HP := Lib.hid (hp2.below B.out)
  clear h hp2
  have x0 := XA.out.2 0
  have x1 := XA.out.2 1
  have x2 := XA.out.2 2
  have x3 := XA.out.2 3
  have x4 := XA.out.2 4
  have x5 := XA.out.2 5
  go_enter Tryd.func28, Tryd.ntmps28
  go_wp2_with fail
  clear x0 x1 x2 x3 x4 x5
  refine (specExCopy d _ t.ex _ hn1 (edit_ex HA.out)).mono ?_
  rintro e w1 ⟨v1, fp, rfl, ht, hfp, hb⟩
  obtain ⟨yk, ynm, yn, ytk, yta, ytn, ytc, ysa, ysn, ysc, rfl⟩ := ex_parts ht.at_
  have hz1 := hb.size
  rw [hz0] at hz1 hfp
  replace B := Lib.hid (below_thru B.out (Nat.le_refl _) hb)
  replace XA := Lib.hid (XA.out.below hb)
  replace XR := Lib.hid (XR.out.below hb)
  replace FR := Lib.hid (FR.out.below hb)
  replace HA := Lib.hid (HA.out.below hb)
  replace HP := Lib.hid (HP.out.below hb)
  have HO : Hid (ExIn w1 d (.agg #[.int .i64 yk, .string ynm, .int .i64 yn, .int .i64 ytk, .slice yta ytn ytc, .slice ysa ysn ysc]) t.ex (w.heap.size + 2) w1.heap.size) := ⟨fp, ht, hfp, Nat.le_refl _⟩
  clear ht hfp hb hz0
  go_upto_region 2 with (at_builtin; refine wpList_append_any rfl (.tmp 10) (.tmp 11) 28 rfl (.slice (some ⟨_, 0, none⟩) 0 0) (.slice pa ps.length pc) rfl rfl (path_appendW _ _ _ _ ps (HP.out.below (below_alloc _ _)) hn2) ?_; rintro _ w2 ⟨⟨ga, gc, rfl⟩, hgi, hgb⟩; have hb := below_thru (below_alloc w1 (.cells #[] 3)) (Nat.le_refl _) hgb; have hz2 := hb.size; have hz2b := hgb.size; have HG := Lib.hid hgi; have hzA : (w1.alloc (.cells #[] 3)).heap.size = w1.heap.size + 1 := (by simp); clear hgi hgb)
  have HU : Hid (EditUp (w.heap.size + 2) w2 d (.agg #[.int .i64 yk, .string ynm, .int .i64 yn, .int .i64 ytk, .slice yta ytn ytc, .slice ysa ysn ysc, .slice ga ps.length gc]) ⟨t.ex, ps⟩) := by
    obtain ⟨fp, ht, hf, _⟩ := HO.out
    exact fun W hs hk => ⟨_, _, _, _, _, _, _, _, _, _, _, _, _, rfl, (ht.kept (Nat.le_trans hz2 hs) fun b hbf => by
      have h1 := hf.2 b hbf
      rw [hk b (by omega) (by omega), hb.block b h1.2]).at_, HG.out W (fun b h1 h2 => hk b (by omega) h2), by dsimp only; omega⟩
  replace HU := Lib.hid (HU.out.below (below_alloc w2 (.cells #[.int .i64 yk, .string ynm, .int .i64 yn, .int .i64 ytk, .slice yta ytn ytc, .slice ysa ysn ysc, .slice ga ps.length gc] 39)))
  replace hb := below_thru hb (Nat.le_refl _) (below_alloc w2 (.cells #[.int .i64 yk, .string ynm, .int .i64 yn, .int .i64 ytk, .slice yta ytn ytc, .slice ysa ysn ysc, .slice ga ps.length gc] 39))
  replace B := Lib.hid (below_thru B.out (Nat.le_refl _) hb)
  replace XA := Lib.hid (XA.out.below hb)
  replace XR := Lib.hid (XR.out.below hb)
  replace FR := Lib.hid (FR.out.below hb)
  replace HA := Lib.hid (HA.out.below hb)
  have XC : Hid (BoxAt (w2.alloc (.cells #[.int .i64 yk, .string ynm, .int .i64 yn, .int .i64 ytk, .slice yta ytn ytc, .slice ysa ysn ysc, .slice ga ps.length gc] 39)) w2.heap.size #[.int .i64 yk, .string ynm, .int .i64 yn, .int .i64 ytk, .slice yta ytn ytc, .slice ysa ysn ysc, .slice ga ps.length gc]) := BoxAt.new _ _ _
  have hz3 : (w2.alloc (.cells #[.int .i64 yk, .string ynm, .int .i64 yn, .int .i64 ytk, .slice yta ytn ytc, .slice ysa ysn ysc, .slice ga ps.length gc] 39)).heap.size = w2.heap.size + 1 := by simp
  clear hb HO HG HP hz2b hzA
  generalize (w2.alloc (.cells #[.int .i64 yk, .string ynm, .int .i64 yn, .int .i64 ytk, .slice yta ytn ytc, .slice ysa ysn ysc, .slice ga ps.length gc] 39)) = w3 at B XA XR FR HA HU XC hz3 ⊢
  have x0 := XA.out.2 0
  have x1 := XA.out.2 1
  have x2 := XA.out.2 2
  have x3 := XA.out.2 3
  have x4 := XA.out.2 4
  have x5 := XA.out.2 5
  have x6 := XA.out.2 6
  go_wp2_with fail
  clear x0 x1 x2 x3 x4 x5 x6
  refine (specIsEditW d _ t _ HA.out hn1 hn3).mono ?_
  rintro e w4 ⟨he1, hb⟩
  have hz4 := hb.size
  replace B := Lib.hid (below_thru B.out (Nat.le_refl _) hb)
  replace XA := Lib.hid (XA.out.below hb)
  replace XR := Lib.hid (XR.out.below hb)
  replace FR := Lib.hid (FR.out.below hb)
  replace HA := Lib.hid (HA.out.below hb)
  replace XC := Lib.hid (XC.out.below hb)
  replace HU := Lib.hid (HU.out.below hb)
  clear hb
  cases hq : t.okB with
  | false =>
    rw [hq] at he1
    subst he1
    have HQ : Hid (t.to ps = (t, false)) := by show _ = _; unfold Edi.to; rw [hq]; rfl
    clear hq
    have x0 := XA.out.2 0
    have x1 := XA.out.2 1
    have x2 := XA.out.2 2
    have x3 := XA.out.2 3
    have x4 := XA.out.2 4
    have x5 := XA.out.2 5
    have x6 := XA.out.2 6
    go_wp2_with fail
    clear x0 x1 x2 x3 x4 x5 x6
    refine (specCopyEdit d _ t _ HA.out hsz).mono ?_
    rintro e w5 ⟨v5, rfl, hv, hb⟩
    obtain ⟨zk, znm, zn, ztk, zta, ztn, ztc, zsa, zsn, zsc, zpa, zpn, zpc, rfl⟩ := hv.parts
    have HV := Lib.hid hv
    have hz5 := hb.size
    replace B := Lib.hid (below_thru B.out (Nat.le_refl _) hb)
    replace XA := Lib.hid (XA.out.below hb)
    replace XR := Lib.hid (XR.out.below hb)
    replace FR := Lib.hid (FR.out.below hb)
    replace HA := Lib.hid (HA.out.below hb)
    clear hv hb
    have r0 := XR.out.2 0
    have s0 := FR.out.2 0
    have r1 := XR.out.2 1
    have s1 := FR.out.2 1
    have r2 := XR.out.2 2
    have s2 := FR.out.2 2
    have r3 := XR.out.2 3
    have s3 := FR.out.2 3
    have r4 := XR.out.2 4
    have s4 := FR.out.2 4
    have r5 := XR.out.2 5
    have s5 := FR.out.2 5
    have r6 := XR.out.2 6
    have s6 := FR.out.2 6
    go_wp2_with fail
    have XRF : BoxAt (((((((w5.setCell ⟨w.heap.size + 1, 0, none⟩ (.int .i64 zk)).setCell ⟨w.heap.size + 1, 1, none⟩ (.string znm)).setCell ⟨w.heap.size + 1, 2, none⟩ (.int .i64 zn)).setCell ⟨w.heap.size + 1, 3, none⟩ (.int .i64 ztk)).setCell ⟨w.heap.size + 1, 4, none⟩ (.slice zta ztn ztc)).setCell ⟨w.heap.size + 1, 5, none⟩ (.slice zsa zsn zsc)).setCell ⟨w.heap.size + 1, 6, none⟩ (.slice zpa zpn zpc)) (w.heap.size + 1) #[.int .i64 zk, .string znm, .int .i64 zn, .int .i64 ztk, .slice zta ztn ztc, .slice zsa zsn zsc, .slice zpa zpn zpc] := by
      have := (((((((XR.out.put (j := 0) (u := .int .i64 zk) (by simp)).put (j := 1) (u := .string znm) (by simp)).put (j := 2) (u := .int .i64 zn) (by simp)).put (j := 3) (u := .int .i64 ztk) (by simp)).put (j := 4) (u := .slice zta ztn ztc) (by simp)).put (j := 5) (u := .slice zsa zsn zsc) (by simp)).put (j := 6) (u := .slice zpa zpn zpc) (by simp))
      exact this
    have hBF : Below w.heap.size w (((((((w5.setCell ⟨w.heap.size + 1, 0, none⟩ (.int .i64 zk)).setCell ⟨w.heap.size + 1, 1, none⟩ (.string znm)).setCell ⟨w.heap.size + 1, 2, none⟩ (.int .i64 zn)).setCell ⟨w.heap.size + 1, 3, none⟩ (.int .i64 ztk)).setCell ⟨w.heap.size + 1, 4, none⟩ (.slice zta ztn ztc)).setCell ⟨w.heap.size + 1, 5, none⟩ (.slice zsa zsn zsc)).setCell ⟨w.heap.size + 1, 6, none⟩ (.slice zpa zpn zpc)) := (((((((B.out.setCell (by simp) _).setCell (by simp) _).setCell (by simp) _).setCell (by simp) _).setCell (by simp) _).setCell (by simp) _).setCell (by simp) _)
    have hsz : (((((((w5.setCell ⟨w.heap.size + 1, 0, none⟩ (.int .i64 zk)).setCell ⟨w.heap.size + 1, 1, none⟩ (.string znm)).setCell ⟨w.heap.size + 1, 2, none⟩ (.int .i64 zn)).setCell ⟨w.heap.size + 1, 3, none⟩ (.int .i64 ztk)).setCell ⟨w.heap.size + 1, 4, none⟩ (.slice zta ztn ztc)).setCell ⟨w.heap.size + 1, 5, none⟩ (.slice zsa zsn zsc)).setCell ⟨w.heap.size + 1, 6, none⟩ (.slice zpa zpn zpc)).heap.size = w5.heap.size := by simp
    have hkf : ∀ b, b ≠ w.heap.size + 1 → (((((((w5.setCell ⟨w.heap.size + 1, 0, none⟩ (.int .i64 zk)).setCell ⟨w.heap.size + 1, 1, none⟩ (.string znm)).setCell ⟨w.heap.size + 1, 2, none⟩ (.int .i64 zn)).setCell ⟨w.heap.size + 1, 3, none⟩ (.int .i64 ztk)).setCell ⟨w.heap.size + 1, 4, none⟩ (.slice zta ztn ztc)).setCell ⟨w.heap.size + 1, 5, none⟩ (.slice zsa zsn zsc)).setCell ⟨w.heap.size + 1, 6, none⟩ (.slice zpa zpn zpc)).heap[b]? = w5.heap[b]? := fun b hb => by
      rw [heap_setCell_other _ _ _ _ (by simp; omega), heap_setCell_other _ _ _ _ (by simp; omega), heap_setCell_other _ _ _ _ (by simp; omega), heap_setCell_other _ _ _ _ (by simp; omega), heap_setCell_other _ _ _ _ (by simp; omega), heap_setCell_other _ _ _ _ (by simp; omega), heap_setCell_other _ _ _ _ (by simp; omega)]
    generalize (((((((w5.setCell ⟨w.heap.size + 1, 0, none⟩ (.int .i64 zk)).setCell ⟨w.heap.size + 1, 1, none⟩ (.string znm)).setCell ⟨w.heap.size + 1, 2, none⟩ (.int .i64 zn)).setCell ⟨w.heap.size + 1, 3, none⟩ (.int .i64 ztk)).setCell ⟨w.heap.size + 1, 4, none⟩ (.slice zta ztn ztc)).setCell ⟨w.heap.size + 1, 5, none⟩ (.slice zsa zsn zsc)).setCell ⟨w.heap.size + 1, 6, none⟩ (.slice zpa zpn zpc)) = WX at XRF hBF hsz hkf ⊢
    have HVX : EditUp w.heap.size WX d (.agg #[.int .i64 zk, .string znm, .int .i64 zn, .int .i64 ztk, .slice zta ztn ztc, .slice zsa zsn zsc, .slice zpa zpn zpc]) t := (HV.out.kept (by rw [hsz]; exact Nat.le_refl _) fun b hb _ => hkf b (by omega)).mono (by omega)
    have h0 := XRF.2 0
    have h1 := XRF.2 1
    have h2 := XRF.2 2
    have h3 := XRF.2 3
    have h4 := XRF.2 4
    have h5 := XRF.2 5
    have h6 := XRF.2 6
    refine bodyPost_ret (v := .tuple #[.agg #[.int .i64 zk, .string znm, .int .i64 zn, .int .i64 ztk, .slice zta ztn ztc, .slice zsa zsn zsc, .slice zpa zpn zpc], .bool false]) (by simp [results, Tryd.results28, go_sem, h0, h1, h2, h3, h4, h5, h6]) rfl ?_
    rw [HQ.out]
    exact ⟨_, rfl, HVX, hBF⟩
  | true =>
    rw [hq] at he1
    subst he1
    have c0 := XC.out.2 0
    have c1 := XC.out.2 1
    have c2 := XC.out.2 2
    have c3 := XC.out.2 3
    have c4 := XC.out.2 4
    have c5 := XC.out.2 5
    have c6 := XC.out.2 6
    go_wp2_with fail
    clear c0 c1 c2 c3 c4 c5 c6
    refine (specIsEditW d _ ⟨t.ex, ps⟩ _ HU.out.at_ hn1 hn2).mono ?_
    rintro e w6 ⟨he1, hb⟩
    have hz6 := hb.size
    replace B := Lib.hid (below_thru B.out (Nat.le_refl _) hb)
    replace XA := Lib.hid (XA.out.below hb)
    replace XR := Lib.hid (XR.out.below hb)
    replace FR := Lib.hid (FR.out.below hb)
    replace HA := Lib.hid (HA.out.below hb)
    replace XC := Lib.hid (XC.out.below hb)
    replace HU := Lib.hid (HU.out.below hb)
    clear hb
    cases hq2 : (Edi.mk t.ex ps).okB with
    | false =>
      rw [hq2] at he1
      subst he1
      have HQ : Hid (t.to ps = (t, false)) := by show _ = _; unfold Edi.to; rw [hq, hq2]; rfl
      clear hq hq2
      have x0 := XA.out.2 0
      have x1 := XA.out.2 1
      have x2 := XA.out.2 2
      have x3 := XA.out.2 3
      have x4 := XA.out.2 4
      have x5 := XA.out.2 5
      have x6 := XA.out.2 6
      go_wp2_with fail
      clear x0 x1 x2 x3 x4 x5 x6
      refine (specCopyEdit d _ t _ HA.out hsz).mono ?_
      rintro e w5 ⟨v5, rfl, hv, hb⟩
      obtain ⟨zk, znm, zn, ztk, zta, ztn, ztc, zsa, zsn, zsc, zpa, zpn, zpc, rfl⟩ := hv.parts
      have HV := Lib.hid hv
      have hz5 := hb.size
      replace B := Lib.hid (below_thru B.out (Nat.le_refl _) hb)
      replace XA := Lib.hid (XA.out.below hb)
      replace XR := Lib.hid (XR.out.below hb)
      replace FR := Lib.hid (FR.out.below hb)
      replace HA := Lib.hid (HA.out.below hb)
      clear hv hb
      have r0 := XR.out.2 0
      have s0 := FR.out.2 0
      have r1 := XR.out.2 1
      have s1 := FR.out.2 1
      have r2 := XR.out.2 2
      have s2 := FR.out.2 2
      have r3 := XR.out.2 3
      have s3 := FR.out.2 3
      have r4 := XR.out.2 4
      have s4 := FR.out.2 4
      have r5 := XR.out.2 5
      have s5 := FR.out.2 5
      have r6 := XR.out.2 6
      have s6 := FR.out.2 6
      go_wp2_with fail
      have XRF : BoxAt (((((((w5.setCell ⟨w.heap.size + 1, 0, none⟩ (.int .i64 zk)).setCell ⟨w.heap.size + 1, 1, none⟩ (.string znm)).setCell ⟨w.heap.size + 1, 2, none⟩ (.int .i64 zn)).setCell ⟨w.heap.size + 1, 3, none⟩ (.int .i64 ztk)).setCell ⟨w.heap.size + 1, 4, none⟩ (.slice zta ztn ztc)).setCell ⟨w.heap.size + 1, 5, none⟩ (.slice zsa zsn zsc)).setCell ⟨w.heap.size + 1, 6, none⟩ (.slice zpa zpn zpc)) (w.heap.size + 1) #[.int .i64 zk, .string znm, .int .i64 zn, .int .i64 ztk, .slice zta ztn ztc, .slice zsa zsn zsc, .slice zpa zpn zpc] := by
        have := (((((((XR.out.put (j := 0) (u := .int .i64 zk) (by simp)).put (j := 1) (u := .string znm) (by simp)).put (j := 2) (u := .int .i64 zn) (by simp)).put (j := 3) (u := .int .i64 ztk) (by simp)).put (j := 4) (u := .slice zta ztn ztc) (by simp)).put (j := 5) (u := .slice zsa zsn zsc) (by simp)).put (j := 6) (u := .slice zpa zpn zpc) (by simp))
        exact this
      have hBF : Below w.heap.size w (((((((w5.setCell ⟨w.heap.size + 1, 0, none⟩ (.int .i64 zk)).setCell ⟨w.heap.size + 1, 1, none⟩ (.string znm)).setCell ⟨w.heap.size + 1, 2, none⟩ (.int .i64 zn)).setCell ⟨w.heap.size + 1, 3, none⟩ (.int .i64 ztk)).setCell ⟨w.heap.size + 1, 4, none⟩ (.slice zta ztn ztc)).setCell ⟨w.heap.size + 1, 5, none⟩ (.slice zsa zsn zsc)).setCell ⟨w.heap.size + 1, 6, none⟩ (.slice zpa zpn zpc)) := (((((((B.out.setCell (by simp) _).setCell (by simp) _).setCell (by simp) _).setCell (by simp) _).setCell (by simp) _).setCell (by simp) _).setCell (by simp) _)
      have hsz : (((((((w5.setCell ⟨w.heap.size + 1, 0, none⟩ (.int .i64 zk)).setCell ⟨w.heap.size + 1, 1, none⟩ (.string znm)).setCell ⟨w.heap.size + 1, 2, none⟩ (.int .i64 zn)).setCell ⟨w.heap.size + 1, 3, none⟩ (.int .i64 ztk)).setCell ⟨w.heap.size + 1, 4, none⟩ (.slice zta ztn ztc)).setCell ⟨w.heap.size + 1, 5, none⟩ (.slice zsa zsn zsc)).setCell ⟨w.heap.size + 1, 6, none⟩ (.slice zpa zpn zpc)).heap.size = w5.heap.size := by simp
      have hkf : ∀ b, b ≠ w.heap.size + 1 → (((((((w5.setCell ⟨w.heap.size + 1, 0, none⟩ (.int .i64 zk)).setCell ⟨w.heap.size + 1, 1, none⟩ (.string znm)).setCell ⟨w.heap.size + 1, 2, none⟩ (.int .i64 zn)).setCell ⟨w.heap.size + 1, 3, none⟩ (.int .i64 ztk)).setCell ⟨w.heap.size + 1, 4, none⟩ (.slice zta ztn ztc)).setCell ⟨w.heap.size + 1, 5, none⟩ (.slice zsa zsn zsc)).setCell ⟨w.heap.size + 1, 6, none⟩ (.slice zpa zpn zpc)).heap[b]? = w5.heap[b]? := fun b hb => by
        rw [heap_setCell_other _ _ _ _ (by simp; omega), heap_setCell_other _ _ _ _ (by simp; omega), heap_setCell_other _ _ _ _ (by simp; omega), heap_setCell_other _ _ _ _ (by simp; omega), heap_setCell_other _ _ _ _ (by simp; omega), heap_setCell_other _ _ _ _ (by simp; omega), heap_setCell_other _ _ _ _ (by simp; omega)]
      generalize (((((((w5.setCell ⟨w.heap.size + 1, 0, none⟩ (.int .i64 zk)).setCell ⟨w.heap.size + 1, 1, none⟩ (.string znm)).setCell ⟨w.heap.size + 1, 2, none⟩ (.int .i64 zn)).setCell ⟨w.heap.size + 1, 3, none⟩ (.int .i64 ztk)).setCell ⟨w.heap.size + 1, 4, none⟩ (.slice zta ztn ztc)).setCell ⟨w.heap.size + 1, 5, none⟩ (.slice zsa zsn zsc)).setCell ⟨w.heap.size + 1, 6, none⟩ (.slice zpa zpn zpc)) = WX at XRF hBF hsz hkf ⊢
      have HVX : EditUp w.heap.size WX d (.agg #[.int .i64 zk, .string znm, .int .i64 zn, .int .i64 ztk, .slice zta ztn ztc, .slice zsa zsn zsc, .slice zpa zpn zpc]) t := (HV.out.kept (by rw [hsz]; exact Nat.le_refl _) fun b hb _ => hkf b (by omega)).mono (by omega)
      have h0 := XRF.2 0
      have h1 := XRF.2 1
      have h2 := XRF.2 2
      have h3 := XRF.2 3
      have h4 := XRF.2 4
      have h5 := XRF.2 5
      have h6 := XRF.2 6
      refine bodyPost_ret (v := .tuple #[.agg #[.int .i64 zk, .string znm, .int .i64 zn, .int .i64 ztk, .slice zta ztn ztc, .slice zsa zsn zsc, .slice zpa zpn zpc], .bool false]) (by simp [results, Tryd.results28, go_sem, h0, h1, h2, h3, h4, h5, h6]) rfl ?_
      rw [HQ.out]
      exact ⟨_, rfl, HVX, hBF⟩
    | true =>
      rw [hq2] at he1
      subst he1
      have HQ : Hid (t.to ps = (⟨t.ex, ps⟩, true)) := by show _ = _; unfold Edi.to; rw [hq, hq2]; rfl
      clear hq hq2
      have c0 := XC.out.2 0
      have c1 := XC.out.2 1
      have c2 := XC.out.2 2
      have c3 := XC.out.2 3
      have c4 := XC.out.2 4
      have c5 := XC.out.2 5
      have c6 := XC.out.2 6
      have r0 := XR.out.2 0
      have s0 := FR.out.2 0
      have r1 := XR.out.2 1
      have s1 := FR.out.2 1
      have r2 := XR.out.2 2
      have s2 := FR.out.2 2
      have r3 := XR.out.2 3
      have s3 := FR.out.2 3
      have r4 := XR.out.2 4
      have s4 := FR.out.2 4
      have r5 := XR.out.2 5
      have s5 := FR.out.2 5
      have r6 := XR.out.2 6
      have s6 := FR.out.2 6
      go_wp2_with fail
      have XRF : BoxAt (((((((w6.setCell ⟨w.heap.size + 1, 0, none⟩ (.int .i64 yk)).setCell ⟨w.heap.size + 1, 1, none⟩ (.string ynm)).setCell ⟨w.heap.size + 1, 2, none⟩ (.int .i64 yn)).setCell ⟨w.heap.size + 1, 3, none⟩ (.int .i64 ytk)).setCell ⟨w.heap.size + 1, 4, none⟩ (.slice yta ytn ytc)).setCell ⟨w.heap.size + 1, 5, none⟩ (.slice ysa ysn ysc)).setCell ⟨w.heap.size + 1, 6, none⟩ (.slice ga ps.length gc)) (w.heap.size + 1) #[.int .i64 yk, .string ynm, .int .i64 yn, .int .i64 ytk, .slice yta ytn ytc, .slice ysa ysn ysc, .slice ga ps.length gc] := by
        have := (((((((XR.out.put (j := 0) (u := .int .i64 yk) (by simp)).put (j := 1) (u := .string ynm) (by simp)).put (j := 2) (u := .int .i64 yn) (by simp)).put (j := 3) (u := .int .i64 ytk) (by simp)).put (j := 4) (u := .slice yta ytn ytc) (by simp)).put (j := 5) (u := .slice ysa ysn ysc) (by simp)).put (j := 6) (u := .slice ga ps.length gc) (by simp))
        exact this
      have hBF : Below w.heap.size w (((((((w6.setCell ⟨w.heap.size + 1, 0, none⟩ (.int .i64 yk)).setCell ⟨w.heap.size + 1, 1, none⟩ (.string ynm)).setCell ⟨w.heap.size + 1, 2, none⟩ (.int .i64 yn)).setCell ⟨w.heap.size + 1, 3, none⟩ (.int .i64 ytk)).setCell ⟨w.heap.size + 1, 4, none⟩ (.slice yta ytn ytc)).setCell ⟨w.heap.size + 1, 5, none⟩ (.slice ysa ysn ysc)).setCell ⟨w.heap.size + 1, 6, none⟩ (.slice ga ps.length gc)) := (((((((B.out.setCell (by simp) _).setCell (by simp) _).setCell (by simp) _).setCell (by simp) _).setCell (by simp) _).setCell (by simp) _).setCell (by simp) _)
      have hsz : (((((((w6.setCell ⟨w.heap.size + 1, 0, none⟩ (.int .i64 yk)).setCell ⟨w.heap.size + 1, 1, none⟩ (.string ynm)).setCell ⟨w.heap.size + 1, 2, none⟩ (.int .i64 yn)).setCell ⟨w.heap.size + 1, 3, none⟩ (.int .i64 ytk)).setCell ⟨w.heap.size + 1, 4, none⟩ (.slice yta ytn ytc)).setCell ⟨w.heap.size + 1, 5, none⟩ (.slice ysa ysn ysc)).setCell ⟨w.heap.size + 1, 6, none⟩ (.slice ga ps.length gc)).heap.size = w6.heap.size := by simp
      have hkf : ∀ b, b ≠ w.heap.size + 1 → (((((((w6.setCell ⟨w.heap.size + 1, 0, none⟩ (.int .i64 yk)).setCell ⟨w.heap.size + 1, 1, none⟩ (.string ynm)).setCell ⟨w.heap.size + 1, 2, none⟩ (.int .i64 yn)).setCell ⟨w.heap.size + 1, 3, none⟩ (.int .i64 ytk)).setCell ⟨w.heap.size + 1, 4, none⟩ (.slice yta ytn ytc)).setCell ⟨w.heap.size + 1, 5, none⟩ (.slice ysa ysn ysc)).setCell ⟨w.heap.size + 1, 6, none⟩ (.slice ga ps.length gc)).heap[b]? = w6.heap[b]? := fun b hb => by
        rw [heap_setCell_other _ _ _ _ (by simp; omega), heap_setCell_other _ _ _ _ (by simp; omega), heap_setCell_other _ _ _ _ (by simp; omega), heap_setCell_other _ _ _ _ (by simp; omega), heap_setCell_other _ _ _ _ (by simp; omega), heap_setCell_other _ _ _ _ (by simp; omega), heap_setCell_other _ _ _ _ (by simp; omega)]
      generalize (((((((w6.setCell ⟨w.heap.size + 1, 0, none⟩ (.int .i64 yk)).setCell ⟨w.heap.size + 1, 1, none⟩ (.string ynm)).setCell ⟨w.heap.size + 1, 2, none⟩ (.int .i64 yn)).setCell ⟨w.heap.size + 1, 3, none⟩ (.int .i64 ytk)).setCell ⟨w.heap.size + 1, 4, none⟩ (.slice yta ytn ytc)).setCell ⟨w.heap.size + 1, 5, none⟩ (.slice ysa ysn ysc)).setCell ⟨w.heap.size + 1, 6, none⟩ (.slice ga ps.length gc)) = WX at XRF hBF hsz hkf ⊢
      have HVX : EditUp w.heap.size WX d (.agg #[.int .i64 yk, .string ynm, .int .i64 yn, .int .i64 ytk, .slice yta ytn ytc, .slice ysa ysn ysc, .slice ga ps.length gc]) ⟨t.ex, ps⟩ := (HU.out.kept (by rw [hsz]; exact Nat.le_refl _) fun b hb _ => hkf b (by omega)).mono (by omega)
      have h0 := XRF.2 0
      have h1 := XRF.2 1
      have h2 := XRF.2 2
      have h3 := XRF.2 3
      have h4 := XRF.2 4
      have h5 := XRF.2 5
      have h6 := XRF.2 6
      refine bodyPost_ret (v := .tuple #[.agg #[.int .i64 yk, .string ynm, .int .i64 yn, .int .i64 ytk, .slice yta ytn ytc, .slice ysa ysn ysc, .slice ga ps.length gc], .bool true]) (by simp [results, Tryd.results28, go_sem, h0, h1, h2, h3, h4, h5, h6]) rfl ?_
      rw [HQ.out]
      exact ⟨_, rfl, HVX, hBF⟩
end Go.Proofs.YtmmnjdhmankieaaDoor
/-
  Proved: spec.l11With gives a path with one more step, in new memory; the memory that was there stays as it was.
-/
namespace Go.Proofs.YtmmnjdhmankieaaDoor
open Go.RowKit

/-- A path that is appended to an empty slice of the call's own. -/
theorem path_own (ty : TypeId) (w : World) (B : Nat) (b : Addr) (v : Value) (ps : List Int) (hB : B ≤ w.heap.size) (hb : w.ownsRow B 3 1 (.slice (some b) 0 0) 0 []) (hv : Ints w v ps) (hn : ps.length ≤ 1048576) :
    ∃ v' w', (Builtin.append_ #[28, 28] ty #[.slice (some b) 0 0, v]).run Tryd.prog w = .ok v' w' ∧ w'.ownsRow B 3 1 v' ps.length (ps.map (Value.int .i64)) ∧ Below w.heap.size w w' := by
  obtain ⟨i0, hi, hz0, hz1, hz2⟩ := info_parts info_i
  obtain ⟨a, cap, rfl, hcap, hat⟩ := hv
  by_cases h0 : 0 < ps.length
  · obtain ⟨g, off, rfl, hg, _⟩ := hat 0 h0
    obtain ⟨v', w', hr, ho, hgr⟩ := run_append_arg_grows (P := Tryd.prog) (w := w) 28 ty 3 i0 (.int .i64 0) 1 8 Tryd.underlying28 hi hz0 hz1 hz2 rfl (by omega) b 0 0 [] rfl (fun j u h => by simp at h)
      ⟨g, off, none⟩ ps.length cap (ps.map (Value.int IntKind.i64)) (by simp) (fun j u h => by
        simp at h
        obtain ⟨x, hx, rfl⟩ := h
        obtain ⟨hj, rfl⟩ := List.getElem?_eq_some_iff.1 hx
        obtain ⟨g', off', e, _, hc⟩ := hat j hj
        cases e
        rw [addr_add]; exact hc) (by omega) (by unfold maxLen; omega) (by omega)
    rw [Nat.zero_add, List.nil_append] at ho
    refine ⟨v', w', hr, ?_, (Below.refl _ w).grown hgr (Nat.le_refl _) (fun k e => by cases e)⟩
    refine ⟨ho.1, ?_⟩
    rcases ho.2 with h | ⟨g, cap, cur, rfl, r1, r2⟩
    · exact Or.inl h
    · exact Or.inr ⟨g, cap, cur, rfl, Nat.le_trans hB r1, r2⟩
  · have hp : ps = [] := List.length_eq_zero_iff.1 (by omega)
    subst hp
    refine ⟨_, w, run_append_nothing w 28 28 ty 3 i0 Tryd.underlying28 hi (some b) 0 0 (Nat.le_refl _) (.slice a 0 cap) ?_, hb, Below.refl _ _⟩
    cases a with
    | none => exact Src.ofNil w Tryd.underlying28 cap
    | some a => exact Src.ofSlice w Tryd.underlying28 a 0 cap [] (by simp) (fun j u h => by simp at h) (by simp)
theorem newsInt (w : World) (x : Value) (t : TypeId) : ∀ j u, [x][j]? = some u → (w.alloc (.cells #[x] t)).cell? ((⟨w.heap.size, 0, none⟩ : Addr).add j) = some u := by
  intro j u hj
  match j, hj with
  | 0, hj =>
    simp at hj
    subst hj
    simp [Addr.add]
set_option maxRecDepth 100000 in
set_option maxHeartbeats 2000000 in
theorem specWith (v : Value) (ps : List Int) (k : Int) (w : World) (hv : Ints w v ps) (hn : ps.length ≤ 1048576) :
    Calls Tryd.prog 40 #[v, .int .i64 k] w fun e w' => ∃ a n cap, e = .returned (.slice a n cap) ∧ Ints w' (.slice a n cap) (ps ++ [k]) ∧ Below w.heap.size w w' := by
  obtain ⟨i0, hi, hz0, hz1, hz2⟩ := info_parts info_i
  have HI := Lib.hid hi; clear hi
  have HZ0 := Lib.hid hz0; clear hz0
  have HZ1 := Lib.hid hz1; clear hz1
  have HZ2 := Lib.hid hz2; clear hz2
  have HV := Lib.hid hv
  obtain ⟨a, cap, rfl, _, _⟩ := hv
  have B0 := Lib.hid (below_alloc w (.cells #[] 3))
  have R0 : Hid ((w.alloc (.cells #[] 3)).ownsRow w.heap.size 3 1 (.slice (some ⟨w.heap.size, 0, none⟩) 0 0) 0 []) := World.ownsRow_made w #[] 0 (Nat.le_refl _) (Nat.zero_le _) rfl
  go_enter Tryd.func40, Tryd.ntmps40
  go_wp2_with (first
    | (at_builtin; refine wpList_append_any rfl (.tmp 5) (.tmp 6) 28 rfl (.slice (some ⟨w.heap.size, 0, none⟩) 0 0) (.slice a ps.length cap) rfl rfl (path_own _ _ w.heap.size _ _ ps (by simp) R0.out (HV.out.below B0.out) hn) ?_
       rintro v1 w1 ⟨ho, hb⟩
       have HO := Lib.hid ho
       have B1 := Lib.hid (below_on B0.out hb (by simp))
       clear ho hb)
    | (at_builtin; go_must (refine wpList_append_own_at _ rfl _ _ 28 rfl w.heap.size 3 i0 (.int .i64 0) 1 8 Tryd.underlying28 HI.out HZ0.out HZ1.out HZ2.out rfl (by decide) _ _ _ rfl (HO.out.alloc _) ⟨w1.heap.size, 0, none⟩ 1 1 [.int .i64 k] rfl rfl (newsInt _ _ _) (by simp [Value.oneCell']) (by unfold maxLen; omega) (by omega) (by have := B1.out.size; simp; omega) ?_); intro v2 w2 hown2 hg2 _ _; refine Hid.out ?_))
  refine Lib.hid ?_
  have hb2 : Below w.heap.size w w2 := (B1.out.alloc B1.out.size _).grown hg2 (by have := B1.out.size; simp; omega) (fun k hk => (HO.out.lt k hk).1)
  have hown3 : w2.ownsRow w.heap.size 3 1 v2 (ps ++ [k]).length ((ps ++ [k]).map (Value.int .i64)) := by simpa using hown2
  have hi2 := Ints.of_own hown3
  have HI2 := Lib.hid hi2
  obtain ⟨a2, cap2, rfl, _, _⟩ := hi2
  have HB2 := Lib.hid hb2
  clear hown2 hown3 hb2 hg2
  go_wp2_with fail
  go_ret
  exact ⟨_, _, _, rfl, HI2.out, HB2.out⟩
end Go.Proofs.YtmmnjdhmankieaaDoor
/-
  Proved: spec.MoveDown gives the edit with the cursor one step down.
-/
namespace Go.Proofs.YtmmnjdhmankieaaDoor
open Go.RowKit

set_option maxRecDepth 100000 in
set_option maxHeartbeats 8000000 in
theorem specMoveDown (d : Nat) (v : Value) (t : Edi) (k : Int) (w : World) (h : EditAt w d v t) (hsz : t.bulk ≤ 1048576) :
    Calls Tryd.prog 14 #[v, .int .i64 k] w (EdEnd d (t.to (t.path ++ [k])).1 (t.to (t.path ++ [k])).2 w) := by
  obtain ⟨xk, xnm, xn, xtk, xta, xtn, xtc, xsa, xsn, xsc, xpa, xpn, xpc, rfl⟩ := edit_parts h
  have hln := edit_len h
  subst hln
  have hbk : t.bulk = t.ex.bulk + t.path.length := rfl
  have hn2 : t.path.length ≤ 1048576 := by omega
  have B : Hid (Below w.heap.size w ((w.alloc (.cells #[.int .i64 xk, .string xnm, .int .i64 xn, .int .i64 xtk, .slice xta xtn xtc, .slice xsa xsn xsc, .slice xpa t.path.length xpc] 39)).alloc (.cells #[.int .i64 0, .string ⟨#[]⟩, .int .i64 0, .int .i64 0, .slice none 0 0, .slice none 0 0, .slice none 0 0] 39))) := ((Below.refl _ _).alloc (Nat.le_refl _) _).alloc (by simp) _
  have XA : Hid (BoxAt ((w.alloc (.cells #[.int .i64 xk, .string xnm, .int .i64 xn, .int .i64 xtk, .slice xta xtn xtc, .slice xsa xsn xsc, .slice xpa t.path.length xpc] 39)).alloc (.cells #[.int .i64 0, .string ⟨#[]⟩, .int .i64 0, .int .i64 0, .slice none 0 0, .slice none 0 0, .slice none 0 0] 39)) w.heap.size #[.int .i64 xk, .string xnm, .int .i64 xn, .int .i64 xtk, .slice xta xtn xtc, .slice xsa xsn xsc, .slice xpa t.path.length xpc]) := (BoxAt.new _ _ _).below (below_alloc _ _)
  have XR : Hid (BoxAt ((w.alloc (.cells #[.int .i64 xk, .string xnm, .int .i64 xn, .int .i64 xtk, .slice xta xtn xtc, .slice xsa xsn xsc, .slice xpa t.path.length xpc] 39)).alloc (.cells #[.int .i64 0, .string ⟨#[]⟩, .int .i64 0, .int .i64 0, .slice none 0 0, .slice none 0 0, .slice none 0 0] 39)) (w.heap.size + 1) #[.int .i64 0, .string ⟨#[]⟩, .int .i64 0, .int .i64 0, .slice none 0 0, .slice none 0 0, .slice none 0 0]) := box_at (BoxAt.new _ _ _) (by simp)
  have FR : Hid (FreeAt ((w.alloc (.cells #[.int .i64 xk, .string xnm, .int .i64 xn, .int .i64 xtk, .slice xta xtn xtc, .slice xsa xsn xsc, .slice xpa t.path.length xpc] 39)).alloc (.cells #[.int .i64 0, .string ⟨#[]⟩, .int .i64 0, .int .i64 0, .slice none 0 0, .slice none 0 0, .slice none 0 0] 39)) (w.heap.size + 1)) := free_at (FreeAt.new _ _ _) (by simp)
  have hz2 : ((w.alloc (.cells #[.int .i64 xk, .string xnm, .int .i64 xn, .int .i64 xtk, .slice xta xtn xtc, .slice xsa xsn xsc, .slice xpa t.path.length xpc] 39)).alloc (.cells #[.int .i64 0, .string ⟨#[]⟩, .int .i64 0, .int .i64 0, .slice none 0 0, .slice none 0 0, .slice none 0 0] 39)).heap.size = w.heap.size + 2 := by simp
  have HA := Lib.hid (h.below B.out)
  clear h
  go_enter Tryd.func14, Tryd.ntmps14
  go_upto_region 1 with fail
  generalize ((w.alloc (.cells #[.int .i64 xk, .string xnm, .int .i64 xn, .int .i64 xtk, .slice xta xtn xtc, .slice xsa xsn xsc, .slice xpa t.path.length xpc] 39)).alloc (.cells #[.int .i64 0, .string ⟨#[]⟩, .int .i64 0, .int .i64 0, .slice none 0 0, .slice none 0 0, .slice none 0 0] 39)) = w2 at B XA XR FR hz2 HA ⊢
  have hbk3 : t.path.length ≤ 1048576 := hn2
  clear hbk3
  have HZ2 := Lib.hid hz2
  clear hz2
  go_cut [6, 7] (fun s u wx => UpAt w2 d (t.to (t.path ++ [k])) s u wx)
  case first =>
    have G := Lib.hid (below_drew w2)
    refine wp_region_held_drew (S := (fun w' => w'.cell? ⟨w.heap.size, 0, none⟩ = some (.int .i64 xk) ∧ w'.cell? ⟨w.heap.size, 1, none⟩ = some (.string xnm) ∧ w'.cell? ⟨w.heap.size, 2, none⟩ = some (.int .i64 xn) ∧ w'.cell? ⟨w.heap.size, 3, none⟩ = some (.int .i64 xtk) ∧ w'.cell? ⟨w.heap.size, 4, none⟩ = some (.slice xta xtn xtc) ∧ w'.cell? ⟨w.heap.size, 5, none⟩ = some (.slice xsa xsn xsc) ∧ w'.cell? ⟨w.heap.size, 6, none⟩ = some (.slice xpa t.path.length xpc))) (by kernel_rfl) (box7 (p := w.heap.size) (XA.out.below G.out)) (fun hHeld => ?_)
    refine wpAnyH_take (i := 0) (v := ?v1_0) rfl (by kernel_rfl) (by kernel_rfl) (by kernel_rfl) (fun _ _ _ h => h) (Or.inl ⟨by rfl, ?hy1_0⟩) hHeld ?rest1_0
    case hy1_0 =>
      intro w hSw
      (try dsimp only at hSw)
      go_simp
      all_goals (first | done | with_reducible rfl)
    try simp only [Act.put]
    try simp only [List.setIfInBounds_toArray]
    try simp only [List.set_cons_succ]
    try simp only [List.set_cons_zero]
    refine wpAnyH_take (i := 1) (v := ?v2_1) rfl (by kernel_rfl) (by kernel_rfl) (by kernel_rfl) (fun _ _ _ h => h) (Or.inl ⟨by rfl, ?hy2_1⟩) hHeld ?rest2_1
    case hy2_1 =>
      intro w hSw
      (try dsimp only at hSw)
      go_simp
      all_goals (first | done | with_reducible rfl)
    try simp only [Act.put]
    try simp only [List.setIfInBounds_toArray]
    try simp only [List.set_cons_succ]
    try simp only [List.set_cons_zero]
    refine wpAnyH_take (i := 2) (v := ?v3_2) rfl (by kernel_rfl) (by kernel_rfl) (by kernel_rfl) (fun _ _ _ h => h) (Or.inl ⟨by rfl, ?hy3_2⟩) hHeld ?rest3_2
    case hy3_2 =>
      intro w hSw
      (try dsimp only at hSw)
      go_simp
      all_goals (first | done | with_reducible rfl)
    try simp only [Act.put]
    try simp only [List.setIfInBounds_toArray]
    try simp only [List.set_cons_succ]
    try simp only [List.set_cons_zero]
    refine wpAnyH_take (i := 3) (v := ?v4_3) rfl (by kernel_rfl) (by kernel_rfl) (by kernel_rfl) (fun _ _ _ h => h) (Or.inl ⟨by rfl, ?hy4_3⟩) hHeld ?rest4_3
    case hy4_3 =>
      intro w hSw
      (try dsimp only at hSw)
      go_simp
      all_goals (first | done | with_reducible rfl)
    try simp only [Act.put]
    try simp only [List.setIfInBounds_toArray]
    try simp only [List.set_cons_succ]
    try simp only [List.set_cons_zero]
    refine wpAnyH_ready (rs := [4, 9]) (by kernel_rfl) (by simp) ?_
    refine AllReadyH.cons rfl (fun K hK => ?_) (AllReadyH.cons rfl (fun K hK => ?_) AllReadyH.nil)
    · go_simp
      go_at_call 40
      refine (specWith _ t.path k _ (edit_path (HA.out.below G.out)) hn2).mono ?_
      rintro e w3 ⟨ga, gn, gc, rfl, hgi, hb⟩
      have HG := Lib.hid hgi
      have hz3 := hb.size
      have G3 := Lib.hid (below_on G.out hb G.out.size)
      clear G
      have G := G3
      clear G3 hgi hb hHeld
      try go_wp2_with fail
      refine hK.out _ _ (box7 (p := w.heap.size) (XA.out.below G.out)) (fun hHeld => ?_)
      clear hK K
      try simp only [Act.put]
      try simp only [List.setIfInBounds_toArray]
      try simp only [List.set_cons_succ]
      try simp only [List.set_cons_zero]
      refine wpAnyH_ready (rs := [5, 9]) (by kernel_rfl) (by simp) ?_
      refine AllReadyH.cons rfl (fun K hK => ?_) (AllReadyH.cons rfl (fun K hK => ?_) AllReadyH.nil)
      · go_simp
        go_at_call 28
        refine (specToW d _ _ t (t.path ++ [k]) _ (HA.out.below G.out) (HG.out) hsz (by simp; omega)).mono ?_
        rintro e w5 ⟨v5, rfl, hu, hb⟩
        obtain ⟨zk, znm, zn, ztk, zta, ztn, ztc, zsa, zsn, zsc, zpa, zpn, zpc, rfl⟩ := hu.parts
        have Ho := Lib.hid hu
        have hz5 := hb.size
        have G5 := Lib.hid (below_on G.out hb G.out.size)
        clear hu hb hHeld
        try go_wp2_with fail
        refine hK.out _ _ (box7 (p := w.heap.size) (XA.out.below G5.out)) (fun hHeld => ?_)
        clear hK K
        try simp only [Act.put]
        try simp only [List.setIfInBounds_toArray]
        try simp only [List.set_cons_succ]
        try simp only [List.set_cons_zero]
        refine wpAnyH_take (i := 6) (v := ?v5_6) rfl (by kernel_rfl) (by kernel_rfl) (by kernel_rfl) (fun _ _ _ h => h) (Or.inl ⟨by rfl, ?hy5_6⟩) hHeld ?rest5_6
        case hy5_6 =>
          intro w hSw
          (try dsimp only at hSw)
          go_simp
          all_goals (first | done | with_reducible rfl)
        try simp only [Act.put]
        try simp only [List.setIfInBounds_toArray]
        try simp only [List.set_cons_succ]
        try simp only [List.set_cons_zero]
        refine wpAnyH_take (i := 7) (v := ?v6_7) rfl (by kernel_rfl) (by kernel_rfl) (by kernel_rfl) (fun _ _ _ h => h) (Or.inl ⟨by rfl, ?hy6_7⟩) hHeld ?rest6_7
        case hy6_7 =>
          intro w hSw
          (try dsimp only at hSw)
          go_simp
          all_goals (first | done | with_reducible rfl)
        try simp only [Act.put]
        try simp only [List.setIfInBounds_toArray]
        try simp only [List.set_cons_succ]
        try simp only [List.set_cons_zero]
        refine wpAnyH_take (i := 8) (v := ?v7_8) rfl (by kernel_rfl) (by kernel_rfl) (by kernel_rfl) (fun _ _ _ h => h) (Or.inl ⟨by rfl, ?hy7_8⟩) hHeld ?rest7_8
        case hy7_8 =>
          intro w hSw
          (try dsimp only at hSw)
          go_simp
          all_goals (first | done | with_reducible rfl)
        try simp only [Act.put]
        try simp only [List.setIfInBounds_toArray]
        try simp only [List.set_cons_succ]
        try simp only [List.set_cons_zero]
        refine wpAnyH_ready (rs := [9]) (by kernel_rfl) (by simp) ?_
        refine AllReadyH.cons rfl (fun K hK => ?_) AllReadyH.nil
        go_simp
        clear hHeld
        try go_wp2_with fail
        refine hK.out _ _ (box7 (p := w.heap.size) (XA.out.below (G5.out.alloc G5.out.size _))) (fun hHeld => ?_)
        clear hK K
        try simp only [Act.put]
        try simp only [List.setIfInBounds_toArray]
        try simp only [List.set_cons_succ]
        try simp only [List.set_cons_zero]
        have X6 := Lib.hid (BoxAt.new w5 #[.int .i64 0, .string ⟨#[]⟩, .int .i64 0, .int .i64 0, .slice none 0 0, .slice none 0 0, .slice none 0 0] 39)
        have F6 := Lib.hid (FreeAt.new w5 #[.int .i64 0, .string ⟨#[]⟩, .int .i64 0, .int .i64 0, .slice none 0 0, .slice none 0 0, .slice none 0 0] 39)
        have r0 := X6.out.2 0
        have q0 := F6.out.2 0
        have r1 := X6.out.2 1
        have q1 := F6.out.2 1
        have r2 := X6.out.2 2
        have q2 := F6.out.2 2
        have r3 := X6.out.2 3
        have q3 := F6.out.2 3
        have r4 := X6.out.2 4
        have q4 := F6.out.2 4
        have r5 := X6.out.2 5
        have q5 := F6.out.2 5
        have r6 := X6.out.2 6
        have q6 := F6.out.2 6
        refine wpAnyH_ready (rs := [10]) (by kernel_rfl) (by simp) ?_
        refine AllReadyH.cons rfl (fun K hK => ?_) AllReadyH.nil
        go_simp
        clear hHeld
        try go_wp2_with fail
        refine hK.out _ _ (box7 (p := w.heap.size) (XA.out.below (G5.out.alloc G5.out.size _))) (fun hHeld => ?_)
        clear hK K
        try simp only [Act.put]
        try simp only [List.setIfInBounds_toArray]
        try simp only [List.set_cons_succ]
        try simp only [List.set_cons_zero]
        refine wpAnyH_ready (rs := [11]) (by kernel_rfl) (by simp) ?_
        refine AllReadyH.cons rfl (fun K hK => ?_) AllReadyH.nil
        go_simp
        refine hK.out _ _ hHeld (fun hHeld => ?_)
        clear hK K
        try simp only [Act.put]
        try simp only [List.setIfInBounds_toArray]
        try simp only [List.set_cons_succ]
        try simp only [List.set_cons_zero]
        refine wpAnyH_done (by kernel_rfl) ?_ _
        try simp only [List.getElem_toArray]
        try simp only [List.getElem_cons_succ]
        try simp only [List.getElem_cons_zero]
        try simp only [Act.put]
        try simp only [List.setIfInBounds_toArray]
        try simp only [List.set_cons_succ]
        try simp only [List.set_cons_zero]
        try go_wp2_with fail
        go_meet
        exact up_new G5.out Ho.out (by have := G.out.size; omega)
      · go_simp
        clear hHeld
        try go_wp2_with fail
        refine hK.out _ _ (box7 (p := w.heap.size) (XA.out.below (G.out.alloc G.out.size _))) (fun hHeld => ?_)
        clear hK K
        try simp only [Act.put]
        try simp only [List.setIfInBounds_toArray]
        try simp only [List.set_cons_succ]
        try simp only [List.set_cons_zero]
        have hp9w : w2.heap.size ≤ w3.heap.size := G.out.size
        have XO : Hid (BoxAt ((w3).alloc (.cells #[.int .i64 0, .string ⟨#[]⟩, .int .i64 0, .int .i64 0, .slice none 0 0, .slice none 0 0, .slice none 0 0] 39)) (w3.heap.size) #[.int .i64 0, .string ⟨#[]⟩, .int .i64 0, .int .i64 0, .slice none 0 0, .slice none 0 0, .slice none 0 0]) := BoxAt.new _ _ _
        have XF : Hid (FreeAt ((w3).alloc (.cells #[.int .i64 0, .string ⟨#[]⟩, .int .i64 0, .int .i64 0, .slice none 0 0, .slice none 0 0, .slice none 0 0] 39)) (w3.heap.size)) := FreeAt.new _ #[.int .i64 0, .string ⟨#[]⟩, .int .i64 0, .int .i64 0, .slice none 0 0, .slice none 0 0, .slice none 0 0] _
        have hp9l : w3.heap.size < ((w3).alloc (.cells #[.int .i64 0, .string ⟨#[]⟩, .int .i64 0, .int .i64 0, .slice none 0 0, .slice none 0 0, .slice none 0 0] 39)).heap.size := by simp
        have GA := Lib.hid (G.out.alloc G.out.size (.cells #[.int .i64 0, .string ⟨#[]⟩, .int .i64 0, .int .i64 0, .slice none 0 0, .slice none 0 0, .slice none 0 0] 39))
        clear G
        have G := GA
        clear GA
        refine wpAnyH_ready (rs := [5]) (by kernel_rfl) (by simp) ?_
        refine AllReadyH.cons rfl (fun K hK => ?_) AllReadyH.nil
        go_simp
        go_at_call 28
        refine (specToW d _ _ t (t.path ++ [k]) _ (HA.out.below G.out) (HG.out.below (below_alloc _ _)) hsz (by simp; omega)).mono ?_
        rintro e w5 ⟨v5, rfl, hu, hb⟩
        obtain ⟨zk, znm, zn, ztk, zta, ztn, ztc, zsa, zsn, zsc, zpa, zpn, zpc, rfl⟩ := hu.parts
        have Ho := Lib.hid hu
        have hz5 := hb.size
        have XO := Lib.hid (XO.out.below hb)
        have XF := Lib.hid (XF.out.below hb)
        have G5 := Lib.hid (below_on G.out hb G.out.size)
        clear hu hb hHeld
        try go_wp2_with fail
        refine hK.out _ _ (box7 (p := w.heap.size) (XA.out.below G5.out)) (fun hHeld => ?_)
        clear hK K
        try simp only [Act.put]
        try simp only [List.setIfInBounds_toArray]
        try simp only [List.set_cons_succ]
        try simp only [List.set_cons_zero]
        refine wpAnyH_take (i := 6) (v := ?v8_6) rfl (by kernel_rfl) (by kernel_rfl) (by kernel_rfl) (fun _ _ _ h => h) (Or.inl ⟨by rfl, ?hy8_6⟩) hHeld ?rest8_6
        case hy8_6 =>
          intro w hSw
          (try dsimp only at hSw)
          go_simp
          all_goals (first | done | with_reducible rfl)
        try simp only [Act.put]
        try simp only [List.setIfInBounds_toArray]
        try simp only [List.set_cons_succ]
        try simp only [List.set_cons_zero]
        refine wpAnyH_take (i := 7) (v := ?v9_7) rfl (by kernel_rfl) (by kernel_rfl) (by kernel_rfl) (fun _ _ _ h => h) (Or.inl ⟨by rfl, ?hy9_7⟩) hHeld ?rest9_7
        case hy9_7 =>
          intro w hSw
          (try dsimp only at hSw)
          go_simp
          all_goals (first | done | with_reducible rfl)
        try simp only [Act.put]
        try simp only [List.setIfInBounds_toArray]
        try simp only [List.set_cons_succ]
        try simp only [List.set_cons_zero]
        refine wpAnyH_take (i := 8) (v := ?v10_8) rfl (by kernel_rfl) (by kernel_rfl) (by kernel_rfl) (fun _ _ _ h => h) (Or.inl ⟨by rfl, ?hy10_8⟩) hHeld ?rest10_8
        case hy10_8 =>
          intro w hSw
          (try dsimp only at hSw)
          go_simp
          all_goals (first | done | with_reducible rfl)
        try simp only [Act.put]
        try simp only [List.setIfInBounds_toArray]
        try simp only [List.set_cons_succ]
        try simp only [List.set_cons_zero]
        have r0 := XO.out.2 0
        have q0 := XF.out.2 0
        have r1 := XO.out.2 1
        have q1 := XF.out.2 1
        have r2 := XO.out.2 2
        have q2 := XF.out.2 2
        have r3 := XO.out.2 3
        have q3 := XF.out.2 3
        have r4 := XO.out.2 4
        have q4 := XF.out.2 4
        have r5 := XO.out.2 5
        have q5 := XF.out.2 5
        have r6 := XO.out.2 6
        have q6 := XF.out.2 6
        refine wpAnyH_ready (rs := [10]) (by kernel_rfl) (by simp) ?_
        refine AllReadyH.cons rfl (fun K hK => ?_) AllReadyH.nil
        go_simp
        clear hHeld
        try go_wp2_with fail
        refine hK.out _ _ (box7 (p := w.heap.size) (XA.out.below (up_cell (up_cell (up_cell (up_cell (up_cell (up_cell (up_cell G5.out hp9w) hp9w) hp9w) hp9w) hp9w) hp9w) hp9w))) (fun hHeld => ?_)
        clear hK K
        try simp only [Act.put]
        try simp only [List.setIfInBounds_toArray]
        try simp only [List.set_cons_succ]
        try simp only [List.set_cons_zero]
        refine wpAnyH_ready (rs := [11]) (by kernel_rfl) (by simp) ?_
        refine AllReadyH.cons rfl (fun K hK => ?_) AllReadyH.nil
        go_simp
        refine hK.out _ _ hHeld (fun hHeld => ?_)
        clear hK K
        try simp only [Act.put]
        try simp only [List.setIfInBounds_toArray]
        try simp only [List.set_cons_succ]
        try simp only [List.set_cons_zero]
        refine wpAnyH_done (by kernel_rfl) ?_ _
        try simp only [List.getElem_toArray]
        try simp only [List.getElem_cons_succ]
        try simp only [List.getElem_cons_zero]
        try simp only [Act.put]
        try simp only [List.setIfInBounds_toArray]
        try simp only [List.set_cons_succ]
        try simp only [List.set_cons_zero]
        try go_wp2_with fail
        go_meet
        exact up_old G5.out Ho.out (by have := G.out.size; omega) hp9w (by have := G.out.size; omega) XO.out
    · go_simp
      clear hHeld
      try go_wp2_with fail
      refine hK.out _ _ (box7 (p := w.heap.size) (XA.out.below (G.out.alloc G.out.size _))) (fun hHeld => ?_)
      clear hK K
      try simp only [Act.put]
      try simp only [List.setIfInBounds_toArray]
      try simp only [List.set_cons_succ]
      try simp only [List.set_cons_zero]
      have hp9w : w2.heap.size ≤ w2.heap.size := G.out.size
      have XO : Hid (BoxAt ((w2.drew).alloc (.cells #[.int .i64 0, .string ⟨#[]⟩, .int .i64 0, .int .i64 0, .slice none 0 0, .slice none 0 0, .slice none 0 0] 39)) (w2.heap.size) #[.int .i64 0, .string ⟨#[]⟩, .int .i64 0, .int .i64 0, .slice none 0 0, .slice none 0 0, .slice none 0 0]) := BoxAt.new _ _ _
      have XF : Hid (FreeAt ((w2.drew).alloc (.cells #[.int .i64 0, .string ⟨#[]⟩, .int .i64 0, .int .i64 0, .slice none 0 0, .slice none 0 0, .slice none 0 0] 39)) (w2.heap.size)) := FreeAt.new _ #[.int .i64 0, .string ⟨#[]⟩, .int .i64 0, .int .i64 0, .slice none 0 0, .slice none 0 0, .slice none 0 0] _
      have hp9l : w2.heap.size < ((w2.drew).alloc (.cells #[.int .i64 0, .string ⟨#[]⟩, .int .i64 0, .int .i64 0, .slice none 0 0, .slice none 0 0, .slice none 0 0] 39)).heap.size := by simp
      have GA := Lib.hid (G.out.alloc G.out.size (.cells #[.int .i64 0, .string ⟨#[]⟩, .int .i64 0, .int .i64 0, .slice none 0 0, .slice none 0 0, .slice none 0 0] 39))
      clear G
      have G := GA
      clear GA
      refine wpAnyH_ready (rs := [4]) (by kernel_rfl) (by simp) ?_
      refine AllReadyH.cons rfl (fun K hK => ?_) AllReadyH.nil
      go_simp
      go_at_call 40
      refine (specWith _ t.path k _ (edit_path (HA.out.below G.out)) hn2).mono ?_
      rintro e w3 ⟨ga, gn, gc, rfl, hgi, hb⟩
      have HG := Lib.hid hgi
      have XO := Lib.hid (XO.out.below hb)
      have XF := Lib.hid (XF.out.below hb)
      have hz3 := hb.size
      have G3 := Lib.hid (below_on G.out hb G.out.size)
      clear G
      have G := G3
      clear G3 hgi hb hHeld
      try go_wp2_with fail
      refine hK.out _ _ (box7 (p := w.heap.size) (XA.out.below G.out)) (fun hHeld => ?_)
      clear hK K
      try simp only [Act.put]
      try simp only [List.setIfInBounds_toArray]
      try simp only [List.set_cons_succ]
      try simp only [List.set_cons_zero]
      refine wpAnyH_ready (rs := [5]) (by kernel_rfl) (by simp) ?_
      refine AllReadyH.cons rfl (fun K hK => ?_) AllReadyH.nil
      go_simp
      go_at_call 28
      refine (specToW d _ _ t (t.path ++ [k]) _ (HA.out.below G.out) (HG.out) hsz (by simp; omega)).mono ?_
      rintro e w5 ⟨v5, rfl, hu, hb⟩
      obtain ⟨zk, znm, zn, ztk, zta, ztn, ztc, zsa, zsn, zsc, zpa, zpn, zpc, rfl⟩ := hu.parts
      have Ho := Lib.hid hu
      have hz5 := hb.size
      have XO := Lib.hid (XO.out.below hb)
      have XF := Lib.hid (XF.out.below hb)
      have G5 := Lib.hid (below_on G.out hb G.out.size)
      clear hu hb hHeld
      try go_wp2_with fail
      refine hK.out _ _ (box7 (p := w.heap.size) (XA.out.below G5.out)) (fun hHeld => ?_)
      clear hK K
      try simp only [Act.put]
      try simp only [List.setIfInBounds_toArray]
      try simp only [List.set_cons_succ]
      try simp only [List.set_cons_zero]
      refine wpAnyH_take (i := 6) (v := ?v11_6) rfl (by kernel_rfl) (by kernel_rfl) (by kernel_rfl) (fun _ _ _ h => h) (Or.inl ⟨by rfl, ?hy11_6⟩) hHeld ?rest11_6
      case hy11_6 =>
        intro w hSw
        (try dsimp only at hSw)
        go_simp
        all_goals (first | done | with_reducible rfl)
      try simp only [Act.put]
      try simp only [List.setIfInBounds_toArray]
      try simp only [List.set_cons_succ]
      try simp only [List.set_cons_zero]
      refine wpAnyH_take (i := 7) (v := ?v12_7) rfl (by kernel_rfl) (by kernel_rfl) (by kernel_rfl) (fun _ _ _ h => h) (Or.inl ⟨by rfl, ?hy12_7⟩) hHeld ?rest12_7
      case hy12_7 =>
        intro w hSw
        (try dsimp only at hSw)
        go_simp
        all_goals (first | done | with_reducible rfl)
      try simp only [Act.put]
      try simp only [List.setIfInBounds_toArray]
      try simp only [List.set_cons_succ]
      try simp only [List.set_cons_zero]
      refine wpAnyH_take (i := 8) (v := ?v13_8) rfl (by kernel_rfl) (by kernel_rfl) (by kernel_rfl) (fun _ _ _ h => h) (Or.inl ⟨by rfl, ?hy13_8⟩) hHeld ?rest13_8
      case hy13_8 =>
        intro w hSw
        (try dsimp only at hSw)
        go_simp
        all_goals (first | done | with_reducible rfl)
      try simp only [Act.put]
      try simp only [List.setIfInBounds_toArray]
      try simp only [List.set_cons_succ]
      try simp only [List.set_cons_zero]
      have r0 := XO.out.2 0
      have q0 := XF.out.2 0
      have r1 := XO.out.2 1
      have q1 := XF.out.2 1
      have r2 := XO.out.2 2
      have q2 := XF.out.2 2
      have r3 := XO.out.2 3
      have q3 := XF.out.2 3
      have r4 := XO.out.2 4
      have q4 := XF.out.2 4
      have r5 := XO.out.2 5
      have q5 := XF.out.2 5
      have r6 := XO.out.2 6
      have q6 := XF.out.2 6
      refine wpAnyH_ready (rs := [10]) (by kernel_rfl) (by simp) ?_
      refine AllReadyH.cons rfl (fun K hK => ?_) AllReadyH.nil
      go_simp
      clear hHeld
      try go_wp2_with fail
      refine hK.out _ _ (box7 (p := w.heap.size) (XA.out.below (up_cell (up_cell (up_cell (up_cell (up_cell (up_cell (up_cell G5.out hp9w) hp9w) hp9w) hp9w) hp9w) hp9w) hp9w))) (fun hHeld => ?_)
      clear hK K
      try simp only [Act.put]
      try simp only [List.setIfInBounds_toArray]
      try simp only [List.set_cons_succ]
      try simp only [List.set_cons_zero]
      refine wpAnyH_ready (rs := [11]) (by kernel_rfl) (by simp) ?_
      refine AllReadyH.cons rfl (fun K hK => ?_) AllReadyH.nil
      go_simp
      refine hK.out _ _ hHeld (fun hHeld => ?_)
      clear hK K
      try simp only [Act.put]
      try simp only [List.setIfInBounds_toArray]
      try simp only [List.set_cons_succ]
      try simp only [List.set_cons_zero]
      refine wpAnyH_done (by kernel_rfl) ?_ _
      try simp only [List.getElem_toArray]
      try simp only [List.getElem_cons_succ]
      try simp only [List.getElem_cons_zero]
      try simp only [Act.put]
      try simp only [List.setIfInBounds_toArray]
      try simp only [List.set_cons_succ]
      try simp only [List.set_cons_zero]
      try go_wp2_with fail
      go_meet
      exact up_old G5.out Ho.out (by have := G.out.size; omega) hp9w (by have := G.out.size; omega) XO.out
  case rest =>
    obtain ⟨w3, hwc⟩ : ∃ u, u = wc := ⟨_, rfl⟩
    subst hwc
    obtain ⟨po', zk, znm, zn, ztk, zta, ztn, ztc, zsa, zsn, zsc, zpa, zpn, zpc, rfl, rfl, hpo, hXo, hu, hb⟩ := hcut
    have Xo := Lib.hid hXo
    have HV := Lib.hid hu
    have hqo := hXo.1
    have hz3 := hb.size
    have hz2 := HZ2.out
    replace B := Lib.hid (below_thru B.out (Nat.le_refl _) hb)
    replace XA := Lib.hid (XA.out.below hb)
    replace XR := Lib.hid (XR.out.below hb)
    replace FR := Lib.hid (FR.out.below hb)
    replace HA := Lib.hid (HA.out.below hb)
    clear hb hXo hu
    have r0 := XR.out.2 0
    have s0 := FR.out.2 0
    have o0 := Xo.out.2 0
    have r1 := XR.out.2 1
    have s1 := FR.out.2 1
    have o1 := Xo.out.2 1
    have r2 := XR.out.2 2
    have s2 := FR.out.2 2
    have o2 := Xo.out.2 2
    have r3 := XR.out.2 3
    have s3 := FR.out.2 3
    have o3 := Xo.out.2 3
    have r4 := XR.out.2 4
    have s4 := FR.out.2 4
    have o4 := Xo.out.2 4
    have r5 := XR.out.2 5
    have s5 := FR.out.2 5
    have o5 := Xo.out.2 5
    have r6 := XR.out.2 6
    have s6 := FR.out.2 6
    have o6 := Xo.out.2 6
    go_wp2_with fail
    have XRF : BoxAt (((((((w3.setCell ⟨w.heap.size + 1, 0, none⟩ (.int .i64 zk)).setCell ⟨w.heap.size + 1, 1, none⟩ (.string znm)).setCell ⟨w.heap.size + 1, 2, none⟩ (.int .i64 zn)).setCell ⟨w.heap.size + 1, 3, none⟩ (.int .i64 ztk)).setCell ⟨w.heap.size + 1, 4, none⟩ (.slice zta ztn ztc)).setCell ⟨w.heap.size + 1, 5, none⟩ (.slice zsa zsn zsc)).setCell ⟨w.heap.size + 1, 6, none⟩ (.slice zpa zpn zpc)) (w.heap.size + 1) #[.int .i64 zk, .string znm, .int .i64 zn, .int .i64 ztk, .slice zta ztn ztc, .slice zsa zsn zsc, .slice zpa zpn zpc] := by
      have := (((((((XR.out.put (j := 0) (u := .int .i64 zk) (by simp)).put (j := 1) (u := .string znm) (by simp)).put (j := 2) (u := .int .i64 zn) (by simp)).put (j := 3) (u := .int .i64 ztk) (by simp)).put (j := 4) (u := .slice zta ztn ztc) (by simp)).put (j := 5) (u := .slice zsa zsn zsc) (by simp)).put (j := 6) (u := .slice zpa zpn zpc) (by simp))
      exact this
    have hBF : Below w.heap.size w (((((((w3.setCell ⟨w.heap.size + 1, 0, none⟩ (.int .i64 zk)).setCell ⟨w.heap.size + 1, 1, none⟩ (.string znm)).setCell ⟨w.heap.size + 1, 2, none⟩ (.int .i64 zn)).setCell ⟨w.heap.size + 1, 3, none⟩ (.int .i64 ztk)).setCell ⟨w.heap.size + 1, 4, none⟩ (.slice zta ztn ztc)).setCell ⟨w.heap.size + 1, 5, none⟩ (.slice zsa zsn zsc)).setCell ⟨w.heap.size + 1, 6, none⟩ (.slice zpa zpn zpc)) := (((((((B.out.setCell (by simp) _).setCell (by simp) _).setCell (by simp) _).setCell (by simp) _).setCell (by simp) _).setCell (by simp) _).setCell (by simp) _)
    have hsz : (((((((w3.setCell ⟨w.heap.size + 1, 0, none⟩ (.int .i64 zk)).setCell ⟨w.heap.size + 1, 1, none⟩ (.string znm)).setCell ⟨w.heap.size + 1, 2, none⟩ (.int .i64 zn)).setCell ⟨w.heap.size + 1, 3, none⟩ (.int .i64 ztk)).setCell ⟨w.heap.size + 1, 4, none⟩ (.slice zta ztn ztc)).setCell ⟨w.heap.size + 1, 5, none⟩ (.slice zsa zsn zsc)).setCell ⟨w.heap.size + 1, 6, none⟩ (.slice zpa zpn zpc)).heap.size = w3.heap.size := by simp
    have hkf : ∀ b, b ≠ w.heap.size + 1 → (((((((w3.setCell ⟨w.heap.size + 1, 0, none⟩ (.int .i64 zk)).setCell ⟨w.heap.size + 1, 1, none⟩ (.string znm)).setCell ⟨w.heap.size + 1, 2, none⟩ (.int .i64 zn)).setCell ⟨w.heap.size + 1, 3, none⟩ (.int .i64 ztk)).setCell ⟨w.heap.size + 1, 4, none⟩ (.slice zta ztn ztc)).setCell ⟨w.heap.size + 1, 5, none⟩ (.slice zsa zsn zsc)).setCell ⟨w.heap.size + 1, 6, none⟩ (.slice zpa zpn zpc)).heap[b]? = w3.heap[b]? := fun b hb => by
      rw [heap_setCell_other _ _ _ _ (by simp; omega), heap_setCell_other _ _ _ _ (by simp; omega), heap_setCell_other _ _ _ _ (by simp; omega), heap_setCell_other _ _ _ _ (by simp; omega), heap_setCell_other _ _ _ _ (by simp; omega), heap_setCell_other _ _ _ _ (by simp; omega), heap_setCell_other _ _ _ _ (by simp; omega)]
    generalize (((((((w3.setCell ⟨w.heap.size + 1, 0, none⟩ (.int .i64 zk)).setCell ⟨w.heap.size + 1, 1, none⟩ (.string znm)).setCell ⟨w.heap.size + 1, 2, none⟩ (.int .i64 zn)).setCell ⟨w.heap.size + 1, 3, none⟩ (.int .i64 ztk)).setCell ⟨w.heap.size + 1, 4, none⟩ (.slice zta ztn ztc)).setCell ⟨w.heap.size + 1, 5, none⟩ (.slice zsa zsn zsc)).setCell ⟨w.heap.size + 1, 6, none⟩ (.slice zpa zpn zpc)) = WX at XRF hBF hsz hkf ⊢
    have HVX : EditUp w.heap.size WX d (.agg #[.int .i64 zk, .string znm, .int .i64 zn, .int .i64 ztk, .slice zta ztn ztc, .slice zsa zsn zsc, .slice zpa zpn zpc]) (t.to (t.path ++ [k])).1 := (HV.out.kept (by rw [hsz]; exact Nat.le_refl _) fun b hb _ => hkf b (by omega)).mono (by omega)
    have h0 := XRF.2 0
    have h1 := XRF.2 1
    have h2 := XRF.2 2
    have h3 := XRF.2 3
    have h4 := XRF.2 4
    have h5 := XRF.2 5
    have h6 := XRF.2 6
    refine bodyPost_ret (v := .tuple #[.agg #[.int .i64 zk, .string znm, .int .i64 zn, .int .i64 ztk, .slice zta ztn ztc, .slice zsa zsn zsc, .slice zpa zpn zpc], .bool (t.to (t.path ++ [k])).2]) (by simp [results, Tryd.results14, go_sem, h0, h1, h2, h3, h4, h5, h6]) rfl ?_
    exact ⟨_, rfl, HVX, hBF⟩
end Go.Proofs.YtmmnjdhmankieaaDoor
/-
  Proved: impl.nodeAt, for paths of one more step.
-/
namespace Go.Proofs.YtmmnjdhmankieaaDoor
open Go.RowKit

set_option maxRecDepth 100000 in
set_option maxHeartbeats 4000000 in
theorem implNodeAtW (d : Nat) (s v : Value) (e : Ex) (ps : List Int) (w : World) (hs : PtrAt w d s e) (hp : Ints w v ps) (hn : ps.length ≤ 1048577) :
    Calls Tryd.prog 56 #[s, v] w (NodeAtEnd d (e.sub ps) w) := by
  obtain ⟨pa, pc, rfl, hpc, hpat⟩ := hp
  have HP := Lib.hid hpat; clear hpat
  obtain ⟨b0, off0, y0, y1, y2, y3, y4, y5, y6, y7, y8, y9, rfl, hbl0, h00⟩ := id hs
  clear h00 hbl0
  go_enter Tryd.func56, Tryd.ntmps56
  go_wp2_with fail
  go_loopw [0, 9] (fun q i wr => ∃ (k : Nat) (x : Ex) (b off : Nat), k ≤ ps.length ∧ i = .int .i64 k ∧ q = .pointer (some ⟨b, off, none⟩) ∧ PtrAt w d q x ∧ e.sub ps = x.sub (ps.drop k) ∧ wr = w) (fun _ i _ => ps.length - (intOf i).toNat)
  case atStart => exact ⟨0, e, b0, off0, by omega, rfl, rfl, hs, by simp, rfl⟩
  case round =>
    obtain ⟨k, x, b, off, hk, rfl, rfl, hx, hsub, hw⟩ := hrel
    subst hw
    have HSUB := Lib.hid hsub; clear hsub
    obtain ⟨b', off', xk, xnm, xn, xtk, xta, xtn, xtc, xa, xm, xc, hptr, hbl, e0, e1, e2, e3, e4, e5, hex⟩ := hx
    injection hptr with hptr
    injection hptr with hptr
    injection hptr with hb1 hb2
    subst hb1 hb2
    by_cases hlt : k < ps.length
    · obtain ⟨bp, offp, rfl, hblp, hcp⟩ := HP.out k hlt
      obtain ⟨rfl, hmc, hc2, hrow⟩ := ex_row hex
      have HROW := Lib.hid hrow; clear hrow
      have HDR := Lib.hid (drop_at ps k hlt)
      obtain ⟨p, hp⟩ : ∃ p, p = ps[k] := ⟨_, rfl⟩
      rw [← hp] at hcp HDR
      clear hp
      by_cases q1 : p < 0
      · have HN : Hid (e.sub ps = none) := by show _ = _; rw [HSUB.out, HDR.out]; exact sub_low q1
        go_wp2_with fail
        go_ret
        exact ⟨rfl, by rw [HN.out]; rfl⟩
      · by_cases q2 : (x.parts.length : Int) ≤ p
        · have HN : Hid (e.sub ps = none) := by show _ = _; rw [HSUB.out, HDR.out]; exact sub_high q2
          go_wp2_with fail
          go_ret
          exact ⟨rfl, by rw [HN.out]; rfl⟩
        · obtain ⟨m, rfl⟩ : ∃ m : Nat, p = m := ⟨p.toNat, by omega⟩
          have hm : m < x.parts.length := by omega
          have HN : Hid (e.sub ps = (x.parts[m]).sub (ps.drop (k + 1))) := by
            show _ = _
            rw [HSUB.out, HDR.out]
            exact sub_step (by omega) (by simpa using hm)
          obtain ⟨bn, offn, z0, z1, z2, z3, z4, z5, rfl, hbn, f0, f1, f2, f3, f4, f5, hz⟩ := HROW.out m hm
          obtain ⟨zk, znm, zn, ztk, zta, ztn, ztc, za, zm, zc, rfl, rfl, rfl, rfl, rfl, rfl⟩ := ex_show hz
          have HX2 : Hid (PtrAt wr d (.pointer (some ⟨bn, offn + m * 6, none⟩)) x.parts[m]) := ⟨bn, offn + m * 6, _, _, _, _, _, _, _, _, _, _, rfl, hbn, f0, f1, f2, f3, f4, f5, hz⟩
          clear f0 f1 f2 f3 f4 f5 hz
          go_wp2_with fail
          exact ⟨⟨k + 1, x.parts[m], bn, offn + m * 6, by omega, by go_num, rfl, HX2.out, HN.out, (by first | trivial | rfl)⟩, by simp [intOf]; omega⟩
    · obtain rfl : k = ps.length := by omega
      have HN : Hid (e.sub ps = some x) := by show _ = _; rw [HSUB.out, List.drop_length]; exact sub_nil x
      have HX2 : Hid (PtrAt wr d (.pointer (some ⟨b, off, none⟩)) x) := ⟨b, off, _, _, _, _, _, _, _, _, _, _, rfl, hbl, e0, e1, e2, e3, e4, e5, hex⟩
      go_wp2_with fail
      go_ret
      refine ⟨rfl, ?_⟩
      rw [HN.out]
      exact ⟨_, rfl, HX2.out⟩
end Go.Proofs.YtmmnjdhmankieaaDoor
/-
  Proved: implIsEdit, for paths of one more step.
-/
namespace Go.Proofs.YtmmnjdhmankieaaDoor
open Go.RowKit

set_option maxRecDepth 100000 in
set_option maxHeartbeats 2000000 in
theorem implIsEditW (d : Nat) (v : Value) (t : Edi) (w : World) (h : EditAt w d v t) (hx : t.ex.bulk ≤ 1048576) (hn : t.path.length ≤ 1048577) (htab : TabAt w) :
    Calls Tryd.prog 31 #[v] w fun e w' => e = .returned (.bool t.okB) ∧ Below w.heap.size w w' := by
  cases t with
  | mk ex ps =>
    obtain ⟨k, nm, n, tk, ta, tn, tc, sa, sn, sc, pa, pn, pc, rfl, he, hp, hl⟩ := h
    dsimp only at he hp hl ⊢
    have hbk : (Edi.mk ex ps).bulk = ex.bulk + ps.length := rfl
    have hn1 : ex.bulk ≤ 1048576 := hx
    have hn2 : ps.length ≤ 1048577 := hn
    have HQ : Hid ((Edi.mk ex ps).okB = ((ex.sub ps).isSome && (ex.valid && !ex.has 14))) := rfl
    clear hx hn hbk hl
    have B : Hid (Below w.heap.size w (w.alloc (.cells #[.int .i64 k, .string nm, .int .i64 n, .int .i64 tk, .slice ta tn tc, .slice sa sn sc, .slice pa pn pc] 39))) := below_alloc _ _
    have XA : Hid (BoxAt (w.alloc (.cells #[.int .i64 k, .string nm, .int .i64 n, .int .i64 tk, .slice ta tn tc, .slice sa sn sc, .slice pa pn pc] 39)) w.heap.size #[.int .i64 k, .string nm, .int .i64 n, .int .i64 tk, .slice ta tn tc, .slice sa sn sc, .slice pa pn pc]) := BoxAt.new _ _ _
    have HE := Lib.hid (he.below B.out)
    have HP := Lib.hid (hp.below B.out)
    have HTB := Lib.hid (htab.below B.out)
    clear he hp htab
    go_enter Tryd.func31, Tryd.ntmps31
    go_wp2_with fail
    refine (implExRaw d _ ex _ HE.out hn1 HTB.out).mono ?_
    rintro e w1 ⟨he1, hb⟩
    replace B := Lib.hid (below_thru B.out (Nat.le_refl _) hb)
    replace XA := Lib.hid (XA.out.below hb)
    replace HE := Lib.hid (HE.out.below hb)
    replace HP := Lib.hid (HP.out.below hb)
    clear hb
    cases hv : (ex.valid && !ex.has 14) with
    | false =>
      rw [hv] at he1 HQ
      subst he1
      go_wp2_with fail
      go_ret
      exact ⟨by rw [HQ.out, Bool.and_false]; rfl, B.out⟩
    | true =>
      rw [hv] at he1 HQ
      subst he1
      have HPT : Hid (PtrAt w1 d (.pointer (some ⟨w.heap.size, 0, none⟩)) ex) := ⟨_, _, _, _, _, _, _, _, _, _, _, _, rfl, XA.out.1, XA.out.2 0, XA.out.2 1, XA.out.2 2, XA.out.2 3, XA.out.2 4, XA.out.2 5, HE.out⟩
      have c6 := XA.out.2 6
      go_wp2_with fail
      clear c6
      refine (implNodeAtW d _ _ ex ps _ HPT.out HP.out hn2).mono ?_
      rintro e w2 ⟨hw, hr⟩
      subst hw
      cases hq : ex.sub ps with
      | none =>
        rw [hq] at hr HQ
        subst hr
        go_wp2_with fail
        go_ret
        exact ⟨by rw [HQ.out]; rfl, B.out⟩
      | some x =>
        rw [hq] at hr HQ
        obtain ⟨s, rfl, hs⟩ := hr
        obtain ⟨b, off, _, _, _, _, _, _, _, _, _, _, rfl, _⟩ := hs
        go_wp2_with fail
        go_ret
        exact ⟨by rw [HQ.out]; rfl, B.out⟩
end Go.Proofs.YtmmnjdhmankieaaDoor
/-
  Proved: the edit with the cursor one step down is valid only if the edit was; a valid expression holds little; an edit whose path grew by a step, in memory of its own.
-/
namespace Go.Proofs.YtmmnjdhmankieaaDoor
open Go.RowKit

theorem down_ok {t : Edi} {k : Int} (h : (Edi.mk t.ex (t.path ++ [k])).okB = true) : t.to (t.path ++ [k]) = (⟨t.ex, t.path ++ [k]⟩, true) := by
  have h1 := okB_take t.path.length h
  dsimp only at h1
  rw [List.take_left'] at h1
  · unfold Edi.to
    rw [show t.okB = true from h1, h]; rfl
  · rfl
theorem down_not {t : Edi} {k : Int} (h : (Edi.mk t.ex (t.path ++ [k])).okB = false) : t.to (t.path ++ [k]) = (t, false) := by
  unfold Edi.to
  rw [h]; simp
theorem down_bulk (t : Edi) (k : Int) : (t.to (t.path ++ [k])).1.bulk ≤ t.bulk + 1 := by
  unfold Edi.to
  split
  · show t.ex.bulk + (t.path ++ [k]).length ≤ t.ex.bulk + t.path.length + 1
    rw [List.length_append]
    exact Nat.le_refl _
  · exact Nat.le_succ _
/-- A path of one more step that lies in a row of its own, behind the expression's blocks. -/
theorem down_in {w5 w7 : World} {d lo mid B7 : Nat} {zk zn ztk : Int} {znm : ByteArray} {zta zsa ga : Option Addr} {ztn ztc zsn zsc gn gc : Nat} {e : Ex} {ps : List Int} {u : Value}
    (he : ExIn w5 d (.agg #[.int .i64 zk, .string znm, .int .i64 zn, .int .i64 ztk, .slice zta ztn ztc, .slice zsa zsn zsc]) e lo mid) (hm : mid ≤ B7) (h1 : B7 < w7.heap.size) (hs : w5.heap.size ≤ w7.heap.size)
    (hk : ∀ b, b < mid → w7.heap[b]? = w5.heap[b]?) (hl : lo ≤ mid) (ho : w7.ownsRow mid 3 1 (.slice ga gn gc) ps.length (ps.map (Value.int .i64))) (hne : (Value.slice ga gn gc).ownBlock ≠ some B7) (hp : ps.length ≤ 9223372036854775807) :
    EditIn (w7.setCell ⟨B7, 6, none⟩ u) d (.agg #[.int .i64 zk, .string znm, .int .i64 zn, .int .i64 ztk, .slice zta ztn ztc, .slice zsa zsn zsc, .slice ga gn gc]) ⟨e, ps⟩ lo (w7.setCell ⟨B7, 6, none⟩ u).heap.size := by
  have hsz : (w7.setCell ⟨B7, 6, none⟩ u).heap.size = w7.heap.size := by simp
  refine ⟨_, _, _, _, _, _, _, _, _, _, _, _, _, mid, rfl, ?_, ?_, hl, by rw [hsz]; omega, hp⟩
  · obtain ⟨fp, h2, h3, h4⟩ := he
    refine ⟨fp, h2.kept (by rw [hsz]; exact hs) fun b hb => ?_, h3, by rw [hsz]; omega⟩
    have h5 := h3.2 b hb
    rw [heap_setCell_other _ _ _ _ (by simp; omega), hk b (by omega)]
  · have hlt := ho.lt
    refine ⟨own_keeps ho fun b hb => heap_setCell_other _ _ _ _ (fun e => hne (by rw [hb]; simpa using e)), fun b hb => by rw [hsz]; exact (hlt b hb).2, Nat.le_refl _⟩
end Go.Proofs.YtmmnjdhmankieaaDoor
/-
  Proved: plain facts on a row of numbers that is appended to beside a box.
-/
namespace Go.Proofs.YtmmnjdhmankieaaDoor
open Go.RowKit

theorem rowKeepI {w w' : World} {B : Nat} {e : TypeId} {size : Nat} {v : Value} {n : Nat} {xs : List Value} (h : w.ownsRow B e size v n xs) (hb : Below w.heap.size w w') : w'.ownsRow B e size v n xs :=
  own_keeps h fun k hk => hb.block k (h.lt k hk).2
theorem own_slice {w : World} {B : Nat} {e : TypeId} {size : Nat} {v : Value} {n : Nat} {xs : List Value} (h : w.ownsRow B e size v n xs) : ∃ a m c, v = .slice a m c := by
  rcases h.2 with ⟨rfl, _⟩ | ⟨g, cap, cur, rfl, _⟩
  · exact ⟨_, _, _, rfl⟩
  · exact ⟨_, _, _, rfl⟩
/-- A box beside the row stays. -/
theorem BoxAt.kept7 {w w7 : World} {p : Nat} {cs : Array Value} {o : Obj} {r : Option Nat} (h : BoxAt w p cs) (hg : (w.alloc o).grownBy w7 r) (hr : ∀ k, r = some k → k < p) : BoxAt w7 p cs := by
  have hp := h.1
  refine h.kept (by have := hg.size; simp at this; omega) ?_
  rw [hg.block p (by simp; omega) (fun e => by have := hr p e.symm; omega)]
  exact heap_alloc_old _ _ hp
theorem FreeAt.kept7 {w w7 : World} {p : Nat} {o : Obj} {r : Option Nat} (h : FreeAt w p) (hg : (w.alloc o).grownBy w7 r) (hr : ∀ k, r = some k → k < p) : FreeAt w7 p := by
  have hp := h.1
  have hb : w7.heap[p]? = w.heap[p]? := by
    rw [hg.block p (by simp; omega) (fun e => by have := hr p e.symm; omega)]
    exact heap_alloc_old _ _ hp
  exact ⟨by have := hg.size; simp at this; omega, fun j => (World.frozen?_of_block (a := ⟨p, j, none⟩) hb).trans (h.2 j)⟩
/-- What the append to the path of the moved copy leaves. -/
theorem down_grown {w2 w5 W6 w7 : World} {mid n : Nat} {T : TypeId} {V V' : Value} {xs : List Value} {o : Obj} {r : Option Nat} (hb5 : Below w2.heap.size w2 w5) (hlo : w2.heap.size ≤ mid) (hhi : mid ≤ w5.heap.size) (HO : w5.ownsRow mid T 1 V n xs) (hb6 : Below w5.heap.size w5 W6) (hz6 : W6.heap.size = w5.heap.size + 1) (hg : (W6.alloc o).grownBy w7 r) (hr : r = V.ownBlock) (hblk : V'.ownBlock = r ∨ V'.ownBlock = some (W6.alloc o).heap.size) (u : Value) :
    Below w2.heap.size w2 (w7.setCell ⟨w5.heap.size, 6, none⟩ u) ∧ (∀ b, b < mid → w7.heap[b]? = w5.heap[b]?) ∧ V'.ownBlock ≠ some w5.heap.size ∧ w5.heap.size < w7.heap.size := by
  have hz1 : (W6.alloc o).heap.size = W6.heap.size + 1 := by simp
  have hlt : ∀ k, r = some k → mid ≤ k ∧ k < w5.heap.size := fun k hk => HO.lt k (by rw [← hr]; exact hk)
  have h6 : Below w2.heap.size w2 (W6.alloc o) := (below_thru hb5 (Nat.le_refl _) hb6).alloc (by have := hb5.size; omega) o
  have h7 : Below w2.heap.size w2 w7 := h6.grown hg h6.size fun k hk => by have := hlt k hk; omega
  refine ⟨h7.setCell (by have := hb5.size; simpa using this) u, fun b hb => ?_, ?_, by have := hg.size; omega⟩
  · rw [hg.block b (by omega) (fun e => by have := hlt b e.symm; omega), Below.heap_alloc _ _ _ (by omega), hb6.block b (by omega)]
  · intro e
    rcases hblk with h | h
    · have := hlt _ (h.symm.trans e); omega
    · rw [h] at e
      have : (W6.alloc o).heap.size = w5.heap.size := by simpa using e
      omega
end Go.Proofs.YtmmnjdhmankieaaDoor
/-
  Proved: impl.MoveDown gives the edit with the cursor one step down, in new memory of its own.
-/
namespace Go.Proofs.YtmmnjdhmankieaaDoor
open Go.RowKit

set_option maxRecDepth 100000 in
set_option maxHeartbeats 8000000 in
theorem implMoveDown (d : Nat) (v : Value) (t : Edi) (k : Int) (w : World) (h : EditAt w d v t) (hsz : t.bulk ≤ 1048576) (htab : TabAt w) :
    Calls Tryd.prog 15 #[v, .int .i64 k] w fun e w' => ∃ v', e = .returned (.tuple #[v', .bool (t.to (t.path ++ [k])).2]) ∧ EditIn w' d v' (t.to (t.path ++ [k])).1 w.heap.size w'.heap.size ∧ Below w.heap.size w w' := by
  obtain ⟨i0, hi, hz0, hz1, hzz2⟩ := info_parts info_i
  have HI := Lib.hid hi; clear hi
  have HZ0 := Lib.hid hz0; clear hz0
  have HZ1 := Lib.hid hz1; clear hz1
  have HZ2 := Lib.hid hzz2; clear hzz2
  obtain ⟨xk, xnm, xn, xtk, xta, xtn, xtc, xsa, xsn, xsc, xpa, xpn, xpc, rfl⟩ := edit_parts h
  have hln := edit_len h
  subst hln
  have hbk : t.bulk = t.ex.bulk + t.path.length := rfl
  have hn1 : t.ex.bulk ≤ 1048576 := by omega
  have hn2 : t.path.length ≤ 1048576 := by omega
  have B : Hid (Below w.heap.size w ((w.alloc (.cells #[.int .i64 xk, .string xnm, .int .i64 xn, .int .i64 xtk, .slice xta xtn xtc, .slice xsa xsn xsc, .slice xpa t.path.length xpc] 39)).alloc (.cells #[.int .i64 0, .string ⟨#[]⟩, .int .i64 0, .int .i64 0, .slice none 0 0, .slice none 0 0, .slice none 0 0] 39))) := ((Below.refl _ _).alloc (Nat.le_refl _) _).alloc (by simp) _
  have XA : Hid (BoxAt ((w.alloc (.cells #[.int .i64 xk, .string xnm, .int .i64 xn, .int .i64 xtk, .slice xta xtn xtc, .slice xsa xsn xsc, .slice xpa t.path.length xpc] 39)).alloc (.cells #[.int .i64 0, .string ⟨#[]⟩, .int .i64 0, .int .i64 0, .slice none 0 0, .slice none 0 0, .slice none 0 0] 39)) w.heap.size #[.int .i64 xk, .string xnm, .int .i64 xn, .int .i64 xtk, .slice xta xtn xtc, .slice xsa xsn xsc, .slice xpa t.path.length xpc]) := (BoxAt.new _ _ _).below (below_alloc _ _)
  have XR : Hid (BoxAt ((w.alloc (.cells #[.int .i64 xk, .string xnm, .int .i64 xn, .int .i64 xtk, .slice xta xtn xtc, .slice xsa xsn xsc, .slice xpa t.path.length xpc] 39)).alloc (.cells #[.int .i64 0, .string ⟨#[]⟩, .int .i64 0, .int .i64 0, .slice none 0 0, .slice none 0 0, .slice none 0 0] 39)) (w.heap.size + 1) #[.int .i64 0, .string ⟨#[]⟩, .int .i64 0, .int .i64 0, .slice none 0 0, .slice none 0 0, .slice none 0 0]) := box_at (BoxAt.new _ _ _) (by simp)
  have FR : Hid (FreeAt ((w.alloc (.cells #[.int .i64 xk, .string xnm, .int .i64 xn, .int .i64 xtk, .slice xta xtn xtc, .slice xsa xsn xsc, .slice xpa t.path.length xpc] 39)).alloc (.cells #[.int .i64 0, .string ⟨#[]⟩, .int .i64 0, .int .i64 0, .slice none 0 0, .slice none 0 0, .slice none 0 0] 39)) (w.heap.size + 1)) := free_at (FreeAt.new _ _ _) (by simp)
  have hz2 : ((w.alloc (.cells #[.int .i64 xk, .string xnm, .int .i64 xn, .int .i64 xtk, .slice xta xtn xtc, .slice xsa xsn xsc, .slice xpa t.path.length xpc] 39)).alloc (.cells #[.int .i64 0, .string ⟨#[]⟩, .int .i64 0, .int .i64 0, .slice none 0 0, .slice none 0 0, .slice none 0 0] 39)).heap.size = w.heap.size + 2 := by simp
  have HA := Lib.hid (h.below B.out)
  have HT := Lib.hid (htab.below B.out)
  clear h htab
  go_enter Tryd.func15, Tryd.ntmps15
  go_upto_region 1 with fail
  generalize ((w.alloc (.cells #[.int .i64 xk, .string xnm, .int .i64 xn, .int .i64 xtk, .slice xta xtn xtc, .slice xsa xsn xsc, .slice xpa t.path.length xpc] 39)).alloc (.cells #[.int .i64 0, .string ⟨#[]⟩, .int .i64 0, .int .i64 0, .slice none 0 0, .slice none 0 0, .slice none 0 0] 39)) = w2 at B XA XR FR hz2 HA HT ⊢
  have x0 := XA.out.2 0
  have x1 := XA.out.2 1
  have x2 := XA.out.2 2
  have x3 := XA.out.2 3
  have x4 := XA.out.2 4
  have x5 := XA.out.2 5
  have x6 := XA.out.2 6
  go_wp2_with fail
  clear x0 x1 x2 x3 x4 x5 x6
  refine (implCopyEdit d _ t _ HA.out hsz).mono ?_
  rintro e w5 ⟨v5, rfl, hv, hb⟩
  obtain ⟨zk, znm, zn, ztk, zta, ztn, ztc, zsa, zsn, zsc, zpa, zpn, zpc, mid, rfl, he, hp, hlo, hhi, hpl⟩ := hv
  have hz5 := hb.size
  have HE := Lib.hid he
  have HO := Lib.hid hp.1
  have HH := Lib.hid hp.2.1
  clear he hp
  have HB5 := Lib.hid hb
  clear hb
  have hzn : zpn = t.path.length := by
    obtain ⟨a, c, h, _⟩ := Ints.of_own HO.out
    cases h; rfl
  subst hzn
  obtain ⟨W6, hW6⟩ : ∃ W, W = w5.alloc (.cells #[.int .i64 zk, .string znm, .int .i64 zn, .int .i64 ztk, .slice zta ztn ztc, .slice zsa zsn zsc, .slice zpa t.path.length zpc] 39) := ⟨_, rfl⟩
  have XM : Hid (BoxAt W6 w5.heap.size #[.int .i64 zk, .string znm, .int .i64 zn, .int .i64 ztk, .slice zta ztn ztc, .slice zsa zsn zsc, .slice zpa t.path.length zpc]) := by rw [hW6]; exact BoxAt.new _ _ _
  have FM : Hid (FreeAt W6 w5.heap.size) := by rw [hW6]; exact FreeAt.new _ #[.int .i64 zk, .string znm, .int .i64 zn, .int .i64 ztk, .slice zta ztn ztc, .slice zsa zsn zsc, .slice zpa t.path.length zpc] _
  have hb6 : Below w5.heap.size w5 W6 := by rw [hW6]; exact below_alloc _ _
  have hz6 : W6.heap.size = w5.heap.size + 1 := by rw [hW6]; simp
  have HZ6 := Lib.hid hz6; clear hz6
  have HO6 := Lib.hid (rowKeepI HO.out hb6)
  have HB6 := Lib.hid hb6
  clear hb6
  go_upto_region 2 with fail
  rw [← hW6]
  clear hW6
  have m0 := XM.out.2 0
  have m1 := XM.out.2 1
  have m2 := XM.out.2 2
  have m3 := XM.out.2 3
  have m4 := XM.out.2 4
  have m5 := XM.out.2 5
  have m6 := XM.out.2 6
  have hpw : mid ≤ W6.heap.size := by have := HZ6.out; omega
  go_upto_region 3 with (at_builtin; go_must (refine wpList_append_own_at _ rfl _ _ 28 rfl mid 3 i0 (.int .i64 0) 1 8 Tryd.underlying28 HI.out HZ0.out HZ1.out HZ2.out rfl (by decide) _ _ _ rfl (HO6.out.alloc _) ⟨W6.heap.size, 0, none⟩ 1 1 [.int .i64 k] rfl rfl (newsInt _ _ _) (by simp [Value.oneCell']) (by unfold maxLen; omega) (by omega) (by simp; omega) ?_); go_loud (intro v2 w7 hown2 hg2 _ hblk2; obtain ⟨ga, gn, gc, rfl⟩ := own_slice hown2; have XM7 := XM.out.kept7 hg2 (HH.out) ; have m6' := XM7.2 6; have f6' := (FM.out.kept7 hg2 (HH.out)).2 6))
  obtain ⟨hb, hkp, hne, hw57⟩ := down_grown HB5.out hlo hhi HO.out HB6.out HZ6.out hg2 rfl hblk2 (.slice ga gn gc)
  have hin : EditIn (w7.setCell ⟨w5.heap.size, 6, none⟩ (.slice ga gn gc)) d (.agg #[.int .i64 zk, .string znm, .int .i64 zn, .int .i64 ztk, .slice zta ztn ztc, .slice zsa zsn zsc, .slice ga gn gc]) ⟨t.ex, t.path ++ [k]⟩ w2.heap.size (w7.setCell ⟨w5.heap.size, 6, none⟩ (.slice ga gn gc)).heap.size := down_in HE.out hhi hw57 (Nat.le_of_lt hw57) hkp hlo (by simpa using hown2) hne (by simp; omega)
  have HM := Lib.hid hin
  have hxm : BoxAt (w7.setCell ⟨w5.heap.size, 6, none⟩ (.slice ga gn gc)) w5.heap.size #[.int .i64 zk, .string znm, .int .i64 zn, .int .i64 ztk, .slice zta ztn ztc, .slice zsa zsn zsc, .slice ga gn gc] := XM7.put (j := 6) (u := .slice ga gn gc) (by simp)
  have XM' := Lib.hid hxm
  clear hin hxm
  replace B := Lib.hid (below_thru B.out (Nat.le_refl _) hb)
  replace XA := Lib.hid (XA.out.below hb)
  replace XR := Lib.hid (XR.out.below hb)
  replace FR := Lib.hid (FR.out.below hb)
  replace HA := Lib.hid (HA.out.below hb)
  replace HT := Lib.hid (HT.out.below hb)
  clear hb hkp hne hw57 hblk2 hown2 hg2 XM7 m6' f6' XM FM m0 m1 m2 m3 m4 m5 m6 HO HO6 HE HH HB5 HB6
  generalize w7.setCell ⟨w5.heap.size, 6, none⟩ (.slice ga gn gc) = W7 at HM XM' B XA XR FR HA HT ⊢
  obtain ⟨pb, hpb⟩ : ∃ p, p = w5.heap.size := ⟨_, rfl⟩
  rw [← hpb] at XM' ⊢
  clear hpb
  have hz7 : w2.heap.size ≤ W7.heap.size := by
    obtain ⟨_, _, _, _, _, _, _, _, _, _, _, _, _, _, _, _, _, q1, q2, _⟩ := HM.out
    omega
  have m0 := XM'.out.2 0
  have m1 := XM'.out.2 1
  have m2 := XM'.out.2 2
  have m3 := XM'.out.2 3
  have m4 := XM'.out.2 4
  have m5 := XM'.out.2 5
  have m6 := XM'.out.2 6
  go_wp2_with fail
  clear m0 m1 m2 m3 m4 m5 m6
  refine (implIsEditW d _ ⟨t.ex, t.path ++ [k]⟩ _ HM.out.at_ hn1 (by simp; omega) HT.out).mono ?_
  rintro e w8 ⟨he1, hb⟩
  have hz8 := hb.size
  replace B := Lib.hid (below_thru B.out (Nat.le_refl _) hb)
  replace XA := Lib.hid (XA.out.below hb)
  replace XR := Lib.hid (XR.out.below hb)
  replace FR := Lib.hid (FR.out.below hb)
  replace HA := Lib.hid (HA.out.below hb)
  replace XM' := Lib.hid (XM'.out.below hb)
  replace HM := Lib.hid (HM.out.below hb)
  clear hb HT
  cases hq : (Edi.mk t.ex (t.path ++ [k])).okB with
  | false =>
    rw [hq] at he1
    subst he1
    have HQ := Lib.hid (down_not hq)
    clear hq
    have x0 := XA.out.2 0
    have x1 := XA.out.2 1
    have x2 := XA.out.2 2
    have x3 := XA.out.2 3
    have x4 := XA.out.2 4
    have x5 := XA.out.2 5
    have x6 := XA.out.2 6
    go_wp2_with fail
    clear x0 x1 x2 x3 x4 x5 x6
    refine (implCopyEdit d _ t _ HA.out hsz).mono ?_
    rintro e w9 ⟨v9, rfl, hv, hb⟩
    obtain ⟨uk, unm, un, utk, uta, utn, utc, usa, usn, usc, upa, upn, upc, rfl⟩ := edit_parts hv.at_
    have HV := Lib.hid hv
    have hz9 := hb.size
    replace B := Lib.hid (below_thru B.out (Nat.le_refl _) hb)
    replace XA := Lib.hid (XA.out.below hb)
    replace XR := Lib.hid (XR.out.below hb)
    replace FR := Lib.hid (FR.out.below hb)
    replace HA := Lib.hid (HA.out.below hb)
    clear hv hb
    have r0 := XR.out.2 0
    have s0 := FR.out.2 0
    have r1 := XR.out.2 1
    have s1 := FR.out.2 1
    have r2 := XR.out.2 2
    have s2 := FR.out.2 2
    have r3 := XR.out.2 3
    have s3 := FR.out.2 3
    have r4 := XR.out.2 4
    have s4 := FR.out.2 4
    have r5 := XR.out.2 5
    have s5 := FR.out.2 5
    have r6 := XR.out.2 6
    have s6 := FR.out.2 6
    go_wp2_with fail
    have HI := im_old B.out HV.out (by omega) XR.out
    clear r0 r1 r2 r3 r4 r5 r6
    clear s0 s1 s2 s3 s4 s5 s6
    generalize (((((((w9.setCell ⟨w.heap.size + 1, 0, none⟩ (.int .i64 uk)).setCell ⟨w.heap.size + 1, 1, none⟩ (.string unm)).setCell ⟨w.heap.size + 1, 2, none⟩ (.int .i64 un)).setCell ⟨w.heap.size + 1, 3, none⟩ (.int .i64 utk)).setCell ⟨w.heap.size + 1, 4, none⟩ (.slice uta utn utc)).setCell ⟨w.heap.size + 1, 5, none⟩ (.slice usa usn usc)).setCell ⟨w.heap.size + 1, 6, none⟩ (.slice upa upn upc)) = WX at HI ⊢
    obtain ⟨_, yk, ynm, yn, ytk, yta, ytn, ytc, ysa, ysn, ysc, ypa, ypn, ypc, hXo, hin, hbf⟩ := HI
    have h0 := hXo.2 0
    have h1 := hXo.2 1
    have h2 := hXo.2 2
    have h3 := hXo.2 3
    have h4 := hXo.2 4
    have h5 := hXo.2 5
    have h6 := hXo.2 6
    refine bodyPost_ret (v := .tuple #[.agg #[.int .i64 yk, .string ynm, .int .i64 yn, .int .i64 ytk, .slice yta ytn ytc, .slice ysa ysn ysc, .slice ypa ypn ypc], .bool false]) (by simp [results, Tryd.results15, go_sem, h0, h1, h2, h3, h4, h5, h6]) rfl ?_
    rw [HQ.out]
    exact ⟨_, rfl, hin, hbf⟩
  | true =>
    rw [hq] at he1
    subst he1
    have HQ := Lib.hid (down_ok hq)
    clear hq
    have m0 := XM'.out.2 0
    have m1 := XM'.out.2 1
    have m2 := XM'.out.2 2
    have m3 := XM'.out.2 3
    have m4 := XM'.out.2 4
    have m5 := XM'.out.2 5
    have m6 := XM'.out.2 6
    have r0 := XR.out.2 0
    have s0 := FR.out.2 0
    have r1 := XR.out.2 1
    have s1 := FR.out.2 1
    have r2 := XR.out.2 2
    have s2 := FR.out.2 2
    have r3 := XR.out.2 3
    have s3 := FR.out.2 3
    have r4 := XR.out.2 4
    have s4 := FR.out.2 4
    have r5 := XR.out.2 5
    have s5 := FR.out.2 5
    have r6 := XR.out.2 6
    have s6 := FR.out.2 6
    go_wp2_with fail
    have HI := im_old B.out (HM.out.wide (Nat.le_refl _) hz8 (Nat.le_refl _)) (by omega) XR.out
    clear m0 m1 m2 m3 m4 m5 m6
    clear r0 r1 r2 r3 r4 r5 r6
    clear s0 s1 s2 s3 s4 s5 s6
    generalize (((((((w8.setCell ⟨w.heap.size + 1, 0, none⟩ (.int .i64 zk)).setCell ⟨w.heap.size + 1, 1, none⟩ (.string znm)).setCell ⟨w.heap.size + 1, 2, none⟩ (.int .i64 zn)).setCell ⟨w.heap.size + 1, 3, none⟩ (.int .i64 ztk)).setCell ⟨w.heap.size + 1, 4, none⟩ (.slice zta ztn ztc)).setCell ⟨w.heap.size + 1, 5, none⟩ (.slice zsa zsn zsc)).setCell ⟨w.heap.size + 1, 6, none⟩ (.slice ga gn gc)) = WX at HI ⊢
    obtain ⟨_, yk, ynm, yn, ytk, yta, ytn, ytc, ysa, ysn, ysc, ypa, ypn, ypc, hXo, hin, hbf⟩ := HI
    have h0 := hXo.2 0
    have h1 := hXo.2 1
    have h2 := hXo.2 2
    have h3 := hXo.2 3
    have h4 := hXo.2 4
    have h5 := hXo.2 5
    have h6 := hXo.2 6
    refine bodyPost_ret (v := .tuple #[.agg #[.int .i64 yk, .string ynm, .int .i64 yn, .int .i64 ytk, .slice yta ytn ytc, .slice ysa ysn ysc, .slice ypa ypn ypc], .bool true]) (by simp [results, Tryd.results15, go_sem, h0, h1, h2, h3, h4, h5, h6]) rfl ?_
    rw [HQ.out]
    exact ⟨_, rfl, hin, hbf⟩
end Go.Proofs.YtmmnjdhmankieaaDoor
/-
  Proved: laws.markEdit and laws.heldEdit, for paths of one more step.
-/
namespace Go.Proofs.YtmmnjdhmankieaaDoor
open Go.RowKit

set_option maxRecDepth 100000 in
set_option maxHeartbeats 2000000 in
theorem markEditInW (B d : Nat) (v : Value) (t : Edi) (lo hi : Nat) (k0 : Int) (w : World) (hB : B ≤ lo) (hBw : B ≤ w.heap.size) (hk0 : 0 ≤ k0) (hk1 : k0 + t.wt + 1 ≤ 1099511627776) (hn : t.bulk ≤ 1048577) (h : EditIn w d v t lo hi) :
    Calls Tryd.prog 12 #[v, .int .i64 k0] w fun e w' => e = .returned (.int .i64 (k0 + (t.wt : Int))) ∧ EditIn w' d v (t.markIn k0) lo hi ∧ Below B w w' ∧ Kept lo hi w w' := by
  cases t with
  | mk ex ps =>
    obtain ⟨k, nm, n, tk, ta, tn, tc, sa, sn, sc, pa, pn, pc, mid, rfl, he, hp, h1, h2, hl⟩ := h
    dsimp only at he hp hl
    have hw : (Edi.mk ex ps).wt = ex.wt + ps.length := rfl
    have hbk : (Edi.mk ex ps).bulk = ex.bulk + ps.length := rfl
    rw [hw] at hk1
    have hn2 : ps.length ≤ 1048577 := by omega
    have hb := below_alloc w (.cells #[.int .i64 k, .string nm, .int .i64 n, .int .i64 tk, .slice ta tn tc, .slice sa sn sc, .slice pa pn pc] 39)
    have XA : Hid (BoxAt (w.alloc (.cells #[.int .i64 k, .string nm, .int .i64 n, .int .i64 tk, .slice ta tn tc, .slice sa sn sc, .slice pa pn pc] 39)) w.heap.size #[.int .i64 k, .string nm, .int .i64 n, .int .i64 tk, .slice ta tn tc, .slice sa sn sc, .slice pa pn pc]) := BoxAt.new _ _ _
    have HE := Lib.hid (he.below hb)
    have HP := Lib.hid (hp.below hb)
    have HB := Lib.hid hb
    have hz : (w.alloc (.cells #[.int .i64 k, .string nm, .int .i64 n, .int .i64 tk, .slice ta tn tc, .slice sa sn sc, .slice pa pn pc] 39)).heap.size = w.heap.size + 1 := by simp
    have hhi := hp.2.2
    clear he hp hb hw hbk hn
    go_enter Tryd.func12, Tryd.ntmps12
    go_wp2_with fail
    refine (markExIn B d _ ex lo mid k0 _ hB (by omega) hk0 (by omega) HE.out).mono ?_
    rintro e w1 ⟨rfl, hm, hb1, hk⟩
    have HM := Lib.hid hm
    have HB1 := Lib.hid hb1
    have HK := Lib.hid hk
    replace HP := Lib.hid (HP.out.beside hk (by omega))
    replace XA := Lib.hid (XA.out.beside hk (by omega))
    clear hm hb1 hk HE
    obtain ⟨q, hq⟩ : ∃ q : Int, q = k0 + (ex.wt : Int) := ⟨_, rfl⟩
    rw [← hq]
    have q0 : 0 ≤ q := by omega
    have q1 : q + ps.length ≤ 1099511627776 := by omega
    have HQQ := Lib.hid hq
    clear hq
    have c6 := XA.out.2 6
    go_wp2_with fail
    clear c6
    refine (markIntsIn B _ ps mid hi q _ (by omega) (by omega) (by omega) (by omega) HP.out).mono ?_
    rintro e w2 ⟨rfl, hm2, hb2, hk2⟩
    have HM2 := Lib.hid hm2
    have HB2 := Lib.hid hb2
    have HK2 := Lib.hid hk2
    clear hm2 hb2 hk2 HP XA
    go_wp2_with fail
    go_ret
    refine ⟨by show Ending.returned (Value.int .i64 (q + (ps.length : Int))) = Ending.returned (Value.int .i64 (k0 + ((ex.wt + ps.length : Nat) : Int))); rw [show q + (ps.length : Int) = k0 + ((ex.wt + ps.length : Nat) : Int) from by have := HQQ.out; omega], ⟨k, nm, n, tk, ta, tn, tc, sa, sn, sc, pa, pn, pc, mid, rfl, HM.out.beside HK2.out (by omega), ?_, h1, h2, ?_⟩, (HB.out.mono (by omega)).trans (HB1.out.trans HB2.out), Kept.of_below HB.out (HK.out.trans HK2.out h1 h2)⟩
    · show IntsIn _ _ (imarks (k0 + (ex.wt : Int)) ps.length) _ _
      rw [← HQQ.out]; exact HM2.out
    · show (imarks (k0 + (ex.wt : Int)) ps.length).length ≤ _
      rw [imarks_length]; exact hl
set_option maxRecDepth 100000 in
set_option maxHeartbeats 2000000 in
theorem heldEditW (d : Nat) (v : Value) (t : Edi) (k0 : Int) (w : World) (hk0 : 0 ≤ k0) (hk1 : k0 + t.wt + 1 ≤ 1099511627776) (hn : t.bulk ≤ 1048577) (h : EditAt w d v (t.markIn k0)) :
    Calls Tryd.prog 13 #[v, .int .i64 k0] w fun e w' => e = .returned (.int .i64 (k0 + (t.wt : Int))) ∧ Below w.heap.size w w' := by
  cases t with
  | mk ex ps =>
    obtain ⟨k, nm, n, tk, ta, tn, tc, sa, sn, sc, pa, pn, pc, rfl, he, hp, hl⟩ := h
    have he2 : ExAt w d (.agg #[.int .i64 k, .string nm, .int .i64 n, .int .i64 tk, .slice ta tn tc, .slice sa sn sc]) (ex.markIn k0) := he
    have hp2 : Ints w (.slice pa pn pc) (imarks (k0 + (ex.wt : Int)) ps.length) := hp
    have hw : (Edi.mk ex ps).wt = ex.wt + ps.length := rfl
    have hbk : (Edi.mk ex ps).bulk = ex.bulk + ps.length := rfl
    rw [hw] at hk1
    have hn2 : ps.length ≤ 1048577 := by omega
    have hb := below_alloc w (.cells #[.int .i64 k, .string nm, .int .i64 n, .int .i64 tk, .slice ta tn tc, .slice sa sn sc, .slice pa pn pc] 39)
    have XA : Hid (BoxAt (w.alloc (.cells #[.int .i64 k, .string nm, .int .i64 n, .int .i64 tk, .slice ta tn tc, .slice sa sn sc, .slice pa pn pc] 39)) w.heap.size #[.int .i64 k, .string nm, .int .i64 n, .int .i64 tk, .slice ta tn tc, .slice sa sn sc, .slice pa pn pc]) := BoxAt.new _ _ _
    have HE := Lib.hid (he2.below hb)
    have HP := Lib.hid (hp2.below hb)
    have HB := Lib.hid hb
    clear he hp he2 hp2 hb hw hbk hn hl
    go_enter Tryd.func13, Tryd.ntmps13
    go_wp2_with fail
    refine (heldEx d _ ex k0 _ hk0 (by omega) HE.out).mono ?_
    rintro e w1 ⟨rfl, hb1⟩
    replace HB := Lib.hid (below_thru HB.out (Nat.le_refl _) hb1)
    replace HP := Lib.hid (HP.out.below hb1)
    replace XA := Lib.hid (XA.out.below hb1)
    clear hb1 HE
    obtain ⟨q, hq⟩ : ∃ q : Int, q = k0 + (ex.wt : Int) := ⟨_, rfl⟩
    have HQ : Hid (Ints w1 (.slice pa pn pc) (imarks q ps.length)) := by show Ints _ _ _; rw [hq]; exact HP.out
    clear HP
    rw [← hq]
    have q0 : 0 ≤ q := by omega
    have q1 : q + ps.length ≤ 1099511627776 := by omega
    have HQQ := Lib.hid hq
    clear hq
    have c6 := XA.out.2 6
    go_wp2_with fail
    clear c6
    refine (heldInts _ ps.length q (by omega) (by omega) (by omega) _ HQ.out).mono ?_
    rintro e w2 ⟨rfl, hb2⟩
    replace HB := Lib.hid (below_thru HB.out (Nat.le_refl _) hb2)
    clear hb2
    go_wp2_with fail
    go_ret
    exact ⟨by show Ending.returned (Value.int .i64 (q + (ps.length : Int))) = Ending.returned (Value.int .i64 (k0 + ((ex.wt + ps.length : Nat) : Int))); rw [show q + (ps.length : Int) = k0 + ((ex.wt + ps.length : Nat) : Int) from by have := HQQ.out; omega], HB.out⟩
end Go.Proofs.YtmmnjdhmankieaaDoor
/-
  Proved: the law FnExactMoveDown answers true for every edit, and leaves the memory that was there as it was.
-/
namespace Go.Proofs.YtmmnjdhmankieaaDoor
open Go.RowKit

set_option maxRecDepth 100000 in
set_option maxHeartbeats 4000000 in
theorem moveDownWalk (d : Nat) (v1 : Value) (t1 : Edi) (k : Int) (w : World) (h1 : EditAt w d v1 t1) (htab : TabAt w) :
    Calls Tryd.prog 4 #[v1, .int .i64 k] w fun e w' => e = .returned (.bool true) ∧ Below w.heap.size w w' := by
  obtain ⟨ak, am, an, atk, ata, atn, atc, asa, asn, asc, apa, apn, apc, rfl⟩ := edit_parts h1
  have B : Hid (Below w.heap.size w (w.alloc (.cells #[.int .i64 ak, .string am, .int .i64 an, .int .i64 atk, .slice ata atn atc, .slice asa asn asc, .slice apa apn apc] 30))) := below_alloc _ _
  have HA10 := Lib.hid h1
  have HA1 := Lib.hid (h1.below B.out)
  have HTAB0 := Lib.hid htab
  have HTAB := Lib.hid (htab.below B.out)
  have XA1 : Hid (BoxAt (w.alloc (.cells #[.int .i64 ak, .string am, .int .i64 an, .int .i64 atk, .slice ata atn atc, .slice asa asn asc, .slice apa apn apc] 30)) (w.heap.size) #[.int .i64 ak, .string am, .int .i64 an, .int .i64 atk, .slice ata atn atc, .slice asa asn asc, .slice apa apn apc]) := BoxAt.new _ _ _
  clear h1 htab
  go_enter Tryd.func4, Tryd.ntmps4
  go_wp2_with fail
  refine (szEdit d _ t1 1048576 _ (by omega) (by omega) HA1.out).mono ?_
  rintro e w1 ⟨r1, rfl, hb, hr1⟩
  have hz1 := hb.size
  try simp only [World.size_alloc] at hz1
  try simp only [World.size_drew] at hz1
  replace B := Lib.hid (below_thru B.out (Nat.le_refl _) hb)
  replace HA1 := Lib.hid (HA1.out.below hb)
  replace HTAB := Lib.hid (HTAB.out.below hb)
  replace XA1 := Lib.hid (XA1.out.below hb)
  clear hb
  rcases hr1 with ⟨hr1, hs1⟩ | ⟨hr1, hs1⟩
  · go_wp2_with fail
    go_ret
    exact ⟨rfl, B.out⟩
  have hn1 : t1.bulk ≤ 1048576 := by omega
  have hwt1 : t1.wt ≤ 6291456 := by
    have := t1.ex.wt_le
    have h2 : t1.bulk = t1.ex.bulk + t1.path.length := rfl
    show t1.ex.wt + t1.path.length ≤ _
    omega
  clear hs1
  obtain ⟨R, hR⟩ : ∃ R : Edi, R = (t1.to (t1.path ++ [k])).1 := ⟨_, rfl⟩
  have hrb1 : R.bulk ≤ 1048577 := by rw [hR]; exact Nat.le_trans (down_bulk t1 k) (by omega)
  have hwr : R.wt ≤ 6291468 := by
    have := R.ex.wt_le
    have h2 : R.bulk = R.ex.bulk + R.path.length := rfl
    show R.ex.wt + R.path.length ≤ _
    omega
  have HR := Lib.hid hR
  clear hR
  have cXA1_0 := XA1.out.2 0
  have cXA1_1 := XA1.out.2 1
  have cXA1_2 := XA1.out.2 2
  have cXA1_3 := XA1.out.2 3
  have cXA1_4 := XA1.out.2 4
  have cXA1_5 := XA1.out.2 5
  have cXA1_6 := XA1.out.2 6
  go_wp2_with fail
  clear cXA1_0 cXA1_1 cXA1_2 cXA1_3 cXA1_4 cXA1_5 cXA1_6
  refine (toEditIn d _ t1 _ hn1 HA1.out).mono ?_
  rintro e w2 ⟨s, rfl, ht, hb⟩
  have hz2 := hb.size
  try simp only [World.size_alloc] at hz2
  try simp only [World.size_drew] at hz2
  replace B := Lib.hid (below_thru B.out (Nat.le_refl _) hb)
  replace HA1 := Lib.hid (HA1.out.below hb)
  replace HTAB := Lib.hid (HTAB.out.below hb)
  replace XA1 := Lib.hid (XA1.out.below hb)
  clear hb
  have Hs := Lib.hid ht.at_
  clear ht
  have cXA1_0 := XA1.out.2 0
  have cXA1_1 := XA1.out.2 1
  have cXA1_2 := XA1.out.2 2
  have cXA1_3 := XA1.out.2 3
  have cXA1_4 := XA1.out.2 4
  have cXA1_5 := XA1.out.2 5
  have cXA1_6 := XA1.out.2 6
  go_wp2_with fail
  clear cXA1_0 cXA1_1 cXA1_2 cXA1_3 cXA1_4 cXA1_5 cXA1_6
  refine (specMoveDown d _ t1 k _ Hs.out hn1).mono ?_
  rintro e w4 ⟨u, rfl, hi, hb⟩
  rw [← HR.out] at hi
  have hz4 := hb.size
  try simp only [World.size_alloc] at hz4
  try simp only [World.size_drew] at hz4
  replace B := Lib.hid (below_thru B.out (Nat.le_refl _) hb)
  replace HA1 := Lib.hid (HA1.out.below hb)
  replace HTAB := Lib.hid (HTAB.out.below hb)
  replace XA1 := Lib.hid (XA1.out.below hb)
  replace Hs := Lib.hid (Hs.out.below hb)
  clear hb
  replace hi := hi.at_
  obtain ⟨uk, um, un, utk, uta, utn, utc, usa, usn, usc, upa, upn, upc, rfl⟩ := edit_parts hi
  have Hu0 := Lib.hid hi
  have Hu := Lib.hid hi
  have S4 := Lib.hid (Since.refl w4)
  clear hi
  have Xu : Hid (BoxAt (w4.alloc (.cells #[.int .i64 uk, .string um, .int .i64 un, .int .i64 utk, .slice uta utn utc, .slice usa usn usc, .slice upa upn upc] 39)) w4.heap.size #[.int .i64 uk, .string um, .int .i64 un, .int .i64 utk, .slice uta utn utc, .slice usa usn usc, .slice upa upn upc]) := BoxAt.new _ _ _
  have hb := below_alloc w4 (.cells #[.int .i64 uk, .string um, .int .i64 un, .int .i64 utk, .slice uta utn utc, .slice usa usn usc, .slice upa upn upc] 39)
  replace B := Lib.hid (below_thru B.out (Nat.le_refl _) hb)
  replace HA1 := Lib.hid (HA1.out.below hb)
  replace HTAB := Lib.hid (HTAB.out.below hb)
  replace XA1 := Lib.hid (XA1.out.below hb)
  replace Hs := Lib.hid (Hs.out.below hb)
  replace S4 := Lib.hid (S4.out.below hb)
  replace Hu := Lib.hid (Hu.out.below hb)
  clear hb
  clear Hs
  have cXA1_0 := XA1.out.2 0
  have cXA1_1 := XA1.out.2 1
  have cXA1_2 := XA1.out.2 2
  have cXA1_3 := XA1.out.2 3
  have cXA1_4 := XA1.out.2 4
  have cXA1_5 := XA1.out.2 5
  have cXA1_6 := XA1.out.2 6
  have cXu_0 := Xu.out.2 0
  have cXu_1 := Xu.out.2 1
  have cXu_2 := Xu.out.2 2
  have cXu_3 := Xu.out.2 3
  have cXu_4 := Xu.out.2 4
  have cXu_5 := Xu.out.2 5
  have cXu_6 := Xu.out.2 6
  go_wp2_with fail
  clear cXA1_0 cXA1_1 cXA1_2 cXA1_3 cXA1_4 cXA1_5 cXA1_6 cXu_0 cXu_1 cXu_2 cXu_3 cXu_4 cXu_5 cXu_6
  refine (toEditIn d _ t1 _ hn1 HA1.out).mono ?_
  rintro e w5 ⟨x, rfl, ht, hb⟩
  have hz5 := hb.size
  try simp only [World.size_alloc] at hz5
  try simp only [World.size_drew] at hz5
  try simp only [World.size_alloc] at ht
  replace B := Lib.hid (below_thru B.out (Nat.le_refl _) hb)
  replace HA1 := Lib.hid (HA1.out.below hb)
  replace HTAB := Lib.hid (HTAB.out.below hb)
  replace XA1 := Lib.hid (XA1.out.below hb)
  replace S4 := Lib.hid (S4.out.below hb)
  replace Hu := Lib.hid (Hu.out.below hb)
  replace Xu := Lib.hid (Xu.out.below hb)
  clear hb
  obtain ⟨xk, xm, xn, xtk, xta, xtn, xtc, xsa, xsn, xsc, xpa, xpn, xpc, rfl⟩ := edit_parts ht.at_
  have Hx := Lib.hid ht
  clear ht
  have Xx : Hid (BoxAt (w5.alloc (.cells #[.int .i64 xk, .string xm, .int .i64 xn, .int .i64 xtk, .slice xta xtn xtc, .slice xsa xsn xsc, .slice xpa xpn xpc] 39)) w5.heap.size #[.int .i64 xk, .string xm, .int .i64 xn, .int .i64 xtk, .slice xta xtn xtc, .slice xsa xsn xsc, .slice xpa xpn xpc]) := BoxAt.new _ _ _
  have hb := below_alloc w5 (.cells #[.int .i64 xk, .string xm, .int .i64 xn, .int .i64 xtk, .slice xta xtn xtc, .slice xsa xsn xsc, .slice xpa xpn xpc] 39)
  replace B := Lib.hid (below_thru B.out (Nat.le_refl _) hb)
  replace HA1 := Lib.hid (HA1.out.below hb)
  replace HTAB := Lib.hid (HTAB.out.below hb)
  replace XA1 := Lib.hid (XA1.out.below hb)
  replace S4 := Lib.hid (S4.out.below hb)
  replace Hu := Lib.hid (Hu.out.below hb)
  replace Xu := Lib.hid (Xu.out.below hb)
  replace Hx := Lib.hid (Hx.out.below hb)
  clear hb
  have cXA1_0 := XA1.out.2 0
  have cXA1_1 := XA1.out.2 1
  have cXA1_2 := XA1.out.2 2
  have cXA1_3 := XA1.out.2 3
  have cXA1_4 := XA1.out.2 4
  have cXA1_5 := XA1.out.2 5
  have cXA1_6 := XA1.out.2 6
  have cXu_0 := Xu.out.2 0
  have cXu_1 := Xu.out.2 1
  have cXu_2 := Xu.out.2 2
  have cXu_3 := Xu.out.2 3
  have cXu_4 := Xu.out.2 4
  have cXu_5 := Xu.out.2 5
  have cXu_6 := Xu.out.2 6
  have cXx_0 := Xx.out.2 0
  have cXx_1 := Xx.out.2 1
  have cXx_2 := Xx.out.2 2
  have cXx_3 := Xx.out.2 3
  have cXx_4 := Xx.out.2 4
  have cXx_5 := Xx.out.2 5
  have cXx_6 := Xx.out.2 6
  go_wp2_with fail
  clear cXA1_0 cXA1_1 cXA1_2 cXA1_3 cXA1_4 cXA1_5 cXA1_6 cXu_0 cXu_1 cXu_2 cXu_3 cXu_4 cXu_5 cXu_6 cXx_0 cXx_1 cXx_2 cXx_3 cXx_4 cXx_5 cXx_6
  have HxAT := Lib.hid Hx.out.at_
  refine (implMoveDown d _ t1 k _ HxAT.out hn1 HTAB.out).mono ?_
  rintro e w7 ⟨g, rfl, hi, hb⟩
  rw [← HR.out] at hi
  have hz7 := hb.size
  try simp only [World.size_alloc] at hz7
  try simp only [World.size_drew] at hz7
  replace B := Lib.hid (below_thru B.out (Nat.le_refl _) hb)
  replace HA1 := Lib.hid (HA1.out.below hb)
  replace HTAB := Lib.hid (HTAB.out.below hb)
  replace XA1 := Lib.hid (XA1.out.below hb)
  replace S4 := Lib.hid (S4.out.below hb)
  replace Hu := Lib.hid (Hu.out.below hb)
  replace Xu := Lib.hid (Xu.out.below hb)
  replace Hx := Lib.hid (Hx.out.below hb)
  replace Xx := Lib.hid (Xx.out.below hb)
  clear hb
  try simp only [World.size_alloc] at hi
  try simp only [World.size_drew] at hi
  obtain ⟨gk, gm, gn, gtk, gta, gtn, gtc, gsa, gsn, gsc, gpa, gpn, gpc, rfl⟩ := edit_parts hi.at_
  have Hg := Lib.hid hi
  clear hi
  have Xg : Hid (BoxAt (w7.alloc (.cells #[.int .i64 gk, .string gm, .int .i64 gn, .int .i64 gtk, .slice gta gtn gtc, .slice gsa gsn gsc, .slice gpa gpn gpc] 39)) w7.heap.size #[.int .i64 gk, .string gm, .int .i64 gn, .int .i64 gtk, .slice gta gtn gtc, .slice gsa gsn gsc, .slice gpa gpn gpc]) := BoxAt.new _ _ _
  have hb := below_alloc w7 (.cells #[.int .i64 gk, .string gm, .int .i64 gn, .int .i64 gtk, .slice gta gtn gtc, .slice gsa gsn gsc, .slice gpa gpn gpc] 39)
  replace B := Lib.hid (below_thru B.out (Nat.le_refl _) hb)
  replace HA1 := Lib.hid (HA1.out.below hb)
  replace HTAB := Lib.hid (HTAB.out.below hb)
  replace XA1 := Lib.hid (XA1.out.below hb)
  replace S4 := Lib.hid (S4.out.below hb)
  replace Hu := Lib.hid (Hu.out.below hb)
  replace Xu := Lib.hid (Xu.out.below hb)
  replace Hx := Lib.hid (Hx.out.below hb)
  replace Xx := Lib.hid (Xx.out.below hb)
  replace Hg := Lib.hid (Hg.out.below hb)
  clear hb
  clear HxAT
  have cXA1_0 := XA1.out.2 0
  have cXA1_1 := XA1.out.2 1
  have cXA1_2 := XA1.out.2 2
  have cXA1_3 := XA1.out.2 3
  have cXA1_4 := XA1.out.2 4
  have cXA1_5 := XA1.out.2 5
  have cXA1_6 := XA1.out.2 6
  have cXu_0 := Xu.out.2 0
  have cXu_1 := Xu.out.2 1
  have cXu_2 := Xu.out.2 2
  have cXu_3 := Xu.out.2 3
  have cXu_4 := Xu.out.2 4
  have cXu_5 := Xu.out.2 5
  have cXu_6 := Xu.out.2 6
  have cXx_0 := Xx.out.2 0
  have cXx_1 := Xx.out.2 1
  have cXx_2 := Xx.out.2 2
  have cXx_3 := Xx.out.2 3
  have cXx_4 := Xx.out.2 4
  have cXx_5 := Xx.out.2 5
  have cXx_6 := Xx.out.2 6
  have cXg_0 := Xg.out.2 0
  have cXg_1 := Xg.out.2 1
  have cXg_2 := Xg.out.2 2
  have cXg_3 := Xg.out.2 3
  have cXg_4 := Xg.out.2 4
  have cXg_5 := Xg.out.2 5
  have cXg_6 := Xg.out.2 6
  go_wp2_with fail
  clear cXA1_0 cXA1_1 cXA1_2 cXA1_3 cXA1_4 cXA1_5 cXA1_6 cXu_0 cXu_1 cXu_2 cXu_3 cXu_4 cXu_5 cXu_6 cXx_0 cXx_1 cXx_2 cXx_3 cXx_4 cXx_5 cXx_6 cXg_0 cXg_1 cXg_2 cXg_3 cXg_4 cXg_5 cXg_6
  refine (eqEdit d _ _ R _ Hg.out.at_ Hu.out).mono ?_
  rintro e w8 ⟨rfl, hb⟩
  have hz8 := hb.size
  try simp only [World.size_alloc] at hz8
  try simp only [World.size_drew] at hz8
  replace B := Lib.hid (below_thru B.out (Nat.le_refl _) hb)
  replace HA1 := Lib.hid (HA1.out.below hb)
  replace HTAB := Lib.hid (HTAB.out.below hb)
  replace XA1 := Lib.hid (XA1.out.below hb)
  replace S4 := Lib.hid (S4.out.below hb)
  replace Hu := Lib.hid (Hu.out.below hb)
  replace Xu := Lib.hid (Xu.out.below hb)
  replace Hx := Lib.hid (Hx.out.below hb)
  replace Xx := Lib.hid (Xx.out.below hb)
  replace Hg := Lib.hid (Hg.out.below hb)
  replace Xg := Lib.hid (Xg.out.below hb)
  clear hb
  have cXA1_0 := XA1.out.2 0
  have cXA1_1 := XA1.out.2 1
  have cXA1_2 := XA1.out.2 2
  have cXA1_3 := XA1.out.2 3
  have cXA1_4 := XA1.out.2 4
  have cXA1_5 := XA1.out.2 5
  have cXA1_6 := XA1.out.2 6
  have cXu_0 := Xu.out.2 0
  have cXu_1 := Xu.out.2 1
  have cXu_2 := Xu.out.2 2
  have cXu_3 := Xu.out.2 3
  have cXu_4 := Xu.out.2 4
  have cXu_5 := Xu.out.2 5
  have cXu_6 := Xu.out.2 6
  have cXx_0 := Xx.out.2 0
  have cXx_1 := Xx.out.2 1
  have cXx_2 := Xx.out.2 2
  have cXx_3 := Xx.out.2 3
  have cXx_4 := Xx.out.2 4
  have cXx_5 := Xx.out.2 5
  have cXx_6 := Xx.out.2 6
  have cXg_0 := Xg.out.2 0
  have cXg_1 := Xg.out.2 1
  have cXg_2 := Xg.out.2 2
  have cXg_3 := Xg.out.2 3
  have cXg_4 := Xg.out.2 4
  have cXg_5 := Xg.out.2 5
  have cXg_6 := Xg.out.2 6
  go_wp2_with fail
  clear cXA1_0 cXA1_1 cXA1_2 cXA1_3 cXA1_4 cXA1_5 cXA1_6 cXu_0 cXu_1 cXu_2 cXu_3 cXu_4 cXu_5 cXu_6 cXx_0 cXx_1 cXx_2 cXx_3 cXx_4 cXx_5 cXx_6 cXg_0 cXg_1 cXg_2 cXg_3 cXg_4 cXg_5 cXg_6
  have hb := below_drew w8
  replace B := Lib.hid (below_thru B.out (Nat.le_refl _) hb)
  replace HA1 := Lib.hid (HA1.out.below hb)
  replace HTAB := Lib.hid (HTAB.out.below hb)
  replace XA1 := Lib.hid (XA1.out.below hb)
  replace S4 := Lib.hid (S4.out.below hb)
  replace Hu := Lib.hid (Hu.out.below hb)
  replace Xu := Lib.hid (Xu.out.below hb)
  replace Hx := Lib.hid (Hx.out.below hb)
  replace Xx := Lib.hid (Xx.out.below hb)
  replace Hg := Lib.hid (Hg.out.below hb)
  replace Xg := Lib.hid (Xg.out.below hb)
  clear hb
  go_region_held3 (fun w' => w'.cell? ⟨w.heap.size, 0, none⟩ = some (.int .i64 ak) ∧ w'.cell? ⟨w.heap.size, 1, none⟩ = some (.string am) ∧ w'.cell? ⟨w.heap.size, 2, none⟩ = some (.int .i64 an) ∧ w'.cell? ⟨w.heap.size, 3, none⟩ = some (.int .i64 atk) ∧ w'.cell? ⟨w.heap.size, 4, none⟩ = some (.slice ata atn atc) ∧ w'.cell? ⟨w.heap.size, 5, none⟩ = some (.slice asa asn asc) ∧ w'.cell? ⟨w.heap.size, 6, none⟩ = some (.slice apa apn apc) ∧ w'.cell? ⟨w4.heap.size, 0, none⟩ = some (.int .i64 uk) ∧ w'.cell? ⟨w4.heap.size, 1, none⟩ = some (.string um) ∧ w'.cell? ⟨w4.heap.size, 2, none⟩ = some (.int .i64 un) ∧ w'.cell? ⟨w4.heap.size, 3, none⟩ = some (.int .i64 utk) ∧ w'.cell? ⟨w4.heap.size, 4, none⟩ = some (.slice uta utn utc) ∧ w'.cell? ⟨w4.heap.size, 5, none⟩ = some (.slice usa usn usc) ∧ w'.cell? ⟨w4.heap.size, 6, none⟩ = some (.slice upa upn upc) ∧ w'.cell? ⟨w5.heap.size, 0, none⟩ = some (.int .i64 xk) ∧ w'.cell? ⟨w5.heap.size, 1, none⟩ = some (.string xm) ∧ w'.cell? ⟨w5.heap.size, 2, none⟩ = some (.int .i64 xn) ∧ w'.cell? ⟨w5.heap.size, 3, none⟩ = some (.int .i64 xtk) ∧ w'.cell? ⟨w5.heap.size, 4, none⟩ = some (.slice xta xtn xtc) ∧ w'.cell? ⟨w5.heap.size, 5, none⟩ = some (.slice xsa xsn xsc) ∧ w'.cell? ⟨w5.heap.size, 6, none⟩ = some (.slice xpa xpn xpc) ∧ w'.cell? ⟨w7.heap.size, 0, none⟩ = some (.int .i64 gk) ∧ w'.cell? ⟨w7.heap.size, 1, none⟩ = some (.string gm) ∧ w'.cell? ⟨w7.heap.size, 2, none⟩ = some (.int .i64 gn) ∧ w'.cell? ⟨w7.heap.size, 3, none⟩ = some (.int .i64 gtk) ∧ w'.cell? ⟨w7.heap.size, 4, none⟩ = some (.slice gta gtn gtc) ∧ w'.cell? ⟨w7.heap.size, 5, none⟩ = some (.slice gsa gsn gsc) ∧ w'.cell? ⟨w7.heap.size, 6, none⟩ = some (.slice gpa gpn gpc)) (exact ⟨XA1.out.2 0, XA1.out.2 1, XA1.out.2 2, XA1.out.2 3, XA1.out.2 4, XA1.out.2 5, XA1.out.2 6, Xu.out.2 0, Xu.out.2 1, Xu.out.2 2, Xu.out.2 3, Xu.out.2 4, Xu.out.2 5, Xu.out.2 6, Xx.out.2 0, Xx.out.2 1, Xx.out.2 2, Xx.out.2 3, Xx.out.2 4, Xx.out.2 5, Xx.out.2 6, Xg.out.2 0, Xg.out.2 1, Xg.out.2 2, Xg.out.2 3, Xg.out.2 4, Xg.out.2 5, Xg.out.2 6⟩)
    (first
     | (go_at_call_of 9 (Value.agg #[Value.int IntKind.i64 ak, Value.string am, Value.int IntKind.i64 an, Value.int IntKind.i64 atk, Value.slice ata atn atc, Value.slice asa asn asc, Value.slice apa apn apc])
        refine (toEditIn d _ t1 _ hn1 HA1.out).mono ?_
        rintro e w9 ⟨y, rfl, ht, hb⟩
        have hz9 := hb.size
        try simp only [World.size_drew] at hz9
        replace B := Lib.hid (below_thru B.out (Nat.le_refl _) hb)
        replace HA1 := Lib.hid (HA1.out.below hb)
        replace HTAB := Lib.hid (HTAB.out.below hb)
        replace XA1 := Lib.hid (XA1.out.below hb)
        replace S4 := Lib.hid (S4.out.below hb)
        replace Hu := Lib.hid (Hu.out.below hb)
        replace Xu := Lib.hid (Xu.out.below hb)
        replace Hx := Lib.hid (Hx.out.below hb)
        replace Xx := Lib.hid (Xx.out.below hb)
        replace Hg := Lib.hid (Hg.out.below hb)
        replace Xg := Lib.hid (Xg.out.below hb)
        clear hb
        have Hy := Lib.hid ht.at_
        clear ht)
     | (go_at_call 11
        refine (eqEdit d _ y t1 _ Hx.out.at_ Hy.out).mono ?_
        rintro e w10 ⟨rfl, hb⟩
        have hz10 := hb.size
        try simp only [World.size_drew] at hz10
        replace B := Lib.hid (below_thru B.out (Nat.le_refl _) hb)
        replace HA1 := Lib.hid (HA1.out.below hb)
        replace HTAB := Lib.hid (HTAB.out.below hb)
        replace XA1 := Lib.hid (XA1.out.below hb)
        replace S4 := Lib.hid (S4.out.below hb)
        replace Hu := Lib.hid (Hu.out.below hb)
        replace Xu := Lib.hid (Xu.out.below hb)
        replace Hx := Lib.hid (Hx.out.below hb)
        replace Xx := Lib.hid (Xx.out.below hb)
        replace Hg := Lib.hid (Hg.out.below hb)
        replace Xg := Lib.hid (Xg.out.below hb)
        clear hb
        clear Hy))
  have cXA1_0 := XA1.out.2 0
  have cXA1_1 := XA1.out.2 1
  have cXA1_2 := XA1.out.2 2
  have cXA1_3 := XA1.out.2 3
  have cXA1_4 := XA1.out.2 4
  have cXA1_5 := XA1.out.2 5
  have cXA1_6 := XA1.out.2 6
  have cXu_0 := Xu.out.2 0
  have cXu_1 := Xu.out.2 1
  have cXu_2 := Xu.out.2 2
  have cXu_3 := Xu.out.2 3
  have cXu_4 := Xu.out.2 4
  have cXu_5 := Xu.out.2 5
  have cXu_6 := Xu.out.2 6
  have cXx_0 := Xx.out.2 0
  have cXx_1 := Xx.out.2 1
  have cXx_2 := Xx.out.2 2
  have cXx_3 := Xx.out.2 3
  have cXx_4 := Xx.out.2 4
  have cXx_5 := Xx.out.2 5
  have cXx_6 := Xx.out.2 6
  have cXg_0 := Xg.out.2 0
  have cXg_1 := Xg.out.2 1
  have cXg_2 := Xg.out.2 2
  have cXg_3 := Xg.out.2 3
  have cXg_4 := Xg.out.2 4
  have cXg_5 := Xg.out.2 5
  have cXg_6 := Xg.out.2 6
  go_wp2_with fail
  clear cXA1_0 cXA1_1 cXA1_2 cXA1_3 cXA1_4 cXA1_5 cXA1_6 cXu_0 cXu_1 cXu_2 cXu_3 cXu_4 cXu_5 cXu_6 cXx_0 cXx_1 cXx_2 cXx_3 cXx_4 cXx_5 cXx_6 cXg_0 cXg_1 cXg_2 cXg_3 cXg_4 cXg_5 cXg_6
  refine (markEditIn w4.heap.size d _ t1 _ _ 1 _ (by omega) S4.out.b.size (by omega) (by omega) hn1 Hx.out).mono ?_
  rintro e w13 ⟨rfl, hm, hb0, hk⟩
  replace B := Lib.hid (B.out.trans (hb0.mono (by omega)))
  replace HA1 := Lib.hid (HA10.out.below B.out)
  replace HTAB := Lib.hid (HTAB0.out.below B.out)
  replace XA1 := Lib.hid (XA1.out.beside hk (by omega))
  replace S4 := Lib.hid (S4.out.trans hb0)
  replace Hu := Lib.hid (Hu0.out.below S4.out.b)
  replace Xu := Lib.hid (Xu.out.beside hk (by omega))
  replace Xx := Lib.hid (Xx.out.beside hk (by omega))
  replace Hg := Lib.hid (Hg.out.beside hk (by omega))
  replace Xg := Lib.hid (Xg.out.beside hk (by omega))
  replace Hx := Lib.hid hm
  have hz13 := hk.1
  clear hb0 hk hm
  clear Hx
  obtain ⟨ma, hma⟩ : ∃ ma : Int, ma = 1 + (t1.wt : Int) := ⟨_, rfl⟩
  rw [← hma]
  have Nma := Lib.hid hma
  have ma0 : 0 ≤ ma := by omega
  have ma1 : ma ≤ 6291457 := by omega
  clear hma
  have cXA1_0 := XA1.out.2 0
  have cXA1_1 := XA1.out.2 1
  have cXA1_2 := XA1.out.2 2
  have cXA1_3 := XA1.out.2 3
  have cXA1_4 := XA1.out.2 4
  have cXA1_5 := XA1.out.2 5
  have cXA1_6 := XA1.out.2 6
  have cXu_0 := Xu.out.2 0
  have cXu_1 := Xu.out.2 1
  have cXu_2 := Xu.out.2 2
  have cXu_3 := Xu.out.2 3
  have cXu_4 := Xu.out.2 4
  have cXu_5 := Xu.out.2 5
  have cXu_6 := Xu.out.2 6
  have cXx_0 := Xx.out.2 0
  have cXx_1 := Xx.out.2 1
  have cXx_2 := Xx.out.2 2
  have cXx_3 := Xx.out.2 3
  have cXx_4 := Xx.out.2 4
  have cXx_5 := Xx.out.2 5
  have cXx_6 := Xx.out.2 6
  have cXg_0 := Xg.out.2 0
  have cXg_1 := Xg.out.2 1
  have cXg_2 := Xg.out.2 2
  have cXg_3 := Xg.out.2 3
  have cXg_4 := Xg.out.2 4
  have cXg_5 := Xg.out.2 5
  have cXg_6 := Xg.out.2 6
  go_wp2_with fail
  clear cXA1_0 cXA1_1 cXA1_2 cXA1_3 cXA1_4 cXA1_5 cXA1_6 cXu_0 cXu_1 cXu_2 cXu_3 cXu_4 cXu_5 cXu_6 cXx_0 cXx_1 cXx_2 cXx_3 cXx_4 cXx_5 cXx_6 cXg_0 cXg_1 cXg_2 cXg_3 cXg_4 cXg_5 cXg_6
  refine (eqEdit d _ _ R _ Hg.out.at_ Hu.out).mono ?_
  rintro e w15 ⟨rfl, hb⟩
  have hz15 := hb.size
  try simp only [World.size_alloc] at hz15
  try simp only [World.size_drew] at hz15
  replace B := Lib.hid (below_thru B.out (Nat.le_refl _) hb)
  replace HA1 := Lib.hid (HA1.out.below hb)
  replace HTAB := Lib.hid (HTAB.out.below hb)
  replace XA1 := Lib.hid (XA1.out.below hb)
  replace S4 := Lib.hid (S4.out.below hb)
  replace Hu := Lib.hid (Hu.out.below hb)
  replace Xu := Lib.hid (Xu.out.below hb)
  replace Xx := Lib.hid (Xx.out.below hb)
  replace Hg := Lib.hid (Hg.out.below hb)
  replace Xg := Lib.hid (Xg.out.below hb)
  clear hb
  have cXA1_0 := XA1.out.2 0
  have cXA1_1 := XA1.out.2 1
  have cXA1_2 := XA1.out.2 2
  have cXA1_3 := XA1.out.2 3
  have cXA1_4 := XA1.out.2 4
  have cXA1_5 := XA1.out.2 5
  have cXA1_6 := XA1.out.2 6
  have cXu_0 := Xu.out.2 0
  have cXu_1 := Xu.out.2 1
  have cXu_2 := Xu.out.2 2
  have cXu_3 := Xu.out.2 3
  have cXu_4 := Xu.out.2 4
  have cXu_5 := Xu.out.2 5
  have cXu_6 := Xu.out.2 6
  have cXx_0 := Xx.out.2 0
  have cXx_1 := Xx.out.2 1
  have cXx_2 := Xx.out.2 2
  have cXx_3 := Xx.out.2 3
  have cXx_4 := Xx.out.2 4
  have cXx_5 := Xx.out.2 5
  have cXx_6 := Xx.out.2 6
  have cXg_0 := Xg.out.2 0
  have cXg_1 := Xg.out.2 1
  have cXg_2 := Xg.out.2 2
  have cXg_3 := Xg.out.2 3
  have cXg_4 := Xg.out.2 4
  have cXg_5 := Xg.out.2 5
  have cXg_6 := Xg.out.2 6
  go_wp2_with fail
  clear cXA1_0 cXA1_1 cXA1_2 cXA1_3 cXA1_4 cXA1_5 cXA1_6 cXu_0 cXu_1 cXu_2 cXu_3 cXu_4 cXu_5 cXu_6 cXx_0 cXx_1 cXx_2 cXx_3 cXx_4 cXx_5 cXx_6 cXg_0 cXg_1 cXg_2 cXg_3 cXg_4 cXg_5 cXg_6
  refine (markEditInW w4.heap.size _ _ R _ _ 1 _ (by omega) S4.out.b.size (by omega) (by omega) hrb1 Hg.out).mono ?_
  rintro e w16 ⟨rfl, hm, hb0, hk⟩
  replace B := Lib.hid (B.out.trans (hb0.mono (by omega)))
  replace HA1 := Lib.hid (HA10.out.below B.out)
  replace HTAB := Lib.hid (HTAB0.out.below B.out)
  replace XA1 := Lib.hid (XA1.out.beside hk (by omega))
  replace S4 := Lib.hid (S4.out.trans hb0)
  replace Hu := Lib.hid (Hu0.out.below S4.out.b)
  replace Xu := Lib.hid (Xu.out.beside hk (by omega))
  replace Xx := Lib.hid (Xx.out.beside hk (by omega))
  replace Xg := Lib.hid (Xg.out.beside hk (by omega))
  replace Hg := Lib.hid hm
  have hz16 := hk.1
  clear hb0 hk hm
  obtain ⟨mc, hmc⟩ : ∃ mc : Int, mc = 1 + (R.wt : Int) := ⟨_, rfl⟩
  rw [← hmc]
  have Nmc := Lib.hid hmc
  have mc0 : 0 ≤ mc := by omega
  have mc1 : mc ≤ 6291469 := by omega
  clear hmc
  have cXA1_0 := XA1.out.2 0
  have cXA1_1 := XA1.out.2 1
  have cXA1_2 := XA1.out.2 2
  have cXA1_3 := XA1.out.2 3
  have cXA1_4 := XA1.out.2 4
  have cXA1_5 := XA1.out.2 5
  have cXA1_6 := XA1.out.2 6
  have cXu_0 := Xu.out.2 0
  have cXu_1 := Xu.out.2 1
  have cXu_2 := Xu.out.2 2
  have cXu_3 := Xu.out.2 3
  have cXu_4 := Xu.out.2 4
  have cXu_5 := Xu.out.2 5
  have cXu_6 := Xu.out.2 6
  have cXx_0 := Xx.out.2 0
  have cXx_1 := Xx.out.2 1
  have cXx_2 := Xx.out.2 2
  have cXx_3 := Xx.out.2 3
  have cXx_4 := Xx.out.2 4
  have cXx_5 := Xx.out.2 5
  have cXx_6 := Xx.out.2 6
  have cXg_0 := Xg.out.2 0
  have cXg_1 := Xg.out.2 1
  have cXg_2 := Xg.out.2 2
  have cXg_3 := Xg.out.2 3
  have cXg_4 := Xg.out.2 4
  have cXg_5 := Xg.out.2 5
  have cXg_6 := Xg.out.2 6
  go_wp2_with fail
  clear cXA1_0 cXA1_1 cXA1_2 cXA1_3 cXA1_4 cXA1_5 cXA1_6 cXu_0 cXu_1 cXu_2 cXu_3 cXu_4 cXu_5 cXu_6 cXx_0 cXx_1 cXx_2 cXx_3 cXx_4 cXx_5 cXx_6 cXg_0 cXg_1 cXg_2 cXg_3 cXg_4 cXg_5 cXg_6
  refine (heldEditW d _ R 1 _ (by omega) (by omega) hrb1 Hg.out.at_).mono ?_
  rintro e w17 ⟨rfl, hb⟩
  have hz17 := hb.size
  try simp only [World.size_alloc] at hz17
  try simp only [World.size_drew] at hz17
  replace B := Lib.hid (below_thru B.out (Nat.le_refl _) hb)
  replace HA1 := Lib.hid (HA1.out.below hb)
  replace HTAB := Lib.hid (HTAB.out.below hb)
  replace XA1 := Lib.hid (XA1.out.below hb)
  replace S4 := Lib.hid (S4.out.below hb)
  replace Hu := Lib.hid (Hu.out.below hb)
  replace Xu := Lib.hid (Xu.out.below hb)
  replace Xx := Lib.hid (Xx.out.below hb)
  replace Hg := Lib.hid (Hg.out.below hb)
  replace Xg := Lib.hid (Xg.out.below hb)
  clear hb
  rw [← Nmc.out]
  have cXA1_0 := XA1.out.2 0
  have cXA1_1 := XA1.out.2 1
  have cXA1_2 := XA1.out.2 2
  have cXA1_3 := XA1.out.2 3
  have cXA1_4 := XA1.out.2 4
  have cXA1_5 := XA1.out.2 5
  have cXA1_6 := XA1.out.2 6
  have cXu_0 := Xu.out.2 0
  have cXu_1 := Xu.out.2 1
  have cXu_2 := Xu.out.2 2
  have cXu_3 := Xu.out.2 3
  have cXu_4 := Xu.out.2 4
  have cXu_5 := Xu.out.2 5
  have cXu_6 := Xu.out.2 6
  have cXx_0 := Xx.out.2 0
  have cXx_1 := Xx.out.2 1
  have cXx_2 := Xx.out.2 2
  have cXx_3 := Xx.out.2 3
  have cXx_4 := Xx.out.2 4
  have cXx_5 := Xx.out.2 5
  have cXx_6 := Xx.out.2 6
  have cXg_0 := Xg.out.2 0
  have cXg_1 := Xg.out.2 1
  have cXg_2 := Xg.out.2 2
  have cXg_3 := Xg.out.2 3
  have cXg_4 := Xg.out.2 4
  have cXg_5 := Xg.out.2 5
  have cXg_6 := Xg.out.2 6
  go_wp2_with fail
  clear cXA1_0 cXA1_1 cXA1_2 cXA1_3 cXA1_4 cXA1_5 cXA1_6 cXu_0 cXu_1 cXu_2 cXu_3 cXu_4 cXu_5 cXu_6 cXx_0 cXx_1 cXx_2 cXx_3 cXx_4 cXx_5 cXx_6 cXg_0 cXg_1 cXg_2 cXg_3 cXg_4 cXg_5 cXg_6
  refine (toEditIn d _ t1 _ hn1 HA1.out).mono ?_
  rintro e w18 ⟨h, rfl, ht, hb⟩
  have hz18 := hb.size
  try simp only [World.size_alloc] at hz18
  try simp only [World.size_drew] at hz18
  replace B := Lib.hid (below_thru B.out (Nat.le_refl _) hb)
  replace HA1 := Lib.hid (HA1.out.below hb)
  replace HTAB := Lib.hid (HTAB.out.below hb)
  replace XA1 := Lib.hid (XA1.out.below hb)
  replace S4 := Lib.hid (S4.out.below hb)
  replace Hu := Lib.hid (Hu.out.below hb)
  replace Xu := Lib.hid (Xu.out.below hb)
  replace Xx := Lib.hid (Xx.out.below hb)
  replace Hg := Lib.hid (Hg.out.below hb)
  replace Xg := Lib.hid (Xg.out.below hb)
  clear hb
  have Hh := Lib.hid ht.at_
  clear ht
  have cXA1_0 := XA1.out.2 0
  have cXA1_1 := XA1.out.2 1
  have cXA1_2 := XA1.out.2 2
  have cXA1_3 := XA1.out.2 3
  have cXA1_4 := XA1.out.2 4
  have cXA1_5 := XA1.out.2 5
  have cXA1_6 := XA1.out.2 6
  have cXu_0 := Xu.out.2 0
  have cXu_1 := Xu.out.2 1
  have cXu_2 := Xu.out.2 2
  have cXu_3 := Xu.out.2 3
  have cXu_4 := Xu.out.2 4
  have cXu_5 := Xu.out.2 5
  have cXu_6 := Xu.out.2 6
  have cXx_0 := Xx.out.2 0
  have cXx_1 := Xx.out.2 1
  have cXx_2 := Xx.out.2 2
  have cXx_3 := Xx.out.2 3
  have cXx_4 := Xx.out.2 4
  have cXx_5 := Xx.out.2 5
  have cXx_6 := Xx.out.2 6
  have cXg_0 := Xg.out.2 0
  have cXg_1 := Xg.out.2 1
  have cXg_2 := Xg.out.2 2
  have cXg_3 := Xg.out.2 3
  have cXg_4 := Xg.out.2 4
  have cXg_5 := Xg.out.2 5
  have cXg_6 := Xg.out.2 6
  go_wp2_with fail
  clear cXA1_0 cXA1_1 cXA1_2 cXA1_3 cXA1_4 cXA1_5 cXA1_6 cXu_0 cXu_1 cXu_2 cXu_3 cXu_4 cXu_5 cXu_6 cXx_0 cXx_1 cXx_2 cXx_3 cXx_4 cXx_5 cXx_6 cXg_0 cXg_1 cXg_2 cXg_3 cXg_4 cXg_5 cXg_6
  refine (implMoveDown d _ t1 k _ Hh.out hn1 HTAB.out).mono ?_
  rintro e w20 ⟨j, rfl, hi, hb⟩
  rw [← HR.out] at hi
  have hz20 := hb.size
  try simp only [World.size_alloc] at hz20
  try simp only [World.size_drew] at hz20
  replace B := Lib.hid (below_thru B.out (Nat.le_refl _) hb)
  replace HA1 := Lib.hid (HA1.out.below hb)
  replace HTAB := Lib.hid (HTAB.out.below hb)
  replace XA1 := Lib.hid (XA1.out.below hb)
  replace S4 := Lib.hid (S4.out.below hb)
  replace Hu := Lib.hid (Hu.out.below hb)
  replace Xu := Lib.hid (Xu.out.below hb)
  replace Xx := Lib.hid (Xx.out.below hb)
  replace Hg := Lib.hid (Hg.out.below hb)
  replace Xg := Lib.hid (Xg.out.below hb)
  replace Hh := Lib.hid (Hh.out.below hb)
  clear hb
  try simp only [World.size_alloc] at hi
  try simp only [World.size_drew] at hi
  obtain ⟨jk, jm, jn, jtk, jta, jtn, jtc, jsa, jsn, jsc, jpa, jpn, jpc, rfl⟩ := edit_parts hi.at_
  have Hj := Lib.hid hi
  clear hi
  have Xj : Hid (BoxAt (w20.alloc (.cells #[.int .i64 jk, .string jm, .int .i64 jn, .int .i64 jtk, .slice jta jtn jtc, .slice jsa jsn jsc, .slice jpa jpn jpc] 39)) w20.heap.size #[.int .i64 jk, .string jm, .int .i64 jn, .int .i64 jtk, .slice jta jtn jtc, .slice jsa jsn jsc, .slice jpa jpn jpc]) := BoxAt.new _ _ _
  have hb := below_alloc w20 (.cells #[.int .i64 jk, .string jm, .int .i64 jn, .int .i64 jtk, .slice jta jtn jtc, .slice jsa jsn jsc, .slice jpa jpn jpc] 39)
  replace B := Lib.hid (below_thru B.out (Nat.le_refl _) hb)
  replace HA1 := Lib.hid (HA1.out.below hb)
  replace HTAB := Lib.hid (HTAB.out.below hb)
  replace XA1 := Lib.hid (XA1.out.below hb)
  replace S4 := Lib.hid (S4.out.below hb)
  replace Hu := Lib.hid (Hu.out.below hb)
  replace Xu := Lib.hid (Xu.out.below hb)
  replace Xx := Lib.hid (Xx.out.below hb)
  replace Hg := Lib.hid (Hg.out.below hb)
  replace Xg := Lib.hid (Xg.out.below hb)
  replace Hh := Lib.hid (Hh.out.below hb)
  replace Hj := Lib.hid (Hj.out.below hb)
  clear hb
  clear Hh
  have cXA1_0 := XA1.out.2 0
  have cXA1_1 := XA1.out.2 1
  have cXA1_2 := XA1.out.2 2
  have cXA1_3 := XA1.out.2 3
  have cXA1_4 := XA1.out.2 4
  have cXA1_5 := XA1.out.2 5
  have cXA1_6 := XA1.out.2 6
  have cXu_0 := Xu.out.2 0
  have cXu_1 := Xu.out.2 1
  have cXu_2 := Xu.out.2 2
  have cXu_3 := Xu.out.2 3
  have cXu_4 := Xu.out.2 4
  have cXu_5 := Xu.out.2 5
  have cXu_6 := Xu.out.2 6
  have cXx_0 := Xx.out.2 0
  have cXx_1 := Xx.out.2 1
  have cXx_2 := Xx.out.2 2
  have cXx_3 := Xx.out.2 3
  have cXx_4 := Xx.out.2 4
  have cXx_5 := Xx.out.2 5
  have cXx_6 := Xx.out.2 6
  have cXg_0 := Xg.out.2 0
  have cXg_1 := Xg.out.2 1
  have cXg_2 := Xg.out.2 2
  have cXg_3 := Xg.out.2 3
  have cXg_4 := Xg.out.2 4
  have cXg_5 := Xg.out.2 5
  have cXg_6 := Xg.out.2 6
  have cXj_0 := Xj.out.2 0
  have cXj_1 := Xj.out.2 1
  have cXj_2 := Xj.out.2 2
  have cXj_3 := Xj.out.2 3
  have cXj_4 := Xj.out.2 4
  have cXj_5 := Xj.out.2 5
  have cXj_6 := Xj.out.2 6
  go_wp2_with fail
  clear cXA1_0 cXA1_1 cXA1_2 cXA1_3 cXA1_4 cXA1_5 cXA1_6 cXu_0 cXu_1 cXu_2 cXu_3 cXu_4 cXu_5 cXu_6 cXx_0 cXx_1 cXx_2 cXx_3 cXx_4 cXx_5 cXx_6 cXg_0 cXg_1 cXg_2 cXg_3 cXg_4 cXg_5 cXg_6 cXj_0 cXj_1 cXj_2 cXj_3 cXj_4 cXj_5 cXj_6
  refine (eqEdit d _ _ R _ Hj.out.at_ Hu.out).mono ?_
  rintro e w21 ⟨rfl, hb⟩
  have hz21 := hb.size
  try simp only [World.size_alloc] at hz21
  try simp only [World.size_drew] at hz21
  replace B := Lib.hid (below_thru B.out (Nat.le_refl _) hb)
  replace HA1 := Lib.hid (HA1.out.below hb)
  replace HTAB := Lib.hid (HTAB.out.below hb)
  replace XA1 := Lib.hid (XA1.out.below hb)
  replace S4 := Lib.hid (S4.out.below hb)
  replace Hu := Lib.hid (Hu.out.below hb)
  replace Xu := Lib.hid (Xu.out.below hb)
  replace Xx := Lib.hid (Xx.out.below hb)
  replace Hg := Lib.hid (Hg.out.below hb)
  replace Xg := Lib.hid (Xg.out.below hb)
  replace Hj := Lib.hid (Hj.out.below hb)
  replace Xj := Lib.hid (Xj.out.below hb)
  clear hb
  have cXA1_0 := XA1.out.2 0
  have cXA1_1 := XA1.out.2 1
  have cXA1_2 := XA1.out.2 2
  have cXA1_3 := XA1.out.2 3
  have cXA1_4 := XA1.out.2 4
  have cXA1_5 := XA1.out.2 5
  have cXA1_6 := XA1.out.2 6
  have cXu_0 := Xu.out.2 0
  have cXu_1 := Xu.out.2 1
  have cXu_2 := Xu.out.2 2
  have cXu_3 := Xu.out.2 3
  have cXu_4 := Xu.out.2 4
  have cXu_5 := Xu.out.2 5
  have cXu_6 := Xu.out.2 6
  have cXx_0 := Xx.out.2 0
  have cXx_1 := Xx.out.2 1
  have cXx_2 := Xx.out.2 2
  have cXx_3 := Xx.out.2 3
  have cXx_4 := Xx.out.2 4
  have cXx_5 := Xx.out.2 5
  have cXx_6 := Xx.out.2 6
  have cXg_0 := Xg.out.2 0
  have cXg_1 := Xg.out.2 1
  have cXg_2 := Xg.out.2 2
  have cXg_3 := Xg.out.2 3
  have cXg_4 := Xg.out.2 4
  have cXg_5 := Xg.out.2 5
  have cXg_6 := Xg.out.2 6
  have cXj_0 := Xj.out.2 0
  have cXj_1 := Xj.out.2 1
  have cXj_2 := Xj.out.2 2
  have cXj_3 := Xj.out.2 3
  have cXj_4 := Xj.out.2 4
  have cXj_5 := Xj.out.2 5
  have cXj_6 := Xj.out.2 6
  go_wp2_with fail
  clear cXA1_0 cXA1_1 cXA1_2 cXA1_3 cXA1_4 cXA1_5 cXA1_6 cXu_0 cXu_1 cXu_2 cXu_3 cXu_4 cXu_5 cXu_6 cXx_0 cXx_1 cXx_2 cXx_3 cXx_4 cXx_5 cXx_6 cXg_0 cXg_1 cXg_2 cXg_3 cXg_4 cXg_5 cXg_6 cXj_0 cXj_1 cXj_2 cXj_3 cXj_4 cXj_5 cXj_6
  refine (heldEditW d _ R 1 _ (by omega) (by omega) hrb1 Hg.out.at_).mono ?_
  rintro e w22 ⟨rfl, hb⟩
  have hz22 := hb.size
  try simp only [World.size_alloc] at hz22
  try simp only [World.size_drew] at hz22
  replace B := Lib.hid (below_thru B.out (Nat.le_refl _) hb)
  replace HA1 := Lib.hid (HA1.out.below hb)
  replace HTAB := Lib.hid (HTAB.out.below hb)
  replace XA1 := Lib.hid (XA1.out.below hb)
  replace S4 := Lib.hid (S4.out.below hb)
  replace Hu := Lib.hid (Hu.out.below hb)
  replace Xu := Lib.hid (Xu.out.below hb)
  replace Xx := Lib.hid (Xx.out.below hb)
  replace Hg := Lib.hid (Hg.out.below hb)
  replace Xg := Lib.hid (Xg.out.below hb)
  replace Hj := Lib.hid (Hj.out.below hb)
  replace Xj := Lib.hid (Xj.out.below hb)
  clear hb
  rw [← Nmc.out]
  have cXA1_0 := XA1.out.2 0
  have cXA1_1 := XA1.out.2 1
  have cXA1_2 := XA1.out.2 2
  have cXA1_3 := XA1.out.2 3
  have cXA1_4 := XA1.out.2 4
  have cXA1_5 := XA1.out.2 5
  have cXA1_6 := XA1.out.2 6
  have cXu_0 := Xu.out.2 0
  have cXu_1 := Xu.out.2 1
  have cXu_2 := Xu.out.2 2
  have cXu_3 := Xu.out.2 3
  have cXu_4 := Xu.out.2 4
  have cXu_5 := Xu.out.2 5
  have cXu_6 := Xu.out.2 6
  have cXx_0 := Xx.out.2 0
  have cXx_1 := Xx.out.2 1
  have cXx_2 := Xx.out.2 2
  have cXx_3 := Xx.out.2 3
  have cXx_4 := Xx.out.2 4
  have cXx_5 := Xx.out.2 5
  have cXx_6 := Xx.out.2 6
  have cXg_0 := Xg.out.2 0
  have cXg_1 := Xg.out.2 1
  have cXg_2 := Xg.out.2 2
  have cXg_3 := Xg.out.2 3
  have cXg_4 := Xg.out.2 4
  have cXg_5 := Xg.out.2 5
  have cXg_6 := Xg.out.2 6
  have cXj_0 := Xj.out.2 0
  have cXj_1 := Xj.out.2 1
  have cXj_2 := Xj.out.2 2
  have cXj_3 := Xj.out.2 3
  have cXj_4 := Xj.out.2 4
  have cXj_5 := Xj.out.2 5
  have cXj_6 := Xj.out.2 6
  go_wp2_with fail
  go_ret
  exact ⟨rfl, B.out⟩
end Go.Proofs.YtmmnjdhmankieaaDoor
namespace Go.Proofs.YtmmnjdhmankieaaDoor.ExactMoveDown
open Go.ChangeShapes Go.WideShapes Go.ChangeAt Go.RowKit Go.WideMaps Go.WideElems
open Go.ChangeMaps (setBlock shut_map_nil open_string shut_string keptBut_setBlock frozen?_setBlock heap_setBlock_same)
set_option maxRecDepth 100000 in
theorem contract (H : Type) (enc : TypeId × Value → H) (W : World) (base : Nat) (args : Array Value) (ds gs : List (DataW H)) (before : List MemPlace)
    (hval : ∀ (j : Nat) t v, Tryd.f4.params[j]? = some t → args[j]? = some v → Value.okWide Tryd.prog W .any base t v)
    (hW : DataW.Whole enc Tryd.prog Tryd.f4.params.toList Rows.fnExactMoveDownSpec.vars false W args.toList ds gs before) (hL : laidMetH Tryd.prog Rows.fnExactMoveDownRow.laid W)
    (_hsz : (DataW.weightsEach Tryd.prog (Tryd.f4.params.toList ++ (OpenSpec.ofChange Rows.fnExactMoveDownSpec).bare.plain.varTypes Tryd.prog) (ds ++ gs)).all (· ≤ reachBytes) = true) (_hsh : W.ShapedOpen Tryd.prog) :
    Calls Tryd.prog 4 args W fun e W' => ∃ v, e = .returned v ∧ Rows.fnExactMoveDownSpec.post enc Tryd.prog Tryd.f4 false true false false W args v W' := by
  have hW' := hW
  obtain ⟨p, q, hA0, hV, rfl, hfz, hnd⟩ := hW
  have hA : DataW.TrodAll enc Tryd.prog W 0 (fun _ => true) true Tryd.f4.params.toList args.toList ds p := hA0
  rw [Tryd.params4] at hA hval
  obtain ⟨v0, vs0, d0, ds0, p0, q0, hargs, rfl, rfl, h0, r0⟩ := trodAll_cons hA
  obtain ⟨v1, vs1, d1, ds1, p1, q1, rfl, rfl, rfl, h1, r1⟩ := trodAll_cons r0
  obtain ⟨rfl, rfl, rfl⟩ := trodAll_nil r1
  obtain rfl : args = #[v0, v1] := by cases args; simp_all
  obtain ⟨gg, gt, gcs, gfuel, gd, gp, rfl, _⟩ := trodVars_one hV
  obtain ⟨e0, t0, ht0⟩ := ed_of_arg (hval 0 30 v0 rfl rfl) h0
  obtain ⟨n1, rfl, rfl, rfl, wn1⟩ := open_int Tryd.underlying3 (hval 1 3 v1 rfl rfl) h1
  rw [MakeChecks.laidMetH_plain _ _ _ (by kernel_rfl)] at hL
  have htab : Lib.TabIs Tryd.prog W "loop.example/g00585/impl.arities" .i64 arTab :=
    Lib.tabIs_of_head (rest := []) (g := 1) (t := 118) (e := 3) (n := 15) (by kernel_rfl) (by kernel_rfl) Tryd.underlying118 Tryd.underlying3 (by kernel_rfl) (by kernel_rfl) hL
  refine Calls.mono (moveDownWalk e0 v0 t0 n1 W ht0 htab) fun e W' ⟨he, hg⟩ => ?_
  subst he
  exact ⟨_, rfl, Law.law_post_vars hW' (by kernel_rfl) (by kernel_rfl) Tryd.underlying4 (by kernel_rfl) (by kernel_rfl) rfl hg⟩
set_option maxRecDepth 100000 in
theorem laid_met (os : Os) : laidMet Tryd.prog Rows.fnExactMoveDownRow.laid (((World.doorLaid Tryd.prog 64 os)).forCall (fun _ _ => 0) ⟨#[], #[.agg #[.int .i64 0, .string ⟨#[]⟩, .int .i64 0, .int .i64 0, .slice none 0 0, .slice none 0 0, .slice none 0 0], .int .i64 0], []⟩).memory :=
  laidMet_of_run' 8 (by kernel_rfl) (by kernel_rfl)
theorem reads (os : Os) {H : Type} (enc : TypeId × Value → H) : ∃ places, DataW.whole enc Tryd.prog (((World.doorLaid Tryd.prog 64 os)).forCall (fun _ _ => 0) ⟨#[], #[.agg #[.int .i64 0, .string ⟨#[]⟩, .int .i64 0, .int .i64 0, .slice none 0 0, .slice none 0 0, .slice none 0 0], .int .i64 0], []⟩).memory Tryd.f4.params.toList Rows.fnExactMoveDownSpec.vars false (#[.agg #[.int .i64 0, .string ⟨#[]⟩, .int .i64 0, .int .i64 0, .slice none 0 0, .slice none 0 0, .slice none 0 0], .int .i64 0] : Array Value).toList 8 = some ([.agg [.agg [.lit (.int .i64 0), .lit (.string []), .lit (.int .i64 0), .agg [.lit (.int .i64 0), .nil], .nil], .nil], .lit (.int .i64 0)], [Rows.laid_loop_example_g00585_impl_arities], places) :=
  ⟨MemPlace.row ⟨1, 0, none⟩ 15, by kernel_rfl⟩
set_option maxRecDepth 100000 in
theorem lifted (os : Os) (started : os.Started) (H : Type) (enc : TypeId × Value → H) (F : Stop.Interp) :
    ReturnsInHanded {} Tryd.checked os 4 .any ((OpenSpec.ofChange Rows.fnExactMoveDownSpec).preRow enc Tryd.prog Tryd.f4 Rows.fnExactMoveDownRow.domain false Rows.fnExactMoveDownRow.laid) (((OpenSpec.ofChange Rows.fnExactMoveDownSpec).at F).post enc Tryd.prog Tryd.f4 false true false false) := by
  obtain ⟨places, hx⟩ := reads os enc
  refine returnsInHanded_of_row (C := Tryd.checked) (s := OpenSpec.ofChange Rows.fnExactMoveDownSpec) (by kernel_rfl) started (by kernel_rfl) Tryd.func4
    (witness_row_atRef (enc := enc) (C := Tryd.checked) false (World.doorLaid Tryd.prog 64 os) #[.agg #[.int .i64 0, .string ⟨#[]⟩, .int .i64 0, .int .i64 0, .slice none 0 0, .slice none 0 0, .slice none 0 0], .int .i64 0] rfl (by kernel_rfl) (by kernel_rfl) (by kernel_rfl)
      (OpenSpec.preRow_of_cond 8 hx (by kernel_rfl) (fun k hk => by cases hk) (by kernel_rfl) (laid_met os))) ?_
  intro W base args ds gs before hval hW _ _ hsz hL hsh _
  exact contract H enc W base args ds gs before hval hW hL hsz hsh
theorem said : Rows.FnExactMoveDownSaid :=
  OpenClaim.holds_of_cond 4 Tryd.f4 rfl rfl rfl rfl rfl rfl rfl ⟨rfl, rfl, rfl, rfl, rfl⟩ rfl rfl rfl rfl rfl (by kernel_rfl) Tryd.func4 (by kernel_rfl)
    (of_decide_eq_true (by kernel_rfl)) (by unfold Func.isWrapper; first | (rw [if_pos (by decide +kernel)]; kernel_rfl) | (rw [if_neg (by decide +kernel)]; exact ⟨rfl, rfl⟩))
    (fun os started H enc _ F => by rw [OpenClaim.pre_eq_preRow]; exact lifted os started H enc F)
theorem plain (f : FuncId) (fn : Func) (hf : Tryd.pinned.checked.prog.funcNamed "loop.example/g00585/laws.FnExactMoveDown" = some f) (hfn : Tryd.pinned.checked.prog.funcs[f]? = some fn) :
    false = Tryd.pinned.checked.prog.looks [] ∧ ∀ (j : Nat) t, fn.params[j]? = some t → Tryd.pinned.checked.prog.wantsStandIn t = false := by
  obtain rfl : f = 4 := Option.some.inj ((show Tryd.prog.funcNamed "loop.example/g00585/laws.FnExactMoveDown" = some 4 by kernel_rfl).symm.trans hf) |>.symm
  obtain rfl : fn = Tryd.f4 := (Option.some.inj (Tryd.func4.symm.trans hfn)).symm
  refine ⟨by kernel_rfl, fun j t ht => ?_⟩
  rw [Tryd.params4] at ht
  have hm : t ∈ [30, 3] := by simpa using Array.mem_of_getElem? ht
  have hall : ([30, 3].all fun u => !Tryd.prog.wantsStandIn u) = true := by kernel_rfl
  exact (show Tryd.prog.wantsStandIn t = false by simpa using List.all_eq_true.1 hall t hm)
theorem card : Rows.FnExactMoveDownCardSaid :=
  Claim7.holds_tied_plain_at .later [] _ _ _ _ said (fun _ h => by cases h) (by kernel_rfl) (fun _ h => by cases h) fnExactMoveDown_row_tie rfl ⟨rfl, rfl⟩ (by kernel_rfl) rfl plain (by kernel_rfl)
end Go.Proofs.YtmmnjdhmankieaaDoor.ExactMoveDown
