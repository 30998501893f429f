/-
  Proved: laws.markEdit numbers an edit in its own memory and touches nothing else; laws.heldEdit finds the numbers, and changes no memory that was there.
-/
import Derived.Test.YtcohfbdhdngplaaEditIn
import Derived.Test.YtcohfbdhdngplaaHeldEx
namespace Go.Proofs.Ytcohfbdhdngplaa
open Go.RowKit

set_option maxRecDepth 100000 in
set_option maxHeartbeats 2000000 in
theorem markEditIn (B d : Nat) (v : Value) (t : Edi) (lo hi : Nat) (k0 : Int) (w : World) (hB : B ≤ lo) (hBw : B ≤ w.heap.size) (hk0 : 0 ≤ k0) (hk1 : k0 + t.wt + 1 ≤ 1099511627776) (hn : t.bulk ≤ 1048576) (h : EditIn w d v t lo hi) :
    Calls Try.prog 79 #[v, .int .i64 k0] w fun e w' => e = .returned (.int .i64 (k0 + (t.wt : Int))) ∧ EditIn w' d v (t.markIn k0) lo hi ∧ Below B w w' ∧ Kept lo hi w w' := by
  cases t with
  | mk ex ps =>
    obtain ⟨k, nm, n, tk, ta, tn, tc, sa, sn, sc, pa, pn, pc, mid, rfl, he, hp, h1, h2, hl⟩ := h
    dsimp only at he hp hl
    have hw : (Edi.mk ex ps).wt = ex.wt + ps.length := rfl
    have hbk : (Edi.mk ex ps).bulk = ex.bulk + ps.length := rfl
    rw [hw] at hk1
    have hn2 : ps.length ≤ 1048576 := by omega
    have hb := below_alloc w (.cells #[.int .i64 k, .string nm, .int .i64 n, .int .i64 tk, .slice ta tn tc, .slice sa sn sc, .slice pa pn pc] 53)
    have XA : Hid (BoxAt (w.alloc (.cells #[.int .i64 k, .string nm, .int .i64 n, .int .i64 tk, .slice ta tn tc, .slice sa sn sc, .slice pa pn pc] 53)) w.heap.size #[.int .i64 k, .string nm, .int .i64 n, .int .i64 tk, .slice ta tn tc, .slice sa sn sc, .slice pa pn pc]) := BoxAt.new _ _ _
    have HE := Lib.hid (he.below hb)
    have HP := Lib.hid (hp.below hb)
    have HB := Lib.hid hb
    have hz : (w.alloc (.cells #[.int .i64 k, .string nm, .int .i64 n, .int .i64 tk, .slice ta tn tc, .slice sa sn sc, .slice pa pn pc] 53)).heap.size = w.heap.size + 1 := by simp
    have hhi := hp.2.2
    clear he hp hb hw hbk hn
    go_enter Try.func79, Try.ntmps79
    go_wp2_with fail
    refine (markExIn B d _ ex lo mid k0 _ hB (by omega) hk0 (by omega) HE.out).mono ?_
    rintro e w1 ⟨rfl, hm, hb1, hk⟩
    have HM := Lib.hid hm
    have HB1 := Lib.hid hb1
    have HK := Lib.hid hk
    replace HP := Lib.hid (HP.out.beside hk (by omega))
    replace XA := Lib.hid (XA.out.beside hk (by omega))
    clear hm hb1 hk HE
    obtain ⟨q, hq⟩ : ∃ q : Int, q = k0 + (ex.wt : Int) := ⟨_, rfl⟩
    rw [← hq]
    have q0 : 0 ≤ q := by omega
    have q1 : q + ps.length ≤ 1099511627776 := by omega
    have HQQ := Lib.hid hq
    clear hq
    have c6 := XA.out.2 6
    go_wp2_with fail
    clear c6
    refine (markIntsIn B _ ps mid hi q _ (by omega) (by omega) (by omega) (by omega) HP.out).mono ?_
    rintro e w2 ⟨rfl, hm2, hb2, hk2⟩
    have HM2 := Lib.hid hm2
    have HB2 := Lib.hid hb2
    have HK2 := Lib.hid hk2
    clear hm2 hb2 hk2 HP XA
    go_wp2_with fail
    go_ret
    refine ⟨by show Ending.returned (Value.int .i64 (q + (ps.length : Int))) = Ending.returned (Value.int .i64 (k0 + ((ex.wt + ps.length : Nat) : Int))); rw [show q + (ps.length : Int) = k0 + ((ex.wt + ps.length : Nat) : Int) from by have := HQQ.out; omega], ⟨k, nm, n, tk, ta, tn, tc, sa, sn, sc, pa, pn, pc, mid, rfl, HM.out.beside HK2.out (by omega), ?_, h1, h2, ?_⟩, (HB.out.mono (by omega)).trans (HB1.out.trans HB2.out), Kept.of_below HB.out (HK.out.trans HK2.out h1 h2)⟩
    · show IntsIn _ _ (imarks (k0 + (ex.wt : Int)) ps.length) _ _
      rw [← HQQ.out]; exact HM2.out
    · show (imarks (k0 + (ex.wt : Int)) ps.length).length ≤ _
      rw [imarks_length]; exact hl
set_option maxRecDepth 100000 in
set_option maxHeartbeats 2000000 in
theorem heldEdit (d : Nat) (v : Value) (t : Edi) (k0 : Int) (w : World) (hk0 : 0 ≤ k0) (hk1 : k0 + t.wt + 1 ≤ 1099511627776) (hn : t.bulk ≤ 1048576) (h : EditAt w d v (t.markIn k0)) :
    Calls Try.prog 81 #[v, .int .i64 k0] w fun e w' => e = .returned (.int .i64 (k0 + (t.wt : Int))) ∧ Below w.heap.size w w' := by
  cases t with
  | mk ex ps =>
    obtain ⟨k, nm, n, tk, ta, tn, tc, sa, sn, sc, pa, pn, pc, rfl, he, hp, hl⟩ := h
    have he2 : ExAt w d (.agg #[.int .i64 k, .string nm, .int .i64 n, .int .i64 tk, .slice ta tn tc, .slice sa sn sc]) (ex.markIn k0) := he
    have hp2 : Ints w (.slice pa pn pc) (imarks (k0 + (ex.wt : Int)) ps.length) := hp
    have hw : (Edi.mk ex ps).wt = ex.wt + ps.length := rfl
    have hbk : (Edi.mk ex ps).bulk = ex.bulk + ps.length := rfl
    rw [hw] at hk1
    have hn2 : ps.length ≤ 1048576 := by omega
    have hb := below_alloc w (.cells #[.int .i64 k, .string nm, .int .i64 n, .int .i64 tk, .slice ta tn tc, .slice sa sn sc, .slice pa pn pc] 53)
    have XA : Hid (BoxAt (w.alloc (.cells #[.int .i64 k, .string nm, .int .i64 n, .int .i64 tk, .slice ta tn tc, .slice sa sn sc, .slice pa pn pc] 53)) w.heap.size #[.int .i64 k, .string nm, .int .i64 n, .int .i64 tk, .slice ta tn tc, .slice sa sn sc, .slice pa pn pc]) := BoxAt.new _ _ _
    have HE := Lib.hid (he2.below hb)
    have HP := Lib.hid (hp2.below hb)
    have HB := Lib.hid hb
    clear he hp he2 hp2 hb hw hbk hn hl
    go_enter Try.func81, Try.ntmps81
    go_wp2_with fail
    refine (heldEx d _ ex k0 _ hk0 (by omega) HE.out).mono ?_
    rintro e w1 ⟨rfl, hb1⟩
    replace HB := Lib.hid (below_thru HB.out (Nat.le_refl _) hb1)
    replace HP := Lib.hid (HP.out.below hb1)
    replace XA := Lib.hid (XA.out.below hb1)
    clear hb1 HE
    obtain ⟨q, hq⟩ : ∃ q : Int, q = k0 + (ex.wt : Int) := ⟨_, rfl⟩
    have HQ : Hid (Ints w1 (.slice pa pn pc) (imarks q ps.length)) := by show Ints _ _ _; rw [hq]; exact HP.out
    clear HP
    rw [← hq]
    have q0 : 0 ≤ q := by omega
    have q1 : q + ps.length ≤ 1099511627776 := by omega
    have HQQ := Lib.hid hq
    clear hq
    have c6 := XA.out.2 6
    go_wp2_with fail
    clear c6
    refine (heldInts _ ps.length q (by omega) (by omega) (by omega) _ HQ.out).mono ?_
    rintro e w2 ⟨rfl, hb2⟩
    replace HB := Lib.hid (below_thru HB.out (Nat.le_refl _) hb2)
    clear hb2
    go_wp2_with fail
    go_ret
    exact ⟨by show Ending.returned (Value.int .i64 (q + (ps.length : Int))) = Ending.returned (Value.int .i64 (k0 + ((ex.wt + ps.length : Nat) : Int))); rw [show q + (ps.length : Int) = k0 + ((ex.wt + ps.length : Nat) : Int) from by have := HQQ.out; omega], HB.out⟩
end Go.Proofs.Ytcohfbdhdngplaa
