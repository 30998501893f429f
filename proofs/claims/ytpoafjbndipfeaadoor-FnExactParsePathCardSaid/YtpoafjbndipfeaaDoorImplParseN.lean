/-
  Proved: impl.ParseNumber accepts exactly the decimal numerals of the numbers within its bounds, and leaves the memory that was there as it was. On these terms: texts of at most 2^20 bytes; the library's table and its two errors hold what the program's text lays.
-/
import Derived.Test.YtpoafjbndipfeaaDoorProg
import Derived.Test.YtpoafjbndipfeaaDoorWithin
import Derived.Test.YtpoafjbndipfeaaDoorRead
import Derived.WalkKit
import Derived.WalkSpells
import Derived.WalkLawsBesides
import Derived.Lib.Hide
import Derived.Defers
import Derived.Recover
namespace Go.Proofs.YtpoafjbndipfeaaDoor
open Go.RowKit

theorem bcell {W w1 : World} (hb : Below W.heap.size W w1) : (∀ b o, b < W.heap.size → w1.cell? ⟨b, o, none⟩ = W.cell? ⟨b, o, none⟩) ∧ (∀ b o, b < W.heap.size → w1.frozen? ⟨b, o, none⟩ = W.frozen? ⟨b, o, none⟩) :=
  ⟨fun b o h => hb.cell (p := ⟨b, o, none⟩) h, fun b o h => hb.frozen (p := ⟨b, o, none⟩) h⟩


theorem catch_panicking_ParseNumber (p q : Addr) (x : Int) (b : Bool) (u : TypeId) (pv : Value) (older : List PanicEntry) (w : World) (hp : w.cell? p = some (.int .i64 x)) (hfp : w.frozen? p = false) (hq : w.cell? q = some (.bool b)) (hfq : w.frozen? q = false) (hpq : p.block ≠ q.block) :
    CallsD Tryd.prog 63 #[.pointer (some p), .pointer (some q)] (.panicking ({ v := .iface u pv, recovered := false } :: older)) w fun e u' w' =>
      e = .returned (.tuple #[]) ∧ u' = .panicking ({ v := .iface u pv, recovered := true } :: older) ∧ w' = (w.setCell p (.int .i64 0)).setCell q (.bool false) := by
  have hq' : (w.setCell p (.int .i64 0)).cell? q = some (.bool b) := by rw [World.cell?_setCell_other _ _ _ _ (by intro e; exact hpq (by rw [e]))]; exact hq
  have hfq' : (w.setCell p (.int .i64 0)).frozen? q = false := by simpa using hfq
  refine callsD_of_wpS Tryd.func63 rfl fun c₀ cs hu => ?_
  apply wpS_seq
  apply wpS_region
  simp [wpOpsS, go_sem, recoverD, hu, Tryd.ntmps63, Exit.thenS]
  refine wpS_cond (t := true) (by simp [Act.eval, Array.replicate]) ?_
  simp only [if_true]
  apply wpS_region
  simp [wpOpsS, go_sem, hp, hfp, hq', hfq', bodyPostS, results, Tryd.results63]

theorem catch_idle_ParseNumber (p q : Addr) (w : World) :
    CallsD Tryd.prog 63 #[.pointer (some p), .pointer (some q)] .returning w fun e u' w' => e = .returned (.tuple #[]) ∧ u' = .returning ∧ w' = w := by
  refine callsD_of_wpS Tryd.func63 rfl fun c₀ cs hu => ?_
  apply wpS_seq
  apply wpS_region
  simp [wpOpsS, go_sem, recoverD, hu, Tryd.ntmps63, Exit.thenS]
  refine wpS_cond (t := false) (by simp [Act.eval, Array.replicate]) ?_
  simp only [Bool.false_eq_true, if_false]
  refine wpS_of_wp (wp_skip ?_)
  cases c₀
  simp_all [bodyPostS, results, Tryd.results63]

set_option maxRecDepth 100000 in
set_option maxHeartbeats 1000000 in
theorem implParseNumber (s : ByteArray) (hs : s.size ≤ 1048576) (w : World) (hL : Lays w) :
    Calls Tryd.prog 45 #[.string s] w (ReadEnd 0 999999 s w) := by
  have hmf : ∀ (fn : Fn) (first cap : Array Value) (w : World), (Instr.makeFunc fn first cap).run Tryd.prog w = .ok (.func fn first cap) w := fun _ _ _ _ => rfl
  have HL := Lib.hid hL; clear hL
  go_enter_defers Tryd.func45, Tryd.ntmps45
  go_wp2_with fail
  have hb0 : Below w.heap.size w ((w.alloc (.cells #[.int .i64 0] 3)).alloc (.cells #[.bool false] 4)) :=
    ((Below.refl _ _).alloc (Nat.le_refl _) _).alloc (by simp) _
  rcases within s hs 0 999999 (by omega) (by omega) _ (HL.out.below hb0) with ⟨v, hR, hc⟩ | ⟨hR, hc⟩
  · have HR := Lib.hid hR; clear hR
    refine hc.mono ?_
    clear hc
    rintro e w1 ⟨rfl, hb1⟩
    obtain ⟨hcell, hfroz⟩ := bcell hb1
    have c0 : w1.cell? ⟨w.heap.size, 0, none⟩ = some (.int .i64 0) := by rw [hcell _ _ (by simp; omega)]; simp [go_sem]
    have c1 : w1.cell? ⟨w.heap.size + 1, 0, none⟩ = some (.bool false) := by rw [hcell _ _ (by simp)]; simp [go_sem]
    have f0 : w1.frozen? ⟨w.heap.size, 0, none⟩ = false := by rw [hfroz _ _ (by simp; omega)]; simp [go_sem]
    have f1 : w1.frozen? ⟨w.heap.size + 1, 0, none⟩ = false := by rw [hfroz _ _ (by simp)]; simp [go_sem]
    have hb2 : Hid (Below w.heap.size w w1) := hb0.trans (hb1.mono hb0.size)
    clear hcell hfroz hb1 hb0
    go_wp2
    refine leaves_cons (f := 63) (args := #[.pointer (some ⟨w.heap.size, 0, none⟩), .pointer (some ⟨w.heap.size + 1, 0, none⟩)]) (by simp) (by simp [go_sem]) ?_
    refine (catch_idle_ParseNumber _ _ _).mono ?_
    rintro e u' w'' ⟨rfl, rfl, rfl⟩
    have d0 : ((w1.setCell ⟨w.heap.size, 0, none⟩ (.int .i64 v)).setCell ⟨w.heap.size + 1, 0, none⟩ (.bool true)).cell? ⟨w.heap.size, 0, none⟩ = some (.int .i64 v) := by simp [go_sem, c0]
    have d1 : ((w1.setCell ⟨w.heap.size, 0, none⟩ (.int .i64 v)).setCell ⟨w.heap.size + 1, 0, none⟩ (.bool true)).cell? ⟨w.heap.size + 1, 0, none⟩ = some (.bool true) := by simp [go_sem, c1]
    simp [Leaves, settle, results, Tryd.results45, go_sem, d0, d1]
    exact ⟨v, true, rfl, HR.out, (hb2.out.setCell (by simp) _).setCell (by simp) _⟩
  · have HR := Lib.hid hR; clear hR
    refine hc.mono ?_
    clear hc
    rintro e w1 ⟨rfl, hb1⟩
    obtain ⟨hcell, hfroz⟩ := bcell hb1
    have c0 : w1.cell? ⟨w.heap.size, 0, none⟩ = some (.int .i64 0) := by rw [hcell _ _ (by simp; omega)]; simp [go_sem]
    have c1 : w1.cell? ⟨w.heap.size + 1, 0, none⟩ = some (.bool false) := by rw [hcell _ _ (by simp)]; simp [go_sem]
    have f0 : w1.frozen? ⟨w.heap.size, 0, none⟩ = false := by rw [hfroz _ _ (by simp; omega)]; simp [go_sem]
    have f1 : w1.frozen? ⟨w.heap.size + 1, 0, none⟩ = false := by rw [hfroz _ _ (by simp)]; simp [go_sem]
    have hb2 : Hid (Below w.heap.size w w1) := hb0.trans (hb1.mono hb0.size)
    clear hcell hfroz hb1 hb0
    go_wp2
    refine leaves_cons (f := 63) (args := #[.pointer (some ⟨w.heap.size, 0, none⟩), .pointer (some ⟨w.heap.size + 1, 0, none⟩)]) (by simp) (by simp [go_sem]) ?_
    refine (catch_panicking_ParseNumber _ _ 0 false 9 _ [] _ c0 f0 c1 f1 (by simp)).mono ?_
    rintro e u' w'' ⟨rfl, rfl, rfl⟩
    have d0 : ((w1.setCell ⟨w.heap.size, 0, none⟩ (.int .i64 0)).setCell ⟨w.heap.size + 1, 0, none⟩ (.bool false)).cell? ⟨w.heap.size, 0, none⟩ = some (.int .i64 0) := by simp [go_sem, c0]
    have d1 : ((w1.setCell ⟨w.heap.size, 0, none⟩ (.int .i64 0)).setCell ⟨w.heap.size + 1, 0, none⟩ (.bool false)).cell? ⟨w.heap.size + 1, 0, none⟩ = some (.bool false) := by simp [go_sem, c1]
    simp [Leaves, settle, results, Tryd.results45, go_sem, d0, d1]
    exact ⟨0, false, rfl, HR.out, (hb2.out.setCell (by simp) _).setCell (by simp) _⟩
end Go.Proofs.YtpoafjbndipfeaaDoor
