/-
  Proved: impl.ArityOf and spec.ArityOf give the number of Args of a kind; the memory that was there stays as it was.
-/
import Derived.Test.YtcohfbdhdngplaaDoorLaw
import Derived.Test.YtcohfbdhdngplaaDoorSpecIn
namespace Go.Proofs.YtcohfbdhdngplaaDoor
open Go.RowKit

/-- The numbers of Args, by kind. -/
abbrev arTab : List Int := [0, 0, 0, 1, 2, 0, 2, 2, 0, 3, 2, 1, 1, 1, 1]
def arity (n : Int) : Int := if 1 ≤ n ∧ n ≤ 14 then arTab.getD n.toNat 0 else -1
theorem arity_out {n : Int} (h : ¬ (1 ≤ n ∧ n ≤ 14)) : arity n = -1 := if_neg h
set_option maxRecDepth 100000 in
set_option maxHeartbeats 2000000 in
theorem implArity (n : Int) (w : World) (htab : Lib.TabIs Tryd.prog w "loop.example/g00585/impl.arities" .i64 arTab) :
    Calls Tryd.prog 126 #[.int .i64 n] w fun e w' => e = .returned (.int .i64 (arity n)) ∧ Below w.heap.size w w' := by
  have hg : Tryd.prog.globalNamed "loop.example/g00585/impl.arities" = some 1 := by kernel_rfl
  by_cases q : 1 ≤ n ∧ n ≤ 14
  · rcases (by omega : n = 1 ∨ n = 2 ∨ n = 3 ∨ n = 4 ∨ n = 5 ∨ n = 6 ∨ n = 7 ∨ n = 8 ∨ n = 9 ∨ n = 10 ∨ n = 11 ∨ n = 12 ∨ n = 13 ∨ n = 14) with rfl | rfl | rfl | rfl | rfl | rfl | rfl | rfl | rfl | rfl | rfl | rfl | rfl | rfl
    · have c := htab.cell hg 1 (by decide)
      go_enter Tryd.func126, Tryd.ntmps126
      go_wp2_with fail
      go_ret
      exact ⟨rfl, Below.refl _ _⟩
    · have c := htab.cell hg 2 (by decide)
      go_enter Tryd.func126, Tryd.ntmps126
      go_wp2_with fail
      go_ret
      exact ⟨rfl, Below.refl _ _⟩
    · have c := htab.cell hg 3 (by decide)
      go_enter Tryd.func126, Tryd.ntmps126
      go_wp2_with fail
      go_ret
      exact ⟨rfl, Below.refl _ _⟩
    · have c := htab.cell hg 4 (by decide)
      go_enter Tryd.func126, Tryd.ntmps126
      go_wp2_with fail
      go_ret
      exact ⟨rfl, Below.refl _ _⟩
    · have c := htab.cell hg 5 (by decide)
      go_enter Tryd.func126, Tryd.ntmps126
      go_wp2_with fail
      go_ret
      exact ⟨rfl, Below.refl _ _⟩
    · have c := htab.cell hg 6 (by decide)
      go_enter Tryd.func126, Tryd.ntmps126
      go_wp2_with fail
      go_ret
      exact ⟨rfl, Below.refl _ _⟩
    · have c := htab.cell hg 7 (by decide)
      go_enter Tryd.func126, Tryd.ntmps126
      go_wp2_with fail
      go_ret
      exact ⟨rfl, Below.refl _ _⟩
    · have c := htab.cell hg 8 (by decide)
      go_enter Tryd.func126, Tryd.ntmps126
      go_wp2_with fail
      go_ret
      exact ⟨rfl, Below.refl _ _⟩
    · have c := htab.cell hg 9 (by decide)
      go_enter Tryd.func126, Tryd.ntmps126
      go_wp2_with fail
      go_ret
      exact ⟨rfl, Below.refl _ _⟩
    · have c := htab.cell hg 10 (by decide)
      go_enter Tryd.func126, Tryd.ntmps126
      go_wp2_with fail
      go_ret
      exact ⟨rfl, Below.refl _ _⟩
    · have c := htab.cell hg 11 (by decide)
      go_enter Tryd.func126, Tryd.ntmps126
      go_wp2_with fail
      go_ret
      exact ⟨rfl, Below.refl _ _⟩
    · have c := htab.cell hg 12 (by decide)
      go_enter Tryd.func126, Tryd.ntmps126
      go_wp2_with fail
      go_ret
      exact ⟨rfl, Below.refl _ _⟩
    · have c := htab.cell hg 13 (by decide)
      go_enter Tryd.func126, Tryd.ntmps126
      go_wp2_with fail
      go_ret
      exact ⟨rfl, Below.refl _ _⟩
    · have c := htab.cell hg 14 (by decide)
      go_enter Tryd.func126, Tryd.ntmps126
      go_wp2_with fail
      go_ret
      exact ⟨rfl, Below.refl _ _⟩
  · by_cases q1 : n < 1
    · go_enter Tryd.func126, Tryd.ntmps126
      go_wp2_with fail
      go_ret
      exact ⟨by rw [arity_out q]; rfl, Below.refl _ _⟩
    · have q2 : 14 < n := by omega
      go_enter Tryd.func126, Tryd.ntmps126
      go_wp2_with fail
      go_ret
      exact ⟨by rw [arity_out q]; rfl, Below.refl _ _⟩
set_option maxRecDepth 100000 in
set_option maxHeartbeats 2000000 in
theorem specArity (n : Int) (w : World) :
    Calls Tryd.prog 106 #[.int .i64 n] w fun e w' => e = .returned (.int .i64 (arity n)) ∧ Below w.heap.size w w' := by
  by_cases q : 1 ≤ n ∧ n ≤ 14
  · rcases (by omega : n = 1 ∨ n = 2 ∨ n = 3 ∨ n = 4 ∨ n = 5 ∨ n = 6 ∨ n = 7 ∨ n = 8 ∨ n = 9 ∨ n = 10 ∨ n = 11 ∨ n = 12 ∨ n = 13 ∨ n = 14) with rfl | rfl | rfl | rfl | rfl | rfl | rfl | rfl | rfl | rfl | rfl | rfl | rfl | rfl
    · go_enter Tryd.func106, Tryd.ntmps106
      go_wp2_with fail
      refine (specIn _ _ _ _).mono ?_
      rintro e w1 ⟨rfl, rfl⟩
      go_wp2_with fail
      go_ret
      exact ⟨rfl, (Below.refl _ _).alloc (Nat.le_refl _) _⟩
    · go_enter Tryd.func106, Tryd.ntmps106
      go_wp2_with fail
      refine (specIn _ _ _ _).mono ?_
      rintro e w1 ⟨rfl, rfl⟩
      go_wp2_with fail
      go_ret
      exact ⟨rfl, (Below.refl _ _).alloc (Nat.le_refl _) _⟩
    · go_enter Tryd.func106, Tryd.ntmps106
      go_wp2_with fail
      refine (specIn _ _ _ _).mono ?_
      rintro e w1 ⟨rfl, rfl⟩
      go_wp2_with fail
      go_ret
      exact ⟨rfl, (Below.refl _ _).alloc (Nat.le_refl _) _⟩
    · go_enter Tryd.func106, Tryd.ntmps106
      go_wp2_with fail
      refine (specIn _ _ _ _).mono ?_
      rintro e w1 ⟨rfl, rfl⟩
      go_wp2_with fail
      go_ret
      exact ⟨rfl, (Below.refl _ _).alloc (Nat.le_refl _) _⟩
    · go_enter Tryd.func106, Tryd.ntmps106
      go_wp2_with fail
      refine (specIn _ _ _ _).mono ?_
      rintro e w1 ⟨rfl, rfl⟩
      go_wp2_with fail
      go_ret
      exact ⟨rfl, (Below.refl _ _).alloc (Nat.le_refl _) _⟩
    · go_enter Tryd.func106, Tryd.ntmps106
      go_wp2_with fail
      refine (specIn _ _ _ _).mono ?_
      rintro e w1 ⟨rfl, rfl⟩
      go_wp2_with fail
      go_ret
      exact ⟨rfl, (Below.refl _ _).alloc (Nat.le_refl _) _⟩
    · go_enter Tryd.func106, Tryd.ntmps106
      go_wp2_with fail
      refine (specIn _ _ _ _).mono ?_
      rintro e w1 ⟨rfl, rfl⟩
      go_wp2_with fail
      go_ret
      exact ⟨rfl, (Below.refl _ _).alloc (Nat.le_refl _) _⟩
    · go_enter Tryd.func106, Tryd.ntmps106
      go_wp2_with fail
      refine (specIn _ _ _ _).mono ?_
      rintro e w1 ⟨rfl, rfl⟩
      go_wp2_with fail
      go_ret
      exact ⟨rfl, (Below.refl _ _).alloc (Nat.le_refl _) _⟩
    · go_enter Tryd.func106, Tryd.ntmps106
      go_wp2_with fail
      refine (specIn _ _ _ _).mono ?_
      rintro e w1 ⟨rfl, rfl⟩
      go_wp2_with fail
      go_ret
      exact ⟨rfl, (Below.refl _ _).alloc (Nat.le_refl _) _⟩
    · go_enter Tryd.func106, Tryd.ntmps106
      go_wp2_with fail
      refine (specIn _ _ _ _).mono ?_
      rintro e w1 ⟨rfl, rfl⟩
      go_wp2_with fail
      go_ret
      exact ⟨rfl, (Below.refl _ _).alloc (Nat.le_refl _) _⟩
    · go_enter Tryd.func106, Tryd.ntmps106
      go_wp2_with fail
      refine (specIn _ _ _ _).mono ?_
      rintro e w1 ⟨rfl, rfl⟩
      go_wp2_with fail
      go_ret
      exact ⟨rfl, (Below.refl _ _).alloc (Nat.le_refl _) _⟩
    · go_enter Tryd.func106, Tryd.ntmps106
      go_wp2_with fail
      refine (specIn _ _ _ _).mono ?_
      rintro e w1 ⟨rfl, rfl⟩
      go_wp2_with fail
      go_ret
      exact ⟨rfl, (Below.refl _ _).alloc (Nat.le_refl _) _⟩
    · go_enter Tryd.func106, Tryd.ntmps106
      go_wp2_with fail
      refine (specIn _ _ _ _).mono ?_
      rintro e w1 ⟨rfl, rfl⟩
      go_wp2_with fail
      go_ret
      exact ⟨rfl, (Below.refl _ _).alloc (Nat.le_refl _) _⟩
    · go_enter Tryd.func106, Tryd.ntmps106
      go_wp2_with fail
      refine (specIn _ _ _ _).mono ?_
      rintro e w1 ⟨rfl, rfl⟩
      go_wp2_with fail
      go_ret
      exact ⟨rfl, (Below.refl _ _).alloc (Nat.le_refl _) _⟩
  · have q3 : (decide (1 ≤ n) && decide (n ≤ 14)) = false := by
      by_cases a : 1 ≤ n
      · have b : ¬ n ≤ 14 := fun b => q ⟨a, b⟩
        simp [b]
      · simp [a]
    go_enter Tryd.func106, Tryd.ntmps106
    go_wp2_with fail
    refine (specIn _ _ _ _).mono ?_
    rintro e w1 ⟨rfl, rfl⟩
    go_wp2_with fail
    go_ret
    exact ⟨by rw [arity_out q]; rfl, Below.refl _ _⟩
end Go.Proofs.YtcohfbdhdngplaaDoor
