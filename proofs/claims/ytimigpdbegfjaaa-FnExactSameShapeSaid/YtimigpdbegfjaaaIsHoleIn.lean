/-
  Proved: impl.isHoleOrMark says whether a node is a hole or a mark, and changes nothing.
-/
import Derived.Test.YtimigpdbegfjaaaNodesW
namespace Go.Proofs.Ytimigpdbegfjaaa
open Go.RowKit Go.Shelf
attribute [local go_sem] Oper.semAt_some

set_option maxRecDepth 100000 in
set_option maxHeartbeats 2000000 in
theorem isHoleInW (F : Fence) (n : Nat) (h7 : F.fn 74) (hro : F.round = none) (b off : Nat) (kd : Int) (W : World) (c0 : W.cell? ⟨b, off, none⟩ = some (.int .i64 kd)) :
    CallsIn F n Try.prog 74 #[.pointer (some ⟨b, off, none⟩)] W fun e w' => e = .returned (.bool (decide (kd = 1 ∨ kd = 14))) ∧ w' = W := by
  by_cases q1 : kd = 1
  · subst q1
    refine callsIn_of_wp Try.func74 rfl h7 ?_ hro
    simp only [Try.ntmps74, List.size_toArray, List.length_cons, List.length_nil, Nat.reduceAdd, Nat.reduceSub, Array.replicate_succ, Array.replicate_zero, List.push_toArray, List.append_toArray, List.nil_append, List.cons_append]
    gi_wp2
    go_ret
    exact ⟨rfl, rfl⟩
  · have q1b : (kd == 1) = false := by simp [q1]
    by_cases q2 : kd = 14
    · subst q2
      refine callsIn_of_wp Try.func74 rfl h7 ?_ hro
      simp only [Try.ntmps74, List.size_toArray, List.length_cons, List.length_nil, Nat.reduceAdd, Nat.reduceSub, Array.replicate_succ, Array.replicate_zero, List.push_toArray, List.append_toArray, List.nil_append, List.cons_append]
      gi_wp2
      go_ret
      exact ⟨rfl, rfl⟩
    · have q2b : (kd == 14) = false := by simp [q2]
      have e : Hid (decide (kd = 1 ∨ kd = 14) = false) := by show _ = _; simp [q1, q2]
      refine callsIn_of_wp Try.func74 rfl h7 ?_ hro
      simp only [Try.ntmps74, List.size_toArray, List.length_cons, List.length_nil, Nat.reduceAdd, Nat.reduceSub, Array.replicate_succ, Array.replicate_zero, List.push_toArray, List.append_toArray, List.nil_append, List.cons_append]
      gi_wp2
      go_ret
      exact ⟨by rw [e.out]; rfl, rfl⟩
end Go.Proofs.Ytimigpdbegfjaaa
