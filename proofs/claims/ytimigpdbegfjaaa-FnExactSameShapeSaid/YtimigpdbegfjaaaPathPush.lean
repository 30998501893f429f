/-
  Proved: a number appended to a row of the call's own: the longer row, and how the shorter one is still read behind it.
-/
import Derived.Test.YtimigpdbegfjaaaPathsAt
import Derived.Maps.AppendAt
namespace Go.Proofs.Ytimigpdbegfjaaa
open Go.RowKit

theorem wpList_app_by {P : Program} {w : World} {ops : Array Oper} {rest : List Oper} {o : Oper} {a : Act} {Q : Exit → Act → World → Prop} (hgd : o.guard = none) (s x : Operand) (t : TypeId)
    (ho : o.op = .call { callee := .builtin .append, args := #[s, x], argTypes := #[t, t] }) (v xv : Value) (hs : a.eval s = v) (hx : a.eval x = xv) {R : Value → World → Prop}
    (hr : ∃ v' w', (Builtin.append_ #[t, t] o.type #[v, xv]).run P w = .ok v' w' ∧ R v' w') (h : ∀ v' w', R v' w' → wpList P ops Q rest (a.put o.dst v') w') : wpList P ops Q (o :: rest) a w :=
  wpList_plain hgd fun _ hK => by
    obtain ⟨v', w', hr, hR⟩ := hr
    unfold Oper.wp execOp
    simp only [ho, resolve, invoke, builtin, Sem.run_bind, Sem.run_pure, Result.andThen_ok, List.map_toArray, List.map_cons, List.map_nil, hs, hx, hr]
    exact hK _ _ (h v' w' hR)
/-- What one more number leaves: the longer row; the shorter one still there; and it stays there as long as the longer one does. -/
def Pushed (B : Nat) (v : Value) (ps : List Int) (k : Int) (w : World) (v' : Value) (w' : World) : Prop :=
  w'.ownsRow B 3 1 v' (ps ++ [k]).length ((ps ++ [k]).map (Value.int IntKind.i64)) ∧ w.grownBy w' v.ownBlock ∧ (v'.ownBlock = v.ownBlock ∨ (v'.ownBlock = some w.heap.size ∧ ∀ g, g < w.heap.size → w'.heap[g]? = w.heap[g]?)) ∧
    (∀ W : World, W.ownsRow B 3 1 v' (ps ++ [k]).length ((ps ++ [k]).map (Value.int IntKind.i64)) → (∀ g, v.ownBlock = some g → v'.ownBlock ≠ some g → W.heap[g]? = w.heap[g]?) → W.ownsRow B 3 1 v ps.length (ps.map (Value.int IntKind.i64)))
theorem run_push (w : World) (B : Nat) (ty : TypeId) (v : Value) (ps : List Int) (k : Int) (a : Addr) (hB : B ≤ w.heap.size) (hown : w.ownsRow B 3 1 v ps.length (ps.map (Value.int IntKind.i64))) (hn : ps.length ≤ 2097152) (ha : w.cell? a = some (.int .i64 k)) :
    ∃ v' w', (Builtin.append_ #[29, 29] ty #[v, .slice (some a) 1 1]).run Try.prog w = .ok v' w' ∧ Pushed B v ps k w v' w' := by
  obtain ⟨i0, hi, hz0, hz1, hz2⟩ := info_parts info_i
  have hnews : ∀ j u, [Value.int IntKind.i64 k][j]? = some u → w.cell? (a.add j) = some u := fun j u hj => by
    match j, hj with
    | 0, hj =>
      simp at hj; subst hj
      have e : a.add 0 = a := by simp [Addr.add]
      rw [e]; exact ha
  obtain ⟨v', w', hr, ho, hg, _, hb⟩ := run_append_own_at (P := Try.prog) w B 29 ty 3 i0 (.int .i64 0) 1 8 Try.underlying29 hi hz0 hz1 hz2 rfl (by omega) v ps.length (ps.map (Value.int IntKind.i64)) hown a 1 1 [.int .i64 k] rfl hnews (by simp [Value.oneCell']) (by unfold maxLen; omega) (by omega) hB
  have ho' : w'.ownsRow B 3 1 v' (ps ++ [k]).length ((ps ++ [k]).map (Value.int IntKind.i64)) := by simpa using ho
  rcases hown.2 with ⟨rfl, h0⟩ | ⟨g, cap, cur, rfl, hbg, hgc, hnc, hcm, hcs, htake⟩
  · have : ps = [] := List.length_eq_zero_iff.1 h0
    subst this
    refine ⟨v', w', hr, ho', hg, ?_, fun W hW hk => World.ownsRow_nil _ _ _ _⟩
    rcases hb with hb | hb
    · exact Or.inl hb
    · exact Or.inr ⟨hb, fun g hgl => hg.block g hgl (fun e => by cases e)⟩
  · by_cases hroom : ps.length + 1 ≤ cap
    · have hr2 := run_append_room (P := Try.prog) w 29 ty 3 i0 Try.underlying29 hi g ps.length cap cur hgc a 1 1 [.int .i64 k] (by rw [hz1]; rfl) hnews (by simp [Value.oneCell']) hroom (by rw [hz1, hcs]; simp; omega)
      rw [hr] at hr2
      injection hr2 with e1 e2
      subst e1
      refine ⟨_, w', hr, ho', hg, Or.inl rfl, fun W hW hk => ?_⟩
      rcases hW.2 with ⟨hv, _⟩ | ⟨g2, cap2, cur2, hv, hbg2, hgc2, hnc2, hcm2, hcs2, htake2⟩
      · simp at hv
      · injection hv with e3 e4 e5
        injection e3 with e3
        injection e3 with e3
        subst e3 e5
        refine ⟨by simp, Or.inr ⟨g, cap, cur2, rfl, hbg, hgc2, hnc, hcm, hcs2, ?_⟩⟩
        have ht := congrArg (List.take ps.length) htake2
        rw [List.take_take] at ht
        rw [Nat.mul_one]
        have e6 : min ps.length ((ps ++ [k]).length * 1) = ps.length := by simp
        rw [e6] at ht
        rw [ht]
        simp
    · have hr2 := run_append_grow (P := Try.prog) w 29 ty 3 i0 (.int .i64 0) Try.underlying29 hi hz0 ⟨g, 0, none⟩ ps.length cap (ps.map (Value.int IntKind.i64)) (by rw [hz1]; simp) (hown.cells (g := g) rfl) a 1 1 [.int .i64 k] (by rw [hz1]; rfl) hnews (by omega) (by omega) (growslice_fits (by omega) (by rw [hz2]; omega))
      rw [hr] at hr2
      injection hr2 with e1 e2
      have hne : v'.ownBlock ≠ some g := by
        rw [e1]
        intro e
        have := (hown.lt g rfl).2
        simp [Value.ownBlock] at e
        omega
      refine ⟨v', w', hr, ho', hg, Or.inr ⟨by rw [e1]; rfl, fun j hj => ?_⟩, fun W hW hk => own_keeps hown fun b hbb => by cases hbb; exact hk g rfl hne⟩
      rw [e2]
      exact heap_alloc_old _ _ hj
end Go.Proofs.Ytimigpdbegfjaaa
