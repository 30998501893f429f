/-
  Proved: spec.l11With gives a path with one more step, in new memory; the memory that was there stays as it was.
-/
import Derived.Test.YtimigpdbegfjaaaAppStep
import Derived.Deep.Upon
import Derived.ArgAppend
namespace Go.Proofs.Ytimigpdbegfjaaa
open Go.RowKit

/-- A path that is appended to an empty slice of the call's own. -/
theorem path_own_by (ty : TypeId) (w : World) (B : Nat) (b : Addr) (v : Value) (ps : List Int) (hB : B ≤ w.heap.size) (hb : w.ownsRow B 3 1 (.slice (some b) 0 0) 0 []) (hv : Ints w v ps) (hn : ps.length ≤ 1048576) :
    ∃ v' w', (Builtin.append_ #[29, 29] ty #[.slice (some b) 0 0, v]).run Try.prog w = .ok v' w' ∧ w'.ownsRow B 3 1 v' ps.length (ps.map (Value.int .i64)) ∧ Below w.heap.size w w' := by
  obtain ⟨i0, hi, hz0, hz1, hz2⟩ := info_parts info_i
  obtain ⟨a, cap, rfl, hcap, hat⟩ := hv
  by_cases h0 : 0 < ps.length
  · obtain ⟨g, off, rfl, hg, _⟩ := hat 0 h0
    obtain ⟨v', w', hr, ho, hgr⟩ := run_append_arg_grows (P := Try.prog) (w := w) 29 ty 3 i0 (.int .i64 0) 1 8 Try.underlying29 hi hz0 hz1 hz2 rfl (by omega) b 0 0 [] rfl (fun j u h => by simp at h)
      ⟨g, off, none⟩ ps.length cap (ps.map (Value.int IntKind.i64)) (by simp) (fun j u h => by
        simp at h
        obtain ⟨x, hx, rfl⟩ := h
        obtain ⟨hj, rfl⟩ := List.getElem?_eq_some_iff.1 hx
        obtain ⟨g', off', e, _, hc⟩ := hat j hj
        cases e
        rw [addr_add]; exact hc) (by omega) (by unfold maxLen; omega) (by omega)
    rw [Nat.zero_add, List.nil_append] at ho
    exact ⟨v', w', hr, own_mono ho hB, (Below.refl _ w).grown hgr (Nat.le_refl _) (fun k e => by cases e)⟩
  · have hp : ps = [] := List.length_eq_zero_iff.1 (by omega)
    subst hp
    refine ⟨_, w, run_append_nothing w 29 29 ty 3 i0 Try.underlying29 hi (some b) 0 0 (Nat.le_refl _) (.slice a 0 cap) ?_, hb, Below.refl _ _⟩
    cases a with
    | none => exact Src.ofNil w Try.underlying29 cap
    | some a => exact Src.ofSlice w Try.underlying29 a 0 cap [] (by simp) (fun j u h => by simp at h) (by simp)
set_option maxRecDepth 100000 in
set_option maxHeartbeats 2000000 in
theorem specWithP (v : Value) (ps : List Int) (k : Int) (w : World) (hv : Ints w v ps) (hn : ps.length ≤ 1048576) :
    Calls Try.prog 109 #[v, .int .i64 k] w fun e w' => ∃ v', e = .returned v' ∧ Ints w' v' (ps ++ [k]) ∧ Below w.heap.size w w' := by
  have HV := Lib.hid hv
  have B0 := Lib.hid (below_alloc w (.cells #[] 3))
  have R0 : Hid ((w.alloc (.cells #[] 3)).ownsRow w.heap.size 3 1 (.slice (some ⟨w.heap.size, 0, none⟩) 0 0) 0 []) := World.ownsRow_made w #[] 0 (Nat.le_refl _) (Nat.zero_le _) rfl
  have HR1 : Hid (∀ ty, ∃ v' w', (Builtin.append_ #[29, 29] ty #[.slice (some ⟨w.heap.size, 0, none⟩) 0 0, v]).run Try.prog (w.alloc (.cells #[] 3)) = .ok v' w' ∧ w'.ownsRow w.heap.size 3 1 v' ps.length (ps.map (Value.int .i64)) ∧ Below (w.alloc (.cells #[] 3)).heap.size (w.alloc (.cells #[] 3)) w') := fun ty => path_own_by ty _ w.heap.size _ _ ps (by simp) R0.out (HV.out.below B0.out) hn
  clear hv
  go_enter Try.func109, Try.ntmps109
  go_wp2_with (first
    | (at_builtin; refine wpList_app_by rfl (.tmp 5) (.tmp 6) 29 rfl (.slice (some ⟨w.heap.size, 0, none⟩) 0 0) v rfl rfl (HR1.out _) ?_
       rintro v1 w1 ⟨ho, hb⟩
       have HO := Lib.hid ho
       have B1 := Lib.hid (below_on B0.out hb (by simp))
       have hz1 := B1.out.size
       have HR2 : Hid (∀ ty, ∃ v' w', (Builtin.append_ #[29, 29] ty #[v1, .slice (some ⟨w1.heap.size, 0, none⟩) 1 1]).run Try.prog (w1.alloc (.cells #[.int .i64 k] 3)) = .ok v' w' ∧ Pushed w.heap.size v1 ps k (w1.alloc (.cells #[.int .i64 k] 3)) v' w') :=
         fun ty => run_push _ w.heap.size _ v1 ps k _ (by simp; omega) (own_keeps HO.out fun j hj => ((below_alloc w1 _).block j (HO.out.lt j hj).2)) (by omega) (by simp [go_sem])
       clear ho hb)
    | (at_builtin; go_loud (refine wpList_app_by rfl (.tmp 7) (.tmp 9) 29 rfl v1 (.slice (some ⟨w1.heap.size, 0, none⟩) 1 1) rfl rfl (HR2.out _) ?_
                            rintro v2 w2 ⟨ho, hg, _, _⟩
                            refine Hid.out ?_)))
  refine Lib.hid ?_
  have HI2 := Lib.hid (Ints.of_own ho)
  have HB2 : Hid (Below w.heap.size w w2) := (B1.out.alloc hz1 _).grown hg (by simp; omega) (fun j hj => (HO.out.lt j hj).1)
  clear ho hg
  go_wp2_with fail
  go_ret
  exact ⟨_, rfl, HI2.out, HB2.out⟩
end Go.Proofs.Ytimigpdbegfjaaa
