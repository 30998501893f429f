/-
  Proved: slices.Clone copies a row of numbers into new memory; the memory that was there stays as it was.
-/
import Derived.Test.YtcohfbdhdngplaaIntsRow
import Derived.Maps.AppendAt
import Derived.Lib.SliceRun
namespace Go.Proofs.Ytcohfbdhdngplaa
open Go.RowKit

set_option maxRecDepth 100000 in
set_option maxHeartbeats 2000000 in
theorem cloneInts (v : Value) (ss : List Int) (w : World) (h : Ints w v ss) (hn : ss.length ≤ 1048576) :
    Calls Try.prog 95 #[v] w fun e w' => ∃ a cap, e = .returned (.slice a ss.length cap) ∧ IntsIn w' (.slice a ss.length cap) ss w.heap.size w'.heap.size ∧ Below w.heap.size w w' := by
  obtain ⟨a, cap, rfl, hcap, hat⟩ := h
  have q22 : ∀ (w : World) (a : Option Addr) (n c n' c' : Nat), (binOp .eql 45 (.slice a n c) (.slice none n' c')).run Try.prog w = .ok (.bool a.isNone) w := fun w a n c n' c' => Lib.run_eql_slice_nil w _ _ a n c n' c' Try.underlying45
  cases a with
  | none =>
    have hl : ss = [] := List.eq_nil_of_length_eq_zero (Nat.eq_zero_of_not_pos fun hp => by
      obtain ⟨_, _, h, _⟩ := hat 0 hp
      cases h)
    subst hl
    go_enter Try.func95, Try.ntmps95
    go_wp2_with fail
    go_ret
    exact ⟨none, 0, rfl, ⟨World.ownsRow_nil _ _ _ _, (fun k hk => by simp [Value.ownBlock] at hk), Nat.le_refl _⟩, Below.refl _ _⟩
  | some p =>
    have hcell : ∀ j u, (ss.map (Value.int IntKind.i64))[j]? = some u → w.cell? (p.add j) = some u := fun j u hj => by
      have hjl : j < ss.length := by
        have := (List.getElem?_eq_some_iff.1 hj).1
        simpa using this
      obtain ⟨b, off, ha, _, hc⟩ := hat j hjl
      cases ha
      rw [addr_add, hc]
      rw [List.getElem?_map, List.getElem?_eq_getElem hjl] at hj
      simpa using hj
    have HC := Lib.hid hcell
    clear hcell hat
    obtain ⟨i0, hi, hz0, hz1, hz2⟩ := info_parts info_i
    go_enter Try.func95, Try.ntmps95
    go_wp2_with (at_builtin; refine wpList_append_own _ rfl _ _ 45 rfl w.heap.size 3 i0 (.int .i64 0) 1 8 Try.underlying45 hi hz0 hz1 hz2 rfl (by decide) _ _ _ rfl (World.ownsRow_made w #[] 0 (Nat.le_refl _) (Nat.zero_le _) rfl) p ss.length cap (ss.map (Value.int IntKind.i64)) rfl ?qc1 ?qc2 ?qc3 ?qc4 ?qc5 ?qc6 ?_)
    case qc1 => simp
    case qc2 => intro j u hj; exact Lib.cell?_alloc_some _ (HC.out j u hj)
    case qc3 => intro u hu; obtain ⟨x, _, rfl⟩ := List.mem_map.1 hu; rfl
    case qc4 => unfold maxLen; omega
    case qc5 => omega
    case qc6 => simp
    intro v' w1 hown hgrow hnil
    have HOWN : Hid (w1.ownsRow w.heap.size 3 1 v' ss.length (ss.map (Value.int IntKind.i64))) := by show World.ownsRow _ _ _ _ _ _ _; simpa using hown
    have HB : Hid (Below w.heap.size w w1) := ((Below.refl _ w).alloc (Nat.le_refl _) _).grown hgrow (by simp) (by intro k hk; simp [Value.ownBlock] at hk; omega)
    clear hown hgrow hnil hi hz0 hz1 hz2
    obtain ⟨a2, c2, hv⟩ : ∃ a2 c2, v' = .slice a2 ss.length c2 := by
      rcases HOWN.out.2 with ⟨h1, h2⟩ | ⟨g, cap2, cur, h1, _⟩
      · exact ⟨none, 0, by rw [h1, h2]⟩
      · exact ⟨_, cap2, h1⟩
    subst hv
    go_wp2_with fail
    go_ret
    exact ⟨a2, c2, rfl, IntsIn.of HOWN.out (Nat.le_refl _), HB.out⟩
end Go.Proofs.Ytcohfbdhdngplaa
