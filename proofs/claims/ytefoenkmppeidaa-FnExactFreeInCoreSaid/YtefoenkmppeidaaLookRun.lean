/-
  Proved: what a look-up in a map of counts, and in a set of texts, gives, as an equation on its run.
-/
import Derived.Test.YtefoenkmppeidaaImplLeave
import Derived.Test.YtefoenkmppeidaaCoFree
namespace Go.Proofs.Ytefoenkmppeidaa
open Go.RowKit Go.Maps Go.WideMaps

theorem CntAt.run {w : World} {b n : Nat} {c : ByteArray → Int} (h : CntAt w b n c) (s : ByteArray) (hs : s.size ≤ 9223372036854775807) : (Instr.lookup 119 (.map (some b)) (.string s) false).run Try.prog w = .ok (.int .i64 (c s)) w := by
  obtain ⟨D, hown, hat⟩ := h
  have hkey : keyOf Try.prog 9 (.string s) = some (keyB s) := keyOf_string_mk Try.underlying9 hs
  obtain ⟨v, ps, hrun, hv⟩ := hown.lookup law_str Try.underlying119 (zero_int w) (plainElem_int Try.underlying3 (by decide)) hkey
  obtain ⟨q, rfl, hc, _⟩ := plainElem_int_inv Try.underlying3 hv
  simp only [Prod.mk.injEq] at hc
  have hq := (hat s).symm.trans hc.1
  simp only [DataW.lit.injEq, Lit.int.injEq, true_and] at hq
  subst hq
  exact hrun
theorem names_run {w : World} {b n : Nat} {L : List ByteArray} (h : NamesAt w b n L) (s : ByteArray) (hs : s.size ≤ 9223372036854775807) : (Instr.lookup 120 (.map (some b)) (.string s) false).run Try.prog w = .ok (.bool (seenB L s.data.toList)) w := by
  obtain ⟨D, hown, hat⟩ := h
  have hkey : keyOf Try.prog 9 (.string s) = some (.string s.data.toList) := keyOf_string_mk Try.underlying9 hs
  obtain ⟨v, ps, hrun, hv⟩ := hown.lookup law_str Try.underlying120 (zero_bool w) (plainElem_bool Try.underlying4 false) hkey
  obtain ⟨q, rfl, hc⟩ := plainElem_bool_inv Try.underlying4 hv
  simp only [Prod.mk.injEq] at hc
  have hq := (hat s.data.toList).symm.trans hc.1
  simp only [DataW.lit.injEq, Lit.bool.injEq] at hq
  subst hq
  exact hrun
theorem names_put {w : World} {b n : Nat} {L : List ByteArray} (h : NamesAt w b n L) (hn : n < maxLen) (x : ByteArray) (hs : x.size ≤ 9223372036854775807) : ∃ w', (Instr.mapUpdate 120 (.map (some b)) (.string x) (.bool true)).run Try.prog w = .ok () w' ∧ NamesAt w' b (n + 1) (L ++ [x]) ∧ w.grownBy w' (some b) := by
  obtain ⟨D, hown, hat⟩ := h
  have hD : IsMap D := by obtain ⟨es, clock, _, _, _, rfl⟩ := hown; exact ⟨_, rfl⟩
  have hkey : keyOf Try.prog 9 (.string x) = some (.string x.data.toList) := keyOf_string_mk Try.underlying9 hs
  obtain ⟨w', hrun, h1, hg⟩ := hown.update law_str Try.underlying120 hn hkey (plainElem_bool Try.underlying4 true)
  refine ⟨w', hrun, ?_, hg⟩
  show SetAt _ _ _ _ _ _ _ _
  rw [← seenB_put]
  refine ⟨_, h1, fun s' => ?_⟩
  show _ = DataW.lit (Lit.bool (if s' = x.data.toList then true else seenB L s'))
  by_cases e : s' = x.data.toList
  · subst e
    rw [if_pos rfl]
    exact atKey_put_same hD (show WideAt.IsKeyLit (Lit.string _) from trivial) _ _
  · rw [if_neg e, atKey_put_other (fun h => e (by injection h))]
    exact hat s'
theorem CntAt.put {w : World} {b n : Nat} {c : ByteArray → Int} (h : CntAt w b n c) (hn : n < maxLen) (x : ByteArray) (hs : x.size ≤ 9223372036854775807) (y : Int) (hy : (Lit.int .i64 y).wf = true) : ∃ w', (Instr.mapUpdate 119 (.map (some b)) (.string x) (.int .i64 y)).run Try.prog w = .ok () w' ∧ CntAt w' b (n + 1) (fun z => if z = x then y else c z) ∧ w.grownBy w' (some b) := by
  obtain ⟨D, hown, hat⟩ := h
  have hD : IsMap D := by obtain ⟨es, clock, _, _, _, rfl⟩ := hown; exact ⟨_, rfl⟩
  have hkey : keyOf Try.prog 9 (.string x) = some (keyB x) := keyOf_string_mk Try.underlying9 hs
  obtain ⟨w', hrun, h1, hg⟩ := hown.update law_str Try.underlying119 hn hkey (plainElem_int Try.underlying3 hy)
  refine ⟨w', hrun, ⟨_, h1, fun s' => ?_⟩, hg⟩
  show _ = DataW.lit (Lit.int .i64 (if s' = x then y else c s'))
  by_cases e : s' = x
  · subst e
    rw [if_pos rfl]
    exact atKey_put_same hD (show WideAt.IsKeyLit (Lit.string _) from trivial) _ _
  · rw [if_neg e, atKey_put_other (fun h => e (keyB_inj h))]
    exact hat s'
end Go.Proofs.Ytefoenkmppeidaa
