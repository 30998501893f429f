/-
  Proved: laws for a map from keys to truths used as a set, within a loop over a function's values: what a look-up finds, what a store leaves.
-/
import Derived.Test.YtpioddfihaabdaaSetAt
import Derived.Maps.OwnIn
namespace Go.Proofs.Ytpioddfihaabdaa
open Go.RowKit Go.Maps

section
variable {α : Type} {P : Program} {K E : TypeId} {lit : α → Lit} {w w' : World} {b n : Nat} {f : α → Bool} {F : Fence} {nF : Nat}
theorem setIn_lookup {ops : Array Oper} {rest : List Oper} {o : Oper} {a : Act} {Q : Exit → Act → World → Prop} (w : World)
    (hg : o.guard = none) (m x : Operand) (t : TypeId) (hop : o.op = Op.lookup t m x false)
    (KD : Keyed P K) (ht : P.underlying t = some (.map K E)) (he : P.underlying E = some .bool) (hz : (zeroValue E).run P w = .ok (.bool false) w)
    (hm : a.eval m = .map (some b)) (hown : SetAt P K E lit w b n f) (key : Value) (s : α) (hx : a.eval x = key) (hkey : keyOf P K key = some (lit s))
    (hK : wpListIn F nF P ops Q rest (a.put o.dst (.bool (f s))) w) :
    wpListIn F nF P ops Q (o :: rest) a w := by
  refine wpListIn_plain hg fun K' hK' => ?_
  obtain ⟨D, hown, hat⟩ := hown
  obtain ⟨v, ps, hrun, hv⟩ := hown.lookup KD ht hz (plainElem_bool he false) hkey
  obtain ⟨c, rfl, hc⟩ := plainElem_bool_inv he hv
  simp only [Prod.mk.injEq] at hc
  obtain rfl : c = f s := by
    have := (hat s).symm.trans hc.1
    injection this with this
    injection this with this
    exact this.symm
  unfold Oper.wpIn
  refine ⟨by simp [Oper.about, hop], ?_⟩
  rw [Oper.semAt_plain F _ _ (by rw [hop]; intro c hc'; cases hc')]
  simp [execOp, hop, hm, hx, hrun, Result.andThen]
  exact hK' _ _ hK
theorem setIn_store [DecidableEq α] {ops : Array Oper} {rest : List Oper} {o : Oper} {a : Act} {Q : Exit → Act → World → Prop} (w : World)
    (hg : o.guard = none) (m x v : Operand) (t : TypeId) (hop : o.op = Op.mapUpdate t m x v)
    (KD : Keyed P K) (ht : P.underlying t = some (.map K E)) (he : P.underlying E = some .bool)
    (hm : a.eval m = .map (some b)) (hown : SetAt P K E lit w b n f) (hn : n < maxLen) (key : Value) (s : α) (hx : a.eval x = key) (y : Bool) (hv : a.eval v = .bool y) (hkey : keyOf P K key = some (lit s))
    (inj : ∀ s', lit s' = lit s → s' = s) (hkl : WideAt.IsKeyLit (lit s))
    (hK : ∀ w', SetAt P K E lit w' b (n + 1) (fun x => if x = s then y else f x) → w.grownBy w' (some b) → wpListIn F nF P ops Q rest (a.put o.dst undef) w') :
    wpListIn F nF P ops Q (o :: rest) a w := by
  obtain ⟨D, hown, hat⟩ := hown
  have hD : IsMap D := by obtain ⟨es, clock, _, _, _, rfl⟩ := hown; exact ⟨_, rfl⟩
  refine wpListIn_mapUpdate_own w hg m x v t hop K E KD ht _ b n D hm hown hn key _ (lit s) hx hv hkey _ [] (plainElem_bool he y) fun w' h1 h2 => hK w' ⟨_, h1, fun s' => ?_⟩ h2
  show _ = DataW.lit (Lit.bool (if s' = s then y else f s'))
  by_cases e : s' = s
  · subst e
    rw [if_pos rfl]
    exact atKey_put_same hD hkl _ _
  · rw [if_neg e, atKey_put_other (fun h => e (inj _ h))]
    exact hat s'
theorem SetAt.more {m : Nat} (h : SetAt P K E lit w b n f) (hm : n ≤ m) : SetAt P K E lit w b m f := by
  obtain ⟨D, ⟨es, clock, hb, F, hs, hD⟩, hat⟩ := h
  exact ⟨D, ⟨es, clock, hb, F, Nat.le_trans hs hm, hD⟩, hat⟩
theorem set_run (hown : SetAt P K E lit w b n f) (t : TypeId) (KD : Keyed P K) (ht : P.underlying t = some (.map K E)) (he : P.underlying E = some .bool) (hz : (zeroValue E).run P w = .ok (.bool false) w)
    (key : Value) (s : α) (hkey : keyOf P K key = some (lit s)) : (Instr.lookup t (.map (some b)) key false).run P w = .ok (.bool (f s)) w := by
  obtain ⟨D, hown, hat⟩ := hown
  obtain ⟨v, ps, hrun, hv⟩ := hown.lookup KD ht hz (plainElem_bool he false) hkey
  obtain ⟨c, rfl, hc⟩ := plainElem_bool_inv he hv
  simp only [Prod.mk.injEq] at hc
  obtain rfl : c = f s := by
    have := (hat s).symm.trans hc.1
    injection this with this
    injection this with this
    exact this.symm
  exact hrun
theorem set_update [DecidableEq α] (hown : SetAt P K E lit w b n f) (hn : n < maxLen) (t : TypeId) (KD : Keyed P K) (ht : P.underlying t = some (.map K E)) (he : P.underlying E = some .bool)
    (key : Value) (s : α) (y : Bool) (hkey : keyOf P K key = some (lit s)) (inj : ∀ s', lit s' = lit s → s' = s) (hkl : WideAt.IsKeyLit (lit s)) :
    ∃ w', (Instr.mapUpdate t (.map (some b)) key (.bool y)).run P w = .ok () w' ∧ SetAt P K E lit w' b (n + 1) (fun x => if x = s then y else f x) ∧ w.grownBy w' (some b) := by
  obtain ⟨D, hown, hat⟩ := hown
  have hD : IsMap D := by obtain ⟨es, clock, _, _, _, rfl⟩ := hown; exact ⟨_, rfl⟩
  obtain ⟨w', hrun, r1, r2⟩ := hown.update KD ht hn hkey (plainElem_bool he y)
  refine ⟨w', hrun, ⟨_, r1, fun s' => ?_⟩, r2⟩
  show _ = DataW.lit (Lit.bool (if s' = s then y else f s'))
  by_cases e : s' = s
  · subst e
    rw [if_pos rfl]
    exact atKey_put_same hD hkl _ _
  · rw [if_neg e, atKey_put_other (fun h => e (inj _ h))]
    exact hat s'
end
end Go.Proofs.Ytpioddfihaabdaa
