/-
  Proved: laws for a map from keys to truths that a call has made and uses as a set: what a look-up finds, what a store leaves.
-/
import Derived.Maps.OwnOps
import Derived.Maps.Views
namespace Go.Proofs.Ytefoenkmppeidaa
open Go.RowKit Go.Maps

theorem plainElem_bool_inv {H : Type} {P : Program} {e : TypeId} (he : P.underlying e = some .bool) {v : Value} {z : DataW H × List MemPlace} (h : plainElem P e v = some z) : ∃ x, v = .bool x ∧ z = (.lit (.bool x), []) := by
  unfold plainElem at h
  rw [he] at h
  cases v <;> simp at h
  obtain rfl := h
  exact ⟨_, rfl, rfl⟩
/-- Block b is a map of at most n entries in which the key of s is held to be f s (false where it is absent). -/
def SetAt {α : Type} (P : Program) (K E : TypeId) (lit : α → Lit) (w : World) (b n : Nat) (f : α → Bool) : Prop :=
  ∃ D : DataW Unit, w.ownsMap P K (plainElem P E) b n D ∧ ∀ s, D.atKey (lit s) (.lit (.bool false)) = .lit (.bool (f s))
section
variable {α : Type} {P : Program} {K E : TypeId} {lit : α → Lit} {w w' : World} {b n : Nat} {f : α → Bool}
theorem SetAt.new (P : Program) (K E : TypeId) (lit : α → Lit) (w : World) : SetAt P K E lit (w.alloc (.map #[] 0)) w.heap.size 0 (fun _ => false) :=
  ⟨_, World.ownsMap_made _ _ _ _, fun _ => rfl⟩
theorem SetAt.kept (h : SetAt P K E lit w b n f) (hg : w'.heap[b]? = w.heap[b]?) : SetAt P K E lit w' b n f := by
  obtain ⟨D, ⟨es, clock, hb, F, hs, hD⟩, hat⟩ := h
  exact ⟨D, ⟨es, clock, hg.trans hb, F, hs, hD⟩, hat⟩
theorem SetAt.lt (h : SetAt P K E lit w b n f) : b < w.heap.size := by
  obtain ⟨D, ⟨es, clock, hb, _⟩, _⟩ := h
  exact (Array.getElem?_eq_some_iff.1 hb).1
theorem SetAt.below (h : SetAt P K E lit w b n f) (hb : Below w.heap.size w w') : SetAt P K E lit w' b n f :=
  h.kept (hb.block b h.lt)
theorem set_lookup {ops : Array Oper} {rest : List Oper} {o : Oper} {a : Act} {Q : Exit → Act → World → Prop} (w : World)
    (hg : o.guard = none) (m x : Operand) (t : TypeId) (hop : o.op = Op.lookup t m x false)
    (KD : Keyed P K) (ht : P.underlying t = some (.map K E)) (he : P.underlying E = some .bool) (hz : (zeroValue E).run P w = .ok (.bool false) w)
    (hm : a.eval m = .map (some b)) (hown : SetAt P K E lit w b n f) (key : Value) (s : α) (hx : a.eval x = key) (hkey : keyOf P K key = some (lit s))
    (hK : wpList P ops Q rest (a.put o.dst (.bool (f s))) w) :
    wpList P ops Q (o :: rest) a w := by
  refine wpList_plain hg fun K' hK' => ?_
  obtain ⟨D, hown, hat⟩ := hown
  obtain ⟨v, ps, hrun, hv⟩ := hown.lookup KD ht hz (plainElem_bool he false) hkey
  obtain ⟨c, rfl, hc⟩ := plainElem_bool_inv he hv
  simp only [Prod.mk.injEq] at hc
  obtain rfl : c = f s := by
    have := (hat s).symm.trans hc.1
    injection this with this
    injection this with this
    exact this.symm
  unfold Oper.wp
  simp [execOp, hop, hm, hx, hrun, Result.andThen]
  exact hK' _ _ hK
theorem set_store [DecidableEq α] {ops : Array Oper} {rest : List Oper} {o : Oper} {a : Act} {Q : Exit → Act → World → Prop} (w : World)
    (hg : o.guard = none) (m x v : Operand) (t : TypeId) (hop : o.op = Op.mapUpdate t m x v)
    (KD : Keyed P K) (ht : P.underlying t = some (.map K E)) (he : P.underlying E = some .bool)
    (hm : a.eval m = .map (some b)) (hown : SetAt P K E lit w b n f) (hn : n < maxLen) (key : Value) (s : α) (hx : a.eval x = key) (y : Bool) (hv : a.eval v = .bool y) (hkey : keyOf P K key = some (lit s))
    (inj : ∀ s', lit s' = lit s → s' = s) (hkl : WideAt.IsKeyLit (lit s))
    (hK : ∀ w', SetAt P K E lit w' b (n + 1) (fun x => if x = s then y else f x) → w.grownBy w' (some b) → wpList P ops Q rest (a.put o.dst undef) w') :
    wpList P ops Q (o :: rest) a w := by
  obtain ⟨D, hown, hat⟩ := hown
  have hD : IsMap D := by obtain ⟨es, clock, _, _, _, rfl⟩ := hown; exact ⟨_, rfl⟩
  refine wpList_mapUpdate_own w hg m x v t hop K E KD ht _ b n D hm hown hn key _ (lit s) hx hv hkey _ [] (plainElem_bool he y) fun w' h1 h2 => hK w' ⟨_, h1, fun s' => ?_⟩ h2
  show _ = DataW.lit (Lit.bool (if s' = s then y else f s'))
  by_cases e : s' = s
  · subst e
    rw [if_pos rfl]
    exact atKey_put_same hD hkl _ _
  · rw [if_neg e, atKey_put_other (fun h => e (inj _ h))]
    exact hat s'
end
end Go.Proofs.Ytefoenkmppeidaa
