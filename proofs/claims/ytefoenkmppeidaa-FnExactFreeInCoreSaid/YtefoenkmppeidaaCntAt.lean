/-
  Proved: laws for a map from texts to counts that a call has made: what a look-up finds, what a store leaves.
-/
import Derived.Test.YtefoenkmppeidaaSetGuard
import Derived.Test.YtefoenkmppeidaaFreeTake
namespace Go.Proofs.Ytefoenkmppeidaa
open Go.RowKit Go.Maps Go.WideMaps

def keyB (x : ByteArray) : Lit := Lit.string x.data.toList
theorem keyB_inj {a b : ByteArray} (h : keyB a = keyB b) : a = b := by
  have h2 : a.data.toList = b.data.toList := by injection h
  exact list_inj (by rw [ByteArray.toList_eq, ByteArray.toList_eq]; exact h2)
theorem zero_int (w : World) : (zeroValue 3).run Try.prog w = .ok (.int .i64 0) w := by kernel_rfl
/-- Block b is a map of at most n entries in which the key s is held to be c s (0 where it is absent). -/
def CntAt (w : World) (b n : Nat) (c : ByteArray → Int) : Prop :=
  ∃ D : DataW Unit, w.ownsMap Try.prog 9 (plainElem Try.prog 3) b n D ∧ ∀ s, D.atKey (keyB s) (.lit (.int .i64 0)) = .lit (.int .i64 (c s))
section
variable {w w' : World} {b n : Nat} {c : ByteArray → Int}
theorem CntAt.new (w : World) : CntAt (w.alloc (.map #[] 0)) w.heap.size 0 (fun _ => 0) :=
  ⟨_, World.ownsMap_made _ _ _ _, fun _ => rfl⟩
theorem CntAt.kept (h : CntAt w b n c) (hg : w'.heap[b]? = w.heap[b]?) : CntAt w' b n c := by
  obtain ⟨D, ⟨es, clock, hb, F, hs, hD⟩, hat⟩ := h
  exact ⟨D, ⟨es, clock, hg.trans hb, F, hs, hD⟩, hat⟩
theorem cnt_lookup {ops : Array Oper} {rest : List Oper} {o : Oper} {a : Act} {Q : Exit → Act → World → Prop} (w : World)
    (hg : o.guard = none) (m x : Operand) (hop : o.op = Op.lookup 119 m x false)
    (hm : a.eval m = .map (some b)) (hown : CntAt w b n c) (s : ByteArray) (hs : s.size ≤ 9223372036854775807) (hx : a.eval x = .string s)
    (hK : wpList Try.prog ops Q rest (a.put o.dst (.int .i64 (c s))) w) :
    wpList Try.prog ops Q (o :: rest) a w := by
  refine wpList_plain hg fun K' hK' => ?_
  obtain ⟨D, hown, hat⟩ := hown
  have hkey : keyOf Try.prog 9 (.string s) = some (keyB s) := keyOf_string_mk Try.underlying9 hs
  obtain ⟨v, ps, hrun, hv⟩ := hown.lookup law_str Try.underlying119 (zero_int w) (plainElem_int Try.underlying3 (by decide)) hkey
  obtain ⟨q, rfl, hc, _⟩ := plainElem_int_inv Try.underlying3 hv
  simp only [Prod.mk.injEq] at hc
  have hq := (hat s).symm.trans hc.1
  simp only [DataW.lit.injEq, Lit.int.injEq, true_and] at hq
  subst hq
  unfold Oper.wp
  simp [execOp, hop, hm, hx, hrun, Result.andThen]
  exact hK' _ _ hK
theorem cnt_store {ops : Array Oper} {rest : List Oper} {o : Oper} {a : Act} {Q : Exit → Act → World → Prop} (w : World)
    (hg : o.guard = none) (m x v : Operand) (hop : o.op = Op.mapUpdate 119 m x v)
    (hm : a.eval m = .map (some b)) (hown : CntAt w b n c) (hn : n < maxLen) (s : ByteArray) (hs : s.size ≤ 9223372036854775807) (hx : a.eval x = .string s) (y : Int) (hy : (Lit.int .i64 y).wf = true) (hv : a.eval v = .int .i64 y)
    (hK : ∀ w', CntAt w' b (n + 1) (fun x => if x = s then y else c x) → w.grownBy w' (some b) → wpList Try.prog ops Q rest (a.put o.dst undef) w') :
    wpList Try.prog ops Q (o :: rest) a w := by
  obtain ⟨D, hown, hat⟩ := hown
  have hD : IsMap D := by obtain ⟨es, clock, _, _, _, rfl⟩ := hown; exact ⟨_, rfl⟩
  have hkey : keyOf Try.prog 9 (.string s) = some (keyB s) := keyOf_string_mk Try.underlying9 hs
  refine wpList_mapUpdate_own w hg m x v 119 hop 9 3 law_str Try.underlying119 _ b n D hm hown hn (.string s) _ (keyB s) hx hv hkey _ [] (plainElem_int Try.underlying3 hy) fun w' h1 h2 => hK w' ⟨_, h1, fun s' => ?_⟩ h2
  show _ = DataW.lit (Lit.int .i64 (if s' = s then y else c s'))
  by_cases e : s' = s
  · subst e
    rw [if_pos rfl]
    exact atKey_put_same hD (show WideAt.IsKeyLit (Lit.string _) from trivial) _ _
  · rw [if_neg e, atKey_put_other (fun h => e (keyB_inj h))]
    exact hat s'
end
theorem cnt_bump (c : ByteArray → Int) (s : ByteArray) : (fun x => if x = s then c s + 1 else c x) = bump c s := by
  funext x
  unfold bump
  by_cases h : x = s
  · rw [if_pos h, if_pos h, h]
  · rw [if_neg h, if_neg h]
theorem cnt_back (c : ByteArray → Int) (s : ByteArray) : (fun x => if x = s then bump c s s - 1 else bump c s x) = c := by
  funext x
  unfold bump
  by_cases h : x = s
  · subst h; simp only [if_true]; omega
  · simp only [if_neg h]
/-- What a call keeps that holds two maps and a row of its own. -/
def Moves (bc bf : Nat) (w w' : World) (o o' : Value) : Prop :=
  w.heap.size ≤ w'.heap.size ∧ (∀ k, k < w.heap.size → k ≠ bc → k ≠ bf → o.ownBlock ≠ some k → w'.heap[k]? = w.heap[k]?) ∧ ∀ k, o'.ownBlock = some k → o.ownBlock = some k ∨ w.heap.size ≤ k
theorem Moves.refl (bc bf : Nat) (w : World) (o : Value) : Moves bc bf w w o o := ⟨Nat.le_refl _, fun _ _ _ _ _ => rfl, fun _ h => Or.inl h⟩
theorem Moves.trans {bc bf : Nat} {w w1 w2 : World} {o o1 o2 : Value} (h : Moves bc bf w w1 o o1) (g : Moves bc bf w1 w2 o1 o2) : Moves bc bf w w2 o o2 := by
  obtain ⟨h1, h2, h3⟩ := h
  obtain ⟨g1, g2, g3⟩ := g
  refine ⟨Nat.le_trans h1 g1, fun k k1 k2 k3 k4 => ?_, fun k hk => ?_⟩
  · rw [g2 k (by omega) k2 k3 (fun e => by rcases h3 k e with e | e; exact k4 e; omega)]
    exact h2 k k1 k2 k3 k4
  · rcases g3 k hk with e | e
    · exact h3 k e
    · exact Or.inr (by omega)
theorem Moves.alloc (bc bf : Nat) (w : World) (x : Obj) (o : Value) : Moves bc bf w (w.alloc x) o o :=
  ⟨by simp, fun k hk _ _ _ => heap_alloc_old w x hk, fun _ h => Or.inl h⟩
theorem Moves.grown {bc bf : Nat} {w w' : World} {o : Value} {p : Nat} (hp : p = bc ∨ p = bf) (h : w.grownBy w' (some p)) : Moves bc bf w w' o o :=
  ⟨h.size, fun k k1 k2 k3 _ => h.block k k1 (fun e => by injection e with e; omega), fun _ h => Or.inl h⟩
theorem Moves.added {bc bf : Nat} {w w' : World} {o o' : Value} (h : w.grownBy w' o.ownBlock) (ho : o'.ownBlock = o.ownBlock ∨ o'.ownBlock = some w.heap.size) : Moves bc bf w w' o o' :=
  ⟨h.size, fun k k1 _ _ k4 => h.block k k1 (fun e => k4 e.symm), fun k hk => by rcases ho with e | e; exact Or.inl (e ▸ hk); rw [e] at hk; injection hk with hk; exact Or.inr (by omega)⟩
/-- The state of a collection: the old memory, the row, the two maps. -/
def FreeSt (w0 : World) (bc bf : Nat) (w : World) (o : Value) (L : List ByteArray) (c : ByteArray → Int) (nc : Nat) : Prop :=
  Below w0.heap.size w0 w ∧ w.ownsRow (bf + 1) 9 1 o L.length (L.map Value.string) ∧ CntAt w bc nc c ∧ NamesAt w bf L.length L ∧ w0.heap.size ≤ bc ∧ bc < bf ∧ bf < w.heap.size
section
variable {w0 w w' : World} {bc bf nc : Nat} {o : Value} {L : List ByteArray} {c : ByteArray → Int}
theorem FreeSt.alloc (h : FreeSt w0 bc bf w o L c nc) (x : Obj) : FreeSt w0 bc bf (w.alloc x) o L c nc := by
  obtain ⟨h1, h2, h3, h4, h5, h6, h7⟩ := h
  exact ⟨h1.alloc h1.size _, h2.alloc _, h3.kept (heap_alloc_old w x (by omega)), SetAt.kept h4 (heap_alloc_old w x h7), h5, h6, by simp; omega⟩
theorem FreeSt.own_ne (h : FreeSt w0 bc bf w o L c nc) : o.ownBlock ≠ some bc ∧ o.ownBlock ≠ some bf := by
  obtain ⟨h1, h2, h3, h4, h5, h6, h7⟩ := h
  exact ⟨fun e => by have := (h2.lt _ e).1; omega, fun e => by have := (h2.lt _ e).1; omega⟩
theorem FreeSt.counted (h : FreeSt w0 bc bf w o L c nc) {c' : ByteArray → Int} {n' : Nat} (hc : CntAt w' bc n' c') (hg : w.grownBy w' (some bc)) : FreeSt w0 bc bf w' o L c' n' := by
  have hne := h.own_ne
  obtain ⟨h1, h2, h3, h4, h5, h6, h7⟩ := h
  refine ⟨h1.grown hg h1.size (fun k hk => by injection hk with hk; omega), h2.kept hg (Or.inr hne.1), hc, SetAt.kept h4 (hg.block bf h7 (fun e => by injection e with e; omega)), h5, h6, Nat.lt_of_lt_of_le h7 hg.size⟩
theorem box_at_heap {w wr : World} {cs : Array Value} {T : TypeId} (h : wr.heap[w.heap.size]? = (w.alloc (.cells cs T)).heap[w.heap.size]?) (j : Nat) : wr.cell? ⟨w.heap.size, j, none⟩ = cs[j]? :=
  (World.cell?_of_block (a := ⟨w.heap.size, j, none⟩) h).trans (box_cell (Below.refl _ _) j)
theorem FreeSt.box {w wr : World} {bx : Obj} {o o1 : Value} (h : FreeSt w0 bc bf w o L c nc) (hm : Moves bc bf (w.alloc bx) wr o o1) : wr.heap[w.heap.size]? = (w.alloc bx).heap[w.heap.size]? := by
  obtain ⟨h1, h2, h3, h4, h5, h6, h7⟩ := h
  exact hm.2.1 _ (by simp) (by omega) (by omega) (fun e => by have := (h2.lt _ e).2; omega)
end
end Go.Proofs.Ytefoenkmppeidaa
