/-
  Proved: plain facts on a row of trees that a call builds by append: each tree has blocks of its own, apart from the row's.
-/
import Derived.Test.YtgoohelkgaklgaaToTyD
import Derived.Test.YtgoohelkgaklgaaHold
import Derived.Test.YtgoohelkgaklgaaPart
import Derived.Deep.AppendLies
namespace Go.Proofs.Ytgoohelkgaklgaa
open Go.RowKit

def CopyRow (w : World) (base d : Nat) (v : Value) (ts : List Ty) : Prop :=
  ∃ cs fps, w.ownsRow base 26 2 v ts.length cs ∧ fps.length = ts.length ∧ Fp base w.heap.size (List.flatten fps) ∧ (∀ g, v.ownBlock = some g → g ∉ List.flatten fps) ∧
    ∀ j (h : j < ts.length), ∃ c0 c1 f, cs[j * 2]? = some c0 ∧ cs[j * 2 + 1]? = some c1 ∧ fps[j]? = some f ∧ TyOwn w d (.agg #[c0, c1]) ts[j] f
theorem CopyRow.nil (w : World) (base d : Nat) : CopyRow w base d (.slice none 0 0) [] :=
  ⟨[], [], World.ownsRow_nil _ _ _ _, rfl, Fp.nil _ _, fun g hg => by simp, fun j hj => by simp at hj⟩
theorem flat_mem {fps : List (List Nat)} {j b : Nat} {f : List Nat} (h : fps[j]? = some f) (hb : b ∈ f) : b ∈ fps.flatten := List.mem_flatten.2 ⟨f, List.mem_of_getElem? h, hb⟩
theorem CopyRow.kept {w w' : World} {base d : Nat} {v : Value} {ts : List Ty} (h : CopyRow w base d v ts) (hz : w.heap.size ≤ w'.heap.size) (hk : ∀ b, base ≤ b → b < w.heap.size → w'.heap[b]? = w.heap[b]?) : CopyRow w' base d v ts := by
  obtain ⟨cs, fps, hown, hl, hf, hg, hat⟩ := h
  have hlt := hown.lt
  refine ⟨cs, fps, ⟨hown.1, ?_⟩, hl, hf.mono (Nat.le_refl _) hz, hg, fun j hj => ?_⟩
  · rcases hown.2 with h | ⟨g, cap, cur, rfl, r1, r2, r3⟩
    · exact Or.inl h
    · exact Or.inr ⟨g, cap, cur, rfl, r1, by rw [hk g (hlt g rfl).1 (hlt g rfl).2]; exact r2, r3⟩
  · obtain ⟨c0, c1, f, h0, h1, h2, h3⟩ := hat j hj
    exact ⟨c0, c1, f, h0, h1, h2, h3.kept hz fun b hb => by have := hf.2 b (flat_mem h2 hb); exact hk b this.1 this.2⟩
theorem CopyRow.below {w w' : World} {base d : Nat} {v : Value} {ts : List Ty} (h : CopyRow w base d v ts) (hb : Below w.heap.size w w') : CopyRow w' base d v ts :=
  h.kept hb.size fun b _ hlt => hb.block b hlt
theorem CopyRow.stored {w : World} {base d : Nat} {v : Value} {ts : List Ty} (h : CopyRow w base d v ts) {p o : Nat} (hp : p < base) (u : Value) : CopyRow (w.setCell ⟨p, o, none⟩ u) base d v ts :=
  h.kept (by simp) fun b hb _ => heap_setCell_other _ _ _ _ (by simp; omega)
theorem CopyRow.form {w : World} {base d : Nat} {v : Value} {ts : List Ty} (h : CopyRow w base d v ts) : ∃ a c, v = .slice a ts.length c := by
  obtain ⟨cs, fps, hown, _⟩ := h
  rcases hown.2 with ⟨h1, h2⟩ | ⟨g, cap, cur, h1, _⟩
  · exact ⟨none, 0, by rw [h1, h2]⟩
  · exact ⟨_, cap, h1⟩
/-- An element is appended: wr is the world ahead of the element, w' the one behind it, w1 the one behind the append. -/
theorem CopyRow.append {wr w' : World} {base d : Nat} {v z0 z1 : Value} {ts : List Ty} {t : Ty} {f : List Nat} (h : CopyRow wr base d v ts) (hb : Below wr.heap.size wr w') (hbase : base ≤ wr.heap.size)
    (ht : TyOwn w' d (.agg #[z0, z1]) t f) (hft : Fp wr.heap.size w'.heap.size f) :
    ∃ cs, w'.ownsRow base 26 2 v ts.length cs ∧ ∀ (o : Obj) (g cap : Nat) (w1 : World), w1.ownsRow base 26 2 (.slice (some ⟨g, 0, none⟩) (ts.length + 1) cap) (ts.length + 1) (cs ++ [z0, z1]) →
      (w'.alloc o).grownBy w1 v.ownBlock → (v.ownBlock = some g ∨ g = w'.heap.size + 1) → CopyRow w1 base d (.slice (some ⟨g, 0, none⟩) (ts.length + 1) cap) (ts ++ [t]) := by
  obtain ⟨cs, fps, hown, hl, hf, hg, hat⟩ := h
  have hlt := hown.lt
  have hcs : cs.length = ts.length * 2 := hown.1
  have hz := hb.size
  refine ⟨cs, own_below hown hb, fun o g cap w1 hown1 hgrow hnew => ?_⟩
  have hza : (w'.alloc o).heap.size = w'.heap.size + 1 := by simp
  have hz1 := hgrow.size
  rw [hza] at hz1
  have hkeep : ∀ b, b < w'.heap.size → v.ownBlock ≠ some b → w1.heap[b]? = w'.heap[b]? := fun b h1 h2 => by
    rw [hgrow.block b (by rw [hza]; omega) (fun e => h2 e.symm), heap_alloc_old _ _ h1]
  refine ⟨_, fps ++ [f], by simpa using hown1, by simp [hl], ?_, ?_, fun j hj => ?_⟩
  · rw [List.flatten_append, List.flatten_cons, List.flatten_nil, List.append_nil]
    exact (hf.join hft hbase hz).mono (Nat.le_refl _) (by omega)
  · intro g' hg'
    simp only [Value.ownBlock, Option.some.injEq] at hg'
    subst hg'
    rw [List.flatten_append, List.flatten_cons, List.flatten_nil, List.append_nil]
    intro hm
    rcases List.mem_append.1 hm with hm | hm
    · rcases hnew with h | h
      · exact hg _ h hm
      · have := (hf.2 _ hm).2; omega
    · rcases hnew with h | h
      · have := (hlt _ h).2; have := (hft.2 _ hm).1; omega
      · have := (hft.2 _ hm).2; omega
  · by_cases hjn : j = ts.length
    · subst hjn
      refine ⟨z0, z1, f, ?_, ?_, ?_, ?_⟩
      · rw [List.getElem?_append_right (by omega), hcs]; simp
      · rw [List.getElem?_append_right (by omega), hcs]; simp
      · rw [List.getElem?_append_right (by omega), hl]; simp
      · rw [List.getElem_append_right (by omega)]
        simp only [Nat.sub_self, List.getElem_cons_zero]
        exact ht.kept (by omega) fun b hbf => hkeep b (hft.2 b hbf).2 (fun e => by have := (hlt b e).2; have := (hft.2 b hbf).1; omega)
    · have hj2 : j < ts.length := by simp at hj; omega
      obtain ⟨c0, c1, f', h0, h1, h2, h3⟩ := hat j hj2
      refine ⟨c0, c1, f', ?_, ?_, ?_, ?_⟩
      · rw [List.getElem?_append_left (by omega)]; exact h0
      · rw [List.getElem?_append_left (by omega)]; exact h1
      · rw [List.getElem?_append_left (by omega)]; exact h2
      · rw [List.getElem_append_left hj2]
        exact (h3.below hb).kept (by omega) fun b hbf => hkeep b (by have := (hf.2 b (flat_mem h2 hbf)).2; omega) (fun e => hg b e (flat_mem h2 hbf))
/-- The row is whole: the tree with this row has blocks of its own. -/
theorem CopyRow.tree {w : World} {base d : Nat} {v : Value} {ts : List Ty} (h : CopyRow w base d v ts) (k : Int) (h0 : -9223372036854775808 ≤ k) (h1 : k ≤ 9223372036854775807) :
    ∃ fp, TyOwn w (d + 1) (.agg #[.int .i64 k, v]) (.node k ts) fp ∧ Fp base w.heap.size fp := by
  obtain ⟨cs, fps, hown, hl, hf, hg, hat⟩ := h
  have hcs : cs.length = ts.length * 2 := hown.1
  rcases hown.2 with ⟨rfl, hn⟩ | ⟨g, cap, cur, rfl, hbg, hgc, hnc, hm, hcur, htake⟩
  · have hts : ts = [] := List.eq_nil_of_length_eq_zero hn
    subst hts
    exact ⟨[], ⟨_, rfl, h0, h1, none, 0, [], [], rfl, Nat.le_refl _, by omega, rfl, rfl, (fun b hb => by cases hb), fun j hj => by simp at hj⟩, Fp.nil _ _⟩
  · have hlt := (hown.lt g rfl).2
    refine ⟨[g] ++ fps.flatten, ⟨_, rfl, h0, h1, some ⟨g, 0, none⟩, cap, [g], fps, rfl, hnc, by unfold maxLen at hm; omega, hl, rfl, fun b hb => by cases List.mem_singleton.1 hb; exact hlt, fun j hj => ?_⟩, ?_⟩
    · obtain ⟨c0, c1, f, e0, e1, e2, e3⟩ := hat j hj
      exact ⟨g, 0, c0, c1, f, rfl, rfl, hlt, by rw [Nat.zero_add, hown.cellAt (j * 2) (by omega)]; exact e0, hown.frozenAt _, by rw [Nat.zero_add, hown.cellAt (j * 2 + 1) (by omega)]; exact e1, e2, e3⟩
    · refine ⟨?_, fun b hb => ?_⟩
      · rw [List.singleton_append, List.nodup_cons]
        exact ⟨hg g rfl, hf.1⟩
      · rcases List.mem_append.1 hb with hb | hb
        · cases List.mem_singleton.1 hb; exact ⟨hbg, hlt⟩
        · exact hf.2 b hb
end Go.Proofs.Ytgoohelkgaklgaa
