/-
  Proved: the state of a search for free variables (a struct with a row of texts and two maps, in blocks of its own) and what keeps it.
-/
import Derived.Test.YtefoenkmppeidaaLookRun
import Derived.Test.YtefoenkmppeidaaGrown
import Derived.Test.YtefoenkmppeidaaSpecUniteS
import Derived.Test.YtefoenkmppeidaaCoEq
namespace Go.Proofs.Ytefoenkmppeidaa
open Go.RowKit Go.Maps Go.WideMaps

theorem own_slice9 {w : World} {B : Nat} {e : TypeId} {size : Nat} {v : Value} {n : Nat} {xs : List Value} (h : w.ownsRow B e size v n xs) : ∃ a cap, v = .slice a n cap := by
  rcases h.2 with ⟨rfl, hn⟩ | ⟨g, cap, cur, rfl, _⟩
  · exact ⟨none, 0, by rw [hn]⟩
  · exact ⟨_, _, rfl⟩
/-- The state: the old memory w0, the struct at s with the row o of the texts L, the counts c at bc, the set of L at bf. -/
def LookSt (w0 : World) (s bc bf : Nat) (w : World) (o : Value) (L : List ByteArray) (c : ByteArray → Int) (nc : Nat) : Prop :=
  Below w0.heap.size w0 w ∧ (w0.heap.size ≤ bc ∧ bc < bf ∧ bf < s ∧ s < w.heap.size) ∧ (w.cell? ⟨s, 0, none⟩ = some o ∧ w.cell? ⟨s, 1, none⟩ = some (.map (some bc)) ∧ w.cell? ⟨s, 2, none⟩ = some (.map (some bf)) ∧ w.frozen? ⟨s, 0, none⟩ = false) ∧
    w.ownsRow (s + 1) 9 1 o L.length (L.map Value.string) ∧ CntAt w bc nc c ∧ NamesAt w bf L.length L
section
variable {w0 w w' : World} {s bc bf nc : Nat} {o : Value} {L : List ByteArray} {c : ByteArray → Int}
theorem LookSt.below (h : LookSt w0 s bc bf w o L c nc) (hb : Below w.heap.size w w') : LookSt w0 s bc bf w' o L c nc := by
  obtain ⟨h1, ⟨l1, l2, l3, l4⟩, ⟨c0, c1, c2, f0⟩, ho, hc, hn⟩ := h
  exact ⟨below_thru h1 (Nat.le_refl _) hb, ⟨l1, l2, l3, Nat.lt_of_lt_of_le l4 hb.size⟩, ⟨(hb.cell (p := ⟨s, 0, none⟩) l4).trans c0, (hb.cell (p := ⟨s, 1, none⟩) l4).trans c1, (hb.cell (p := ⟨s, 2, none⟩) l4).trans c2, (hb.frozen (p := ⟨s, 0, none⟩) l4).trans f0⟩, row_below ho hb, hc.kept (hb.block bc (by omega)), SetAt.kept hn (hb.block bf (by omega))⟩
theorem LookSt.counted (h : LookSt w0 s bc bf w o L c nc) {c' : ByteArray → Int} {n' : Nat} (hc' : CntAt w' bc n' c') (hg : w.grownBy w' (some bc)) : LookSt w0 s bc bf w' o L c' n' := by
  obtain ⟨h1, ⟨l1, l2, l3, l4⟩, ⟨c0, c1, c2, f0⟩, ho, hc, hn⟩ := h
  have hk : w'.heap[s]? = w.heap[s]? := hg.block s l4 (fun e => by injection e with e; omega)
  exact ⟨h1.grown hg h1.size (fun k hk => by injection hk with hk; omega), ⟨l1, l2, l3, Nat.lt_of_lt_of_le l4 hg.size⟩, ⟨(World.cell?_of_block (a := ⟨s, 0, none⟩) hk).trans c0, (World.cell?_of_block (a := ⟨s, 1, none⟩) hk).trans c1, (World.cell?_of_block (a := ⟨s, 2, none⟩) hk).trans c2, (World.frozen?_of_block (a := ⟨s, 0, none⟩) hk).trans f0⟩,
    ho.kept hg (Or.inr (fun e => by have := (ho.lt _ e).1; omega)), hc', SetAt.kept hn (hg.block bf (by omega) (fun e => by injection e with e; omega))⟩
/-- The state behind the note that a text is found, before the row holds it. -/
def LookMid (w0 : World) (s bc bf : Nat) (w : World) (o : Value) (L : List ByteArray) (c : ByteArray → Int) (nc : Nat) (nm : ByteArray) : Prop :=
  Below w0.heap.size w0 w ∧ (w0.heap.size ≤ bc ∧ bc < bf ∧ bf < s ∧ s < w.heap.size) ∧ (w.cell? ⟨s, 0, none⟩ = some o ∧ w.cell? ⟨s, 1, none⟩ = some (.map (some bc)) ∧ w.cell? ⟨s, 2, none⟩ = some (.map (some bf)) ∧ w.frozen? ⟨s, 0, none⟩ = false) ∧
    w.ownsRow (s + 1) 9 1 o L.length (L.map Value.string) ∧ CntAt w bc nc c ∧ NamesAt w bf (L.length + 1) (L ++ [nm])
theorem LookSt.mid (h : LookSt w0 s bc bf w o L c nc) {nm : ByteArray} (hn' : NamesAt w' bf (L.length + 1) (L ++ [nm])) (hg : w.grownBy w' (some bf)) : LookMid w0 s bc bf w' o L c nc nm := by
  obtain ⟨h1, ⟨l1, l2, l3, l4⟩, ⟨c0, c1, c2, f0⟩, ho, hc, hn⟩ := h
  have hk : w'.heap[s]? = w.heap[s]? := hg.block s l4 (fun e => by injection e with e; omega)
  exact ⟨h1.grown hg h1.size (fun k hk => by injection hk with hk; omega), ⟨l1, l2, l3, Nat.lt_of_lt_of_le l4 hg.size⟩, ⟨(World.cell?_of_block (a := ⟨s, 0, none⟩) hk).trans c0, (World.cell?_of_block (a := ⟨s, 1, none⟩) hk).trans c1, (World.cell?_of_block (a := ⟨s, 2, none⟩) hk).trans c2, (World.frozen?_of_block (a := ⟨s, 0, none⟩) hk).trans f0⟩,
    ho.kept hg (Or.inr (fun e => by have := (ho.lt _ e).1; omega)), hc.kept (hg.block bc (by omega) (fun e => by injection e with e; omega)), hn'⟩
theorem LookMid.added {w2 : World} {v2 : Value} {nm : ByteArray} {x : Obj} (h : LookMid w0 s bc bf w o L c nc nm) (hg : (w.drew.alloc x).grownBy w2 o.ownBlock) (hv : w2.ownsRow (s + 1) 9 1 v2 (L.length + 1) (L.map Value.string ++ [Value.string nm])) : LookSt w0 s bc bf (w2.setCell ⟨s, 0, none⟩ v2) v2 (L ++ [nm]) c nc := by
  obtain ⟨h1, ⟨l1, l2, l3, l4⟩, ⟨c0, c1, c2, f0⟩, ho, hc, hn⟩ := h
  have hz := hg.size
  simp only [World.size_alloc, World.size_drew] at hz
  have hown : ∀ k, k ≤ s → o.ownBlock ≠ some k := fun k hk e => by have := (ho.lt _ e).1; omega
  have hk : ∀ k, k ≤ s → w2.heap[k]? = w.heap[k]? := fun k hk => by
    rw [hg.block k (by simp; omega) (fun e => hown k hk e.symm), heap_alloc_old _ _ (by simp; omega)]
    rfl
  have hj : ∀ k, k < s → (w2.setCell ⟨s, 0, none⟩ v2).heap[k]? = w.heap[k]? := fun k hk1 => by
    rw [heap_setCell_other _ _ _ _ (by simp; omega)]
    exact hk k (by omega)
  have hks := hk s (Nat.le_refl _)
  have d0 : w2.cell? ⟨s, 0, none⟩ = some o := (World.cell?_of_block (a := ⟨s, 0, none⟩) hks).trans c0
  have d1 : w2.cell? ⟨s, 1, none⟩ = some (.map (some bc)) := (World.cell?_of_block (a := ⟨s, 1, none⟩) hks).trans c1
  have d2 : w2.cell? ⟨s, 2, none⟩ = some (.map (some bf)) := (World.cell?_of_block (a := ⟨s, 2, none⟩) hks).trans c2
  have df : w2.frozen? ⟨s, 0, none⟩ = false := (World.frozen?_of_block (a := ⟨s, 0, none⟩) hks).trans f0
  refine ⟨?_, ⟨l1, l2, l3, by simp; omega⟩, ⟨?_, ?_, ?_, ?_⟩, ?_, ?_, ?_⟩
  · have hb1 : Below w0.heap.size w0 w2 := ((h1.drew).alloc (by simpa using h1.size) _).grown hg (by have := h1.size; simp; omega) (fun k hk => by have := (ho.lt k hk).1; omega)
    exact hb1.setCell (by simp; omega) _
  · exact World.cell?_setCell_same _ _ _ d0
  · rw [World.cell?_setCell_other _ _ _ _ (by simp)]; exact d1
  · rw [World.cell?_setCell_other _ _ _ _ (by simp)]; exact d2
  · rw [World.frozen?_setCell]; exact df
  · have : w2.ownsRow (s + 1) 9 1 v2 (L ++ [nm]).length ((L ++ [nm]).map Value.string) := by simpa using hv
    exact srow_keeps this fun k hk => heap_setCell_other _ _ _ _ (by have := (this.lt k hk).1; simp; omega)
  · exact hc.kept (hj bc (by omega))
  · have : (L ++ [nm]).length = L.length + 1 := by simp
    rw [this]
    exact SetAt.kept hn (hj bf (by omega))
end
end Go.Proofs.Ytefoenkmppeidaa
