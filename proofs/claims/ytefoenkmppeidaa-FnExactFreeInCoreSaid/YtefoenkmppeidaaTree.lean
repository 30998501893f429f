/-
  Proved: how a type's tree lies in memory, that it stays where old memory stays, and plain facts on trees (their size is that of their parts).
-/
import Derived.Test.YtefoenkmppeidaaOwnB
import Derived.WalkKit
import Derived.WalkSpells
import Derived.WalkLawsBesides
import Derived.WalkSmall
import Derived.Lib.Hide
import Derived.BigQuiet
import Derived.Deep.QuietTactic
namespace Go.Proofs.Ytefoenkmppeidaa
open Go.RowKit

/-- A type's tree: the kind and the parts. -/
inductive Ty where
  | node (kind : Int) (args : List Ty)
mutual
def Ty.size : Ty → Nat
  | .node _ ts => 1 + Ty.sizes ts
def Ty.sizes : List Ty → Nat
  | [] => 0
  | t :: r => t.size + Ty.sizes r
end
theorem Ty.size_pos (t : Ty) : 1 ≤ t.size := by cases t; simp [Ty.size]
theorem Ty.sizes_take (ts : List Ty) : ∀ k (h : k < ts.length), Ty.sizes (ts.take (k + 1)) = Ty.sizes (ts.take k) + ts[k].size := by
  induction ts with
  | nil => intro k h; simp at h
  | cons s r ih =>
    intro k h
    cases k with
    | zero => simp [Ty.sizes]
    | succ k =>
      simp only [List.take_succ_cons, Ty.sizes, List.getElem_cons_succ]
      rw [ih k (by simpa using h)]; omega
theorem Ty.sizes_le (ts : List Ty) (k : Nat) : Ty.sizes (ts.take k) ≤ Ty.sizes ts := by
  induction ts generalizing k with
  | nil => simp
  | cons s r ih =>
    cases k with
    | zero => simp [Ty.sizes]
    | succ k => simp only [List.take_succ_cons, Ty.sizes]; have := ih k; omega
theorem Ty.size_get (ts : List Ty) (k : Nat) (h : k < ts.length) : ts[k].size ≤ Ty.sizes ts := by
  have h1 := Ty.sizes_take ts k h
  have h2 := Ty.sizes_le ts (k + 1)
  omega
theorem Ty.length_le (ts : List Ty) : ts.length ≤ Ty.sizes ts := by
  induction ts with
  | nil => simp
  | cons s r ih => simp only [List.length_cons, Ty.sizes]; have := s.size_pos; omega

/-- The slice value v reads as a row of trees, each by R. -/
def RowAt (R : Value → Ty → Prop) (w : World) (v : Value) (ts : List Ty) : Prop :=
  ∃ a cap, v = .slice a ts.length cap ∧ ts.length ≤ cap ∧ cap ≤ 9223372036854775807 ∧
    ∀ j (h : j < ts.length), ∃ b off c0 c1, a = some ⟨b, off, none⟩ ∧ b < w.heap.size ∧ w.cell? ⟨b, off + j * 2, none⟩ = some c0 ∧ w.cell? ⟨b, off + j * 2 + 1, none⟩ = some c1 ∧ R (.agg #[c0, c1]) ts[j]
/-- In the world w the value v reads as the tree t, at most d deep. -/
def TyAt (w : World) : Nat → Value → Ty → Prop
  | 0, _, _ => False
  | d + 1, v, .node k ts => ∃ sl, v = .agg #[.int .i64 k, sl] ∧ -9223372036854775808 ≤ k ∧ k ≤ 9223372036854775807 ∧ RowAt (TyAt w d) w sl ts
/-- In the world w the slice value v reads as the trees ts, each at most d deep. -/
def TysAt (w : World) (d : Nat) (v : Value) (ts : List Ty) : Prop := RowAt (TyAt w d) w v ts
theorem RowAt.imp {R S : Value → Ty → Prop} {w w' : World} {v : Value} {ts : List Ty} (hb : Below w.heap.size w w') (hRS : ∀ v t, R v t → S v t) (h : RowAt R w v ts) : RowAt S w' v ts := by
  obtain ⟨a, cap, hv, hc, hm, h⟩ := h
  refine ⟨a, cap, hv, hc, hm, fun j hj => ?_⟩
  obtain ⟨b, off, c0, c1, ha, hlt, hc0, hc1, ht⟩ := h j hj
  exact ⟨b, off, c0, c1, ha, Nat.lt_of_lt_of_le hlt hb.size, by rw [hb.cell (p := ⟨b, off + j * 2, none⟩) hlt]; exact hc0, by rw [hb.cell (p := ⟨b, off + j * 2 + 1, none⟩) hlt]; exact hc1, hRS _ _ ht⟩
theorem TyAt.below {w w' : World} (hb : Below w.heap.size w w') : ∀ {d : Nat} {v : Value} {t : Ty}, TyAt w d v t → TyAt w' d v t
  | 0, _, _, h => h.elim
  | d + 1, v, .node k ts, h => by
    obtain ⟨sl, hv, h0, h1, h⟩ := h
    exact ⟨sl, hv, h0, h1, h.imp hb fun v t h => TyAt.below hb h⟩
theorem TysAt.below {w w' : World} {d : Nat} {v : Value} {ts : List Ty} (h : TysAt w d v ts) (hb : Below w.heap.size w w') : TysAt w' d v ts :=
  RowAt.imp hb (fun _ _ h => h.below hb) h

/-- The same, with all rows of the tree in blocks from lo on. -/
def RowIn (R : Value → Ty → Prop) (w : World) (lo : Nat) (v : Value) (ts : List Ty) : Prop :=
  ∃ a cap, v = .slice a ts.length cap ∧ ts.length ≤ cap ∧ cap ≤ 9223372036854775807 ∧
    ∀ j (h : j < ts.length), ∃ b off c0 c1, a = some ⟨b, off, none⟩ ∧ lo ≤ b ∧ b < w.heap.size ∧ w.cell? ⟨b, off + j * 2, none⟩ = some c0 ∧ w.cell? ⟨b, off + j * 2 + 1, none⟩ = some c1 ∧ R (.agg #[c0, c1]) ts[j]
def TyIn (w : World) (lo : Nat) : Nat → Value → Ty → Prop
  | 0, _, _ => False
  | d + 1, v, .node k ts => ∃ sl, v = .agg #[.int .i64 k, sl] ∧ -9223372036854775808 ≤ k ∧ k ≤ 9223372036854775807 ∧ RowIn (TyIn w lo d) w lo sl ts
def TysIn (w : World) (lo d : Nat) (v : Value) (ts : List Ty) : Prop := RowIn (TyIn w lo d) w lo v ts
theorem TyIn.at_ {w : World} {lo : Nat} : ∀ {d : Nat} {v : Value} {t : Ty}, TyIn w lo d v t → TyAt w d v t
  | 0, _, _, h => h.elim
  | d + 1, v, .node k ts, h => by
    obtain ⟨sl, hv, h0, h1, a, cap, hs, hc, hm, h⟩ := h
    refine ⟨sl, hv, h0, h1, a, cap, hs, hc, hm, fun j hj => ?_⟩
    obtain ⟨b, off, c0, c1, ha, _, hlt, hc0, hc1, ht⟩ := h j hj
    exact ⟨b, off, c0, c1, ha, hlt, hc0, hc1, ht.at_⟩
theorem TysIn.at_ {w : World} {lo d : Nat} {v : Value} {ts : List Ty} (h : TysIn w lo d v ts) : TysAt w d v ts := by
  obtain ⟨a, cap, hs, hc, hm, h⟩ := h
  refine ⟨a, cap, hs, hc, hm, fun j hj => ?_⟩
  obtain ⟨b, off, c0, c1, ha, _, hlt, hc0, hc1, ht⟩ := h j hj
  exact ⟨b, off, c0, c1, ha, hlt, hc0, hc1, ht.at_⟩
/-- A tree stays where the blocks from lo on stay. -/
theorem TyIn.kept {w w' : World} {lo lo' : Nat} (hl : lo' ≤ lo) (hz : w.heap.size ≤ w'.heap.size) (hb : ∀ b, lo ≤ b → b < w.heap.size → w'.heap[b]? = w.heap[b]?) : ∀ {d : Nat} {v : Value} {t : Ty}, TyIn w lo d v t → TyIn w' lo' d v t
  | 0, _, _, h => h.elim
  | d + 1, v, .node k ts, h => by
    obtain ⟨sl, hv, h0, h1, a, cap, hs, hc, hm, h⟩ := h
    refine ⟨sl, hv, h0, h1, a, cap, hs, hc, hm, fun j hj => ?_⟩
    obtain ⟨b, off, c0, c1, ha, hlo, hlt, hc0, hc1, ht⟩ := h j hj
    exact ⟨b, off, c0, c1, ha, by omega, by omega, by rw [World.cell?_of_block (hb b hlo hlt)]; exact hc0, by rw [World.cell?_of_block (hb b hlo hlt)]; exact hc1, ht.kept hl hz hb⟩
theorem TysIn.kept {w w' : World} {lo lo' d : Nat} {v : Value} {ts : List Ty} (h : TysIn w lo d v ts) (hl : lo' ≤ lo) (hz : w.heap.size ≤ w'.heap.size) (hb : ∀ b, lo ≤ b → b < w.heap.size → w'.heap[b]? = w.heap[b]?) : TysIn w' lo' d v ts := by
  obtain ⟨a, cap, hs, hc, hm, h⟩ := h
  refine ⟨a, cap, hs, hc, hm, fun j hj => ?_⟩
  obtain ⟨b, off, c0, c1, ha, hlo, hlt, hc0, hc1, ht⟩ := h j hj
  exact ⟨b, off, c0, c1, ha, by omega, by omega, by rw [World.cell?_of_block (hb b hlo hlt)]; exact hc0, by rw [World.cell?_of_block (hb b hlo hlt)]; exact hc1, ht.kept hl hz hb⟩


/-- A box that was just laid holds its fields while only newer memory changes. -/
theorem box_cell {w wr : World} {cs : Array Value} {T : TypeId} (h : Below (w.heap.size + 1) (w.alloc (.cells cs T)) wr) (j : Nat) : wr.cell? ⟨w.heap.size, j, none⟩ = cs[j]? := by
  rw [h.cell (p := ⟨w.heap.size, j, none⟩) (Nat.lt_succ_self _)]
  exact World.cell?_alloc_mark w cs T (0, 0) j
theorem box_below {w wr : World} {o : Obj} (h : Below (w.heap.size + 1) (w.alloc o) wr) : Below w.heap.size w wr :=
  ((Below.refl _ _).alloc (Nat.le_refl _) _).trans (h.mono (Nat.le_succ _))
theorem box_next {w wr w' : World} {o : Obj} (h : Below (w.heap.size + 1) (w.alloc o) wr) (h2 : Below wr.heap.size wr w') : Below (w.heap.size + 1) (w.alloc o) w' :=
  h.trans (h2.mono (by have := h.size; simp at this; omega))
end Go.Proofs.Ytefoenkmppeidaa
