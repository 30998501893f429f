/-
  Proved: plain facts on typings whose rows lie in blocks of their own.
-/
import Derived.Test.YteffjeejbdjjpaaGreatDoorProg
import Derived.WalkKit
import Derived.WalkSpells
import Derived.WalkLawsBesides
import Derived.WalkSmall
import Derived.Lib.Hide
import Derived.BigQuiet
import Derived.Deep.QuietTactic
/-
  Proved: what is owned stays owned where no old block has changed; an address moved on.
-/
namespace Go.Proofs.YteffjeejbdjjpaaGreatDoor
open Go.RowKit

theorem addr_add (g o j : Nat) : (⟨g, o, none⟩ : Addr).add j = ⟨g, o + j, none⟩ := by
  unfold Addr.add; split <;> simp_all
/-- What is owned stays owned where no old block has changed. -/
theorem own_below {w w' : World} {B : Nat} {e : TypeId} {size : Nat} {v : Value} {n : Nat} {xs : List Value} (h : w.ownsRow B e size v n xs) (hb : Below w.heap.size w w') : w'.ownsRow B e size v n xs := by
  have hlt := h.lt
  refine ⟨h.1, ?_⟩
  rcases h.2 with h | ⟨g, cap, cur, rfl, r1, r2, r3⟩
  · exact Or.inl h
  · exact Or.inr ⟨g, cap, cur, rfl, r1, by rw [hb.block g (hlt g rfl).2]; exact r2, r3⟩
end Go.Proofs.YteffjeejbdjjpaaGreatDoor
/-
  Proved: how a type's tree lies in memory, that it stays where old memory stays, and plain facts on trees (their size is that of their parts).
-/
namespace Go.Proofs.YteffjeejbdjjpaaGreatDoor
open Go.RowKit

/-- A type's tree: the kind and the parts. -/
inductive Ty where
  | node (kind : Int) (args : List Ty)
mutual
def Ty.size : Ty → Nat
  | .node _ ts => 1 + Ty.sizes ts
def Ty.sizes : List Ty → Nat
  | [] => 0
  | t :: r => t.size + Ty.sizes r
end
theorem Ty.size_pos (t : Ty) : 1 ≤ t.size := by cases t; simp [Ty.size]
theorem Ty.sizes_take (ts : List Ty) : ∀ k (h : k < ts.length), Ty.sizes (ts.take (k + 1)) = Ty.sizes (ts.take k) + ts[k].size := by
  induction ts with
  | nil => intro k h; simp at h
  | cons s r ih =>
    intro k h
    cases k with
    | zero => simp [Ty.sizes]
    | succ k =>
      simp only [List.take_succ_cons, Ty.sizes, List.getElem_cons_succ]
      rw [ih k (by simpa using h)]; omega
theorem Ty.sizes_le (ts : List Ty) (k : Nat) : Ty.sizes (ts.take k) ≤ Ty.sizes ts := by
  induction ts generalizing k with
  | nil => simp
  | cons s r ih =>
    cases k with
    | zero => simp [Ty.sizes]
    | succ k => simp only [List.take_succ_cons, Ty.sizes]; have := ih k; omega
theorem Ty.size_get (ts : List Ty) (k : Nat) (h : k < ts.length) : ts[k].size ≤ Ty.sizes ts := by
  have h1 := Ty.sizes_take ts k h
  have h2 := Ty.sizes_le ts (k + 1)
  omega
theorem Ty.length_le (ts : List Ty) : ts.length ≤ Ty.sizes ts := by
  induction ts with
  | nil => simp
  | cons s r ih => simp only [List.length_cons, Ty.sizes]; have := s.size_pos; omega

/-- The slice value v reads as a row of trees, each by R. -/
def RowAt (R : Value → Ty → Prop) (w : World) (v : Value) (ts : List Ty) : Prop :=
  ∃ a cap, v = .slice a ts.length cap ∧ ts.length ≤ cap ∧ cap ≤ 9223372036854775807 ∧
    ∀ j (h : j < ts.length), ∃ b off c0 c1, a = some ⟨b, off, none⟩ ∧ b < w.heap.size ∧ w.cell? ⟨b, off + j * 2, none⟩ = some c0 ∧ w.cell? ⟨b, off + j * 2 + 1, none⟩ = some c1 ∧ R (.agg #[c0, c1]) ts[j]
/-- In the world w the value v reads as the tree t, at most d deep. -/
def TyAt (w : World) : Nat → Value → Ty → Prop
  | 0, _, _ => False
  | d + 1, v, .node k ts => ∃ sl, v = .agg #[.int .i64 k, sl] ∧ -9223372036854775808 ≤ k ∧ k ≤ 9223372036854775807 ∧ RowAt (TyAt w d) w sl ts
/-- In the world w the slice value v reads as the trees ts, each at most d deep. -/
def TysAt (w : World) (d : Nat) (v : Value) (ts : List Ty) : Prop := RowAt (TyAt w d) w v ts
theorem RowAt.imp {R S : Value → Ty → Prop} {w w' : World} {v : Value} {ts : List Ty} (hb : Below w.heap.size w w') (hRS : ∀ v t, R v t → S v t) (h : RowAt R w v ts) : RowAt S w' v ts := by
  obtain ⟨a, cap, hv, hc, hm, h⟩ := h
  refine ⟨a, cap, hv, hc, hm, fun j hj => ?_⟩
  obtain ⟨b, off, c0, c1, ha, hlt, hc0, hc1, ht⟩ := h j hj
  exact ⟨b, off, c0, c1, ha, Nat.lt_of_lt_of_le hlt hb.size, by rw [hb.cell (p := ⟨b, off + j * 2, none⟩) hlt]; exact hc0, by rw [hb.cell (p := ⟨b, off + j * 2 + 1, none⟩) hlt]; exact hc1, hRS _ _ ht⟩
theorem TyAt.below {w w' : World} (hb : Below w.heap.size w w') : ∀ {d : Nat} {v : Value} {t : Ty}, TyAt w d v t → TyAt w' d v t
  | 0, _, _, h => h.elim
  | d + 1, v, .node k ts, h => by
    obtain ⟨sl, hv, h0, h1, h⟩ := h
    exact ⟨sl, hv, h0, h1, h.imp hb fun v t h => TyAt.below hb h⟩
theorem TysAt.below {w w' : World} {d : Nat} {v : Value} {ts : List Ty} (h : TysAt w d v ts) (hb : Below w.heap.size w w') : TysAt w' d v ts :=
  RowAt.imp hb (fun _ _ h => h.below hb) h

/-- The same, with all rows of the tree in blocks from lo on. -/
def RowIn (R : Value → Ty → Prop) (w : World) (lo : Nat) (v : Value) (ts : List Ty) : Prop :=
  ∃ a cap, v = .slice a ts.length cap ∧ ts.length ≤ cap ∧ cap ≤ 9223372036854775807 ∧
    ∀ j (h : j < ts.length), ∃ b off c0 c1, a = some ⟨b, off, none⟩ ∧ lo ≤ b ∧ b < w.heap.size ∧ w.cell? ⟨b, off + j * 2, none⟩ = some c0 ∧ w.cell? ⟨b, off + j * 2 + 1, none⟩ = some c1 ∧ R (.agg #[c0, c1]) ts[j]
def TyIn (w : World) (lo : Nat) : Nat → Value → Ty → Prop
  | 0, _, _ => False
  | d + 1, v, .node k ts => ∃ sl, v = .agg #[.int .i64 k, sl] ∧ -9223372036854775808 ≤ k ∧ k ≤ 9223372036854775807 ∧ RowIn (TyIn w lo d) w lo sl ts
def TysIn (w : World) (lo d : Nat) (v : Value) (ts : List Ty) : Prop := RowIn (TyIn w lo d) w lo v ts
theorem TyIn.at_ {w : World} {lo : Nat} : ∀ {d : Nat} {v : Value} {t : Ty}, TyIn w lo d v t → TyAt w d v t
  | 0, _, _, h => h.elim
  | d + 1, v, .node k ts, h => by
    obtain ⟨sl, hv, h0, h1, a, cap, hs, hc, hm, h⟩ := h
    refine ⟨sl, hv, h0, h1, a, cap, hs, hc, hm, fun j hj => ?_⟩
    obtain ⟨b, off, c0, c1, ha, _, hlt, hc0, hc1, ht⟩ := h j hj
    exact ⟨b, off, c0, c1, ha, hlt, hc0, hc1, ht.at_⟩
theorem TysIn.at_ {w : World} {lo d : Nat} {v : Value} {ts : List Ty} (h : TysIn w lo d v ts) : TysAt w d v ts := by
  obtain ⟨a, cap, hs, hc, hm, h⟩ := h
  refine ⟨a, cap, hs, hc, hm, fun j hj => ?_⟩
  obtain ⟨b, off, c0, c1, ha, _, hlt, hc0, hc1, ht⟩ := h j hj
  exact ⟨b, off, c0, c1, ha, hlt, hc0, hc1, ht.at_⟩
/-- A tree stays where the blocks from lo on stay. -/
theorem TyIn.kept {w w' : World} {lo lo' : Nat} (hl : lo' ≤ lo) (hz : w.heap.size ≤ w'.heap.size) (hb : ∀ b, lo ≤ b → b < w.heap.size → w'.heap[b]? = w.heap[b]?) : ∀ {d : Nat} {v : Value} {t : Ty}, TyIn w lo d v t → TyIn w' lo' d v t
  | 0, _, _, h => h.elim
  | d + 1, v, .node k ts, h => by
    obtain ⟨sl, hv, h0, h1, a, cap, hs, hc, hm, h⟩ := h
    refine ⟨sl, hv, h0, h1, a, cap, hs, hc, hm, fun j hj => ?_⟩
    obtain ⟨b, off, c0, c1, ha, hlo, hlt, hc0, hc1, ht⟩ := h j hj
    exact ⟨b, off, c0, c1, ha, by omega, by omega, by rw [World.cell?_of_block (hb b hlo hlt)]; exact hc0, by rw [World.cell?_of_block (hb b hlo hlt)]; exact hc1, ht.kept hl hz hb⟩
theorem TysIn.kept {w w' : World} {lo lo' d : Nat} {v : Value} {ts : List Ty} (h : TysIn w lo d v ts) (hl : lo' ≤ lo) (hz : w.heap.size ≤ w'.heap.size) (hb : ∀ b, lo ≤ b → b < w.heap.size → w'.heap[b]? = w.heap[b]?) : TysIn w' lo' d v ts := by
  obtain ⟨a, cap, hs, hc, hm, h⟩ := h
  refine ⟨a, cap, hs, hc, hm, fun j hj => ?_⟩
  obtain ⟨b, off, c0, c1, ha, hlo, hlt, hc0, hc1, ht⟩ := h j hj
  exact ⟨b, off, c0, c1, ha, by omega, by omega, by rw [World.cell?_of_block (hb b hlo hlt)]; exact hc0, by rw [World.cell?_of_block (hb b hlo hlt)]; exact hc1, ht.kept hl hz hb⟩


/-- A box that was just laid holds its fields while only newer memory changes. -/
theorem box_cell {w wr : World} {cs : Array Value} {T : TypeId} (h : Below (w.heap.size + 1) (w.alloc (.cells cs T)) wr) (j : Nat) : wr.cell? ⟨w.heap.size, j, none⟩ = cs[j]? := by
  rw [h.cell (p := ⟨w.heap.size, j, none⟩) (Nat.lt_succ_self _)]
  exact World.cell?_alloc_mark w cs T (0, 0) j
theorem box_below {w wr : World} {o : Obj} (h : Below (w.heap.size + 1) (w.alloc o) wr) : Below w.heap.size w wr :=
  ((Below.refl _ _).alloc (Nat.le_refl _) _).trans (h.mono (Nat.le_succ _))
theorem box_next {w wr w' : World} {o : Obj} (h : Below (w.heap.size + 1) (w.alloc o) wr) (h2 : Below wr.heap.size wr w') : Below (w.heap.size + 1) (w.alloc o) w' :=
  h.trans (h2.mono (by have := h.size; simp at this; omega))
end Go.Proofs.YteffjeejbdjjpaaGreatDoor
/-
  Proved: spec.l1Max gives the greater of two numbers; the memory that was there stays as it was.
-/
namespace Go.Proofs.YteffjeejbdjjpaaGreatDoor
open Go.RowKit

set_option maxRecDepth 100000 in
set_option maxHeartbeats 1000000 in
theorem specMax (a b : Int) (w : World) : Calls Tryz.prog 98 #[.int .i64 a, .int .i64 b] w fun e w' => e = .returned (.int .i64 (max a b)) ∧ w' = w := by
  by_cases h : b < a
  · go_enter Tryz.func98, Tryz.ntmps98
    go_wp2_with fail
    go_ret
    exact ⟨by rw [Int.max_eq_left (by omega)]; rfl, rfl⟩
  · go_enter Tryz.func98, Tryz.ntmps98
    go_wp2_with fail
    go_ret
    exact ⟨by rw [Int.max_eq_right (by omega)]; rfl, rfl⟩

end Go.Proofs.YteffjeejbdjjpaaGreatDoor
/-
  Proved: plain facts on trees whose rows lie each in a block of its own (the list of those blocks goes along), free to be written.
-/
namespace Go.Proofs.YteffjeejbdjjpaaGreatDoor
open Go.RowKit

/-- The slice value v reads as a row of trees, each by R; hd is the row's own block (none where the row is empty), and the rest of fp belongs to the trees, in their order. -/
def RowOwn (R : Value → Ty → List Nat → Prop) (w : World) (v : Value) (ts : List Ty) (fp : List Nat) : Prop :=
  ∃ a cap hd fps, v = .slice a ts.length cap ∧ ts.length ≤ cap ∧ cap ≤ 9223372036854775807 ∧ fps.length = ts.length ∧ fp = hd ++ List.flatten fps ∧ (∀ b, b ∈ hd → b < w.heap.size) ∧
    ∀ j (h : j < ts.length), ∃ g off c0 c1 f, a = some ⟨g, off, none⟩ ∧ hd = [g] ∧ g < w.heap.size ∧ w.cell? ⟨g, off + j * 2, none⟩ = some c0 ∧ w.frozen? ⟨g, off + j * 2, none⟩ = false ∧ w.cell? ⟨g, off + j * 2 + 1, none⟩ = some c1 ∧ fps[j]? = some f ∧ R (.agg #[c0, c1]) ts[j] f
def TyOwn (w : World) : Nat → Value → Ty → List Nat → Prop
  | 0, _, _, _ => False
  | d + 1, v, .node k ts, fp => ∃ sl, v = .agg #[.int .i64 k, sl] ∧ -9223372036854775808 ≤ k ∧ k ≤ 9223372036854775807 ∧ RowOwn (TyOwn w d) w sl ts fp
def TysOwn (w : World) (d : Nat) (v : Value) (ts : List Ty) (fp : List Nat) : Prop := RowOwn (TyOwn w d) w v ts fp

theorem RowOwn.imp {R S : Value → Ty → List Nat → Prop} {w w' : World} {v : Value} {ts : List Ty} {fp : List Nat} (hz : w.heap.size ≤ w'.heap.size) (hb : ∀ b, b ∈ fp → w'.heap[b]? = w.heap[b]?)
    (hRS : ∀ v t f, (∀ b, b ∈ f → b ∈ fp) → R v t f → S v t f) (h : RowOwn R w v ts fp) : RowOwn S w' v ts fp := by
  obtain ⟨a, cap, hd, fps, hv, hc, hm, hl, hf, hlt, h⟩ := h
  refine ⟨a, cap, hd, fps, hv, hc, hm, hl, hf, fun b hb => Nat.lt_of_lt_of_le (hlt b hb) hz, fun j hj => ?_⟩
  obtain ⟨g, off, c0, c1, f, ha, hh, hg, hc0, hf0, hc1, hfj, hr⟩ := h j hj
  have hgb : w'.heap[g]? = w.heap[g]? := hb g (by rw [hf, hh]; simp)
  refine ⟨g, off, c0, c1, f, ha, hh, by omega, by rw [World.cell?_of_block hgb]; exact hc0, by rw [World.frozen?_of_block hgb]; exact hf0, by rw [World.cell?_of_block hgb]; exact hc1, hfj, hRS _ _ _ (fun b hbf => ?_) hr⟩
  rw [hf]
  exact List.mem_append_right _ (List.mem_flatten.2 ⟨f, List.mem_of_getElem? hfj, hbf⟩)
theorem TyOwn.kept {w w' : World} (hz : w.heap.size ≤ w'.heap.size) : ∀ {d : Nat} {v : Value} {t : Ty} {fp : List Nat}, (∀ b, b ∈ fp → w'.heap[b]? = w.heap[b]?) → TyOwn w d v t fp → TyOwn w' d v t fp
  | 0, _, _, _, _, h => h.elim
  | d + 1, v, .node k ts, fp, hb, h => by
    obtain ⟨sl, hv, h0, h1, h⟩ := h
    exact ⟨sl, hv, h0, h1, h.imp hz hb fun v t f hf h => TyOwn.kept hz (fun b hbf => hb b (hf b hbf)) h⟩
theorem TysOwn.kept {w w' : World} {d : Nat} {v : Value} {ts : List Ty} {fp : List Nat} (h : TysOwn w d v ts fp) (hz : w.heap.size ≤ w'.heap.size) (hb : ∀ b, b ∈ fp → w'.heap[b]? = w.heap[b]?) : TysOwn w' d v ts fp :=
  RowOwn.imp hz hb (fun _ _ _ hf h => h.kept hz fun b hbf => hb b (hf b hbf)) h
theorem TyOwn.at_ {w : World} : ∀ {d : Nat} {v : Value} {t : Ty} {fp : List Nat}, TyOwn w d v t fp → TyAt w d v t
  | 0, _, _, _, h => h.elim
  | d + 1, v, .node k ts, fp, h => by
    obtain ⟨sl, hv, h0, h1, a, cap, hd, fps, hs, hc, hm, hl, hf, hlt, h⟩ := h
    refine ⟨sl, hv, h0, h1, a, cap, hs, hc, hm, fun j hj => ?_⟩
    obtain ⟨g, off, c0, c1, f, ha, hh, hg, hc0, hf0, hc1, hfj, hr⟩ := h j hj
    exact ⟨g, off, c0, c1, ha, hg, hc0, hc1, hr.at_⟩
theorem TysOwn.at_ {w : World} {d : Nat} {v : Value} {ts : List Ty} {fp : List Nat} (h : TysOwn w d v ts fp) : TysAt w d v ts := by
  obtain ⟨a, cap, hd, fps, hs, hc, hm, hl, hf, hlt, h⟩ := h
  refine ⟨a, cap, hs, hc, hm, fun j hj => ?_⟩
  obtain ⟨g, off, c0, c1, f, ha, hh, hg, hc0, hf0, hc1, hfj, hr⟩ := h j hj
  exact ⟨g, off, c0, c1, ha, hg, hc0, hc1, hr.at_⟩
theorem TyOwn.lt {w : World} : ∀ {d : Nat} {v : Value} {t : Ty} {fp : List Nat}, TyOwn w d v t fp → ∀ b, b ∈ fp → b < w.heap.size
  | 0, _, _, _, h => h.elim
  | d + 1, v, .node k ts, fp, h => by
    obtain ⟨sl, hv, h0, h1, a, cap, hd, fps, hs, hc, hm, hl, hf, hlt, h⟩ := h
    intro b hb
    rw [hf] at hb
    rcases List.mem_append.1 hb with hb | hb
    · exact hlt b hb
    · obtain ⟨f, hf1, hf2⟩ := List.mem_flatten.1 hb
      obtain ⟨j, hj, rfl⟩ := List.getElem_of_mem hf1
      obtain ⟨g, off, c0, c1, f, _, _, _, _, _, _, hfj, hr⟩ := h j (by omega)
      rw [List.getElem?_eq_getElem hj] at hfj
      cases hfj
      exact hr.lt b hf2
/-- The blocks of fp lie from lo on and below hi, none twice. -/
def Fp (lo hi : Nat) (fp : List Nat) : Prop := fp.Nodup ∧ ∀ b, b ∈ fp → lo ≤ b ∧ b < hi
theorem Fp.mono {lo lo' hi hi' : Nat} {fp : List Nat} (h : Fp lo hi fp) (h1 : lo' ≤ lo) (h2 : hi ≤ hi') : Fp lo' hi' fp :=
  ⟨h.1, fun b hb => ⟨Nat.le_trans h1 (h.2 b hb).1, Nat.lt_of_lt_of_le (h.2 b hb).2 h2⟩⟩
theorem Fp.nil (lo hi : Nat) : Fp lo hi [] := ⟨List.nodup_nil, fun b hb => by cases hb⟩
theorem Fp.join {lo mid hi : Nat} {f g : List Nat} (h1 : Fp lo mid f) (h2 : Fp mid hi g) (h3 : lo ≤ mid) (h4 : mid ≤ hi) : Fp lo hi (f ++ g) := by
  refine ⟨List.nodup_append.2 ⟨h1.1, h2.1, fun a ha b hb e => ?_⟩, fun b hb => ?_⟩
  · have e1 := h1.2 a ha
    have e2 := h2.2 b hb
    omega
  · rcases List.mem_append.1 hb with hb | hb
    · have := h1.2 b hb; omega
    · have := h2.2 b hb; omega
theorem Fp.one {lo hi g : Nat} (h1 : lo ≤ g) (h2 : g < hi) : Fp lo hi [g] :=
  ⟨by simp, fun b hb => by cases List.mem_singleton.1 hb; exact ⟨h1, h2⟩⟩
end Go.Proofs.YteffjeejbdjjpaaGreatDoor
/-
  Proved: how a list of typings lies in memory, and plain facts on such lists.
-/
namespace Go.Proofs.YteffjeejbdjjpaaGreatDoor
open Go.RowKit

/-- A typing: its name, its type. -/
structure Bi where
  name : ByteArray
  ty : Ty
def Bi.bulk (b : Bi) : Nat := b.name.size + (b.ty.size - 1)
def Bi.bulks : List Bi → Nat
  | [] => 0
  | e :: r => 1 + e.bulk + Bi.bulks r
theorem Bi.bulks_take (es : List Bi) : ∀ k (h : k < es.length), Bi.bulks (es.take (k + 1)) = Bi.bulks (es.take k) + (1 + es[k].bulk) := by
  induction es with
  | nil => intro k h; simp at h
  | cons s r ih =>
    intro k h
    cases k with
    | zero => simp [Bi.bulks]
    | succ k =>
      simp only [List.take_succ_cons, Bi.bulks, List.getElem_cons_succ]
      rw [ih k (by simpa using h)]; omega
theorem Bi.bulks_le (es : List Bi) (k : Nat) : Bi.bulks (es.take k) ≤ Bi.bulks es := by
  induction es generalizing k with
  | nil => simp
  | cons s r ih =>
    cases k with
    | zero => simp [Bi.bulks]
    | succ k => simp only [List.take_succ_cons, Bi.bulks]; have := ih k; omega
theorem Bi.bulk_get (es : List Bi) (k : Nat) (h : k < es.length) : 1 + es[k].bulk ≤ Bi.bulks es := by
  have h1 := Bi.bulks_take es k h
  have h2 := Bi.bulks_le es (k + 1)
  omega
theorem Bi.length_le (es : List Bi) : es.length ≤ Bi.bulks es := by
  induction es with
  | nil => simp
  | cons s r ih => simp only [List.length_cons, Bi.bulks]; omega
/-- In the world w the value v reads as the typing b, its type at most d deep. -/
def BiAt (w : World) (d : Nat) (v : Value) (b : Bi) : Prop :=
  ∃ tk ta tn tc, v = .agg #[.string b.name, .int .i64 tk, .slice ta tn tc] ∧ b.name.size ≤ 9223372036854775807 ∧ TyAt w d (.agg #[.int .i64 tk, .slice ta tn tc]) b.ty
def BiOwn (w : World) (d : Nat) (v : Value) (b : Bi) (fp : List Nat) : Prop :=
  ∃ tk ta tn tc, v = .agg #[.string b.name, .int .i64 tk, .slice ta tn tc] ∧ b.name.size ≤ 9223372036854775807 ∧ TyOwn w d (.agg #[.int .i64 tk, .slice ta tn tc]) b.ty fp
theorem BiOwn.at_ {w : World} {d : Nat} {v : Value} {b : Bi} {fp : List Nat} (h : BiOwn w d v b fp) : BiAt w d v b := by
  obtain ⟨tk, ta, tn, tc, hv, hn, ht⟩ := h
  exact ⟨tk, ta, tn, tc, hv, hn, ht.at_⟩
theorem BiOwn.kept {w w' : World} {d : Nat} {v : Value} {b : Bi} {fp : List Nat} (h : BiOwn w d v b fp) (hz : w.heap.size ≤ w'.heap.size) (hb : ∀ b, b ∈ fp → w'.heap[b]? = w.heap[b]?) : BiOwn w' d v b fp := by
  obtain ⟨tk, ta, tn, tc, hv, hn, ht⟩ := h
  exact ⟨tk, ta, tn, tc, hv, hn, ht.kept hz hb⟩
theorem BiAt.below {w w' : World} {d : Nat} {v : Value} {b : Bi} (h : BiAt w d v b) (hb : Below w.heap.size w w') : BiAt w' d v b := by
  obtain ⟨tk, ta, tn, tc, hv, hn, ht⟩ := h
  exact ⟨tk, ta, tn, tc, hv, hn, ht.below hb⟩
theorem bi_parts {w : World} {d : Nat} {v : Value} {b : Bi} (h : BiAt w d v b) : ∃ nm tk ta tn tc, v = .agg #[.string nm, .int .i64 tk, .slice ta tn tc] := by
  obtain ⟨tk, ta, tn, tc, rfl, _⟩ := h
  exact ⟨_, _, _, _, _, rfl⟩
/-- In the world w the value v reads as the typings bs. -/
def BisAt (w : World) (d : Nat) (v : Value) (bs : List Bi) : Prop :=
  ∃ a cap, v = .slice a bs.length cap ∧ bs.length ≤ cap ∧ cap ≤ 9223372036854775807 ∧
    ∀ j (h : j < bs.length), ∃ b off c0 c1 c2, a = some ⟨b, off, none⟩ ∧ b < w.heap.size ∧ w.cell? ⟨b, off + j * 3, none⟩ = some c0 ∧ w.cell? ⟨b, off + j * 3 + 1, none⟩ = some c1 ∧ w.cell? ⟨b, off + j * 3 + 2, none⟩ = some c2 ∧ BiAt w d (.agg #[c0, c1, c2]) bs[j]
theorem BisAt.below {w w' : World} {d : Nat} {v : Value} {bs : List Bi} (h : BisAt w d v bs) (hb : Below w.heap.size w w') : BisAt w' d v bs := by
  obtain ⟨a, cap, hv, hc, hm, h⟩ := h
  refine ⟨a, cap, hv, hc, hm, fun j hj => ?_⟩
  obtain ⟨b, off, c0, c1, c2, ha, hlt, h0, h1, h2, hr⟩ := h j hj
  have hk : ∀ o, w'.cell? ⟨b, o, none⟩ = w.cell? ⟨b, o, none⟩ := fun o => hb.cell (p := ⟨b, o, none⟩) hlt
  exact ⟨b, off, c0, c1, c2, ha, Nat.lt_of_lt_of_le hlt hb.size, (hk _).trans h0, (hk _).trans h1, (hk _).trans h2, hr.below hb⟩
end Go.Proofs.YteffjeejbdjjpaaGreatDoor
namespace Go.Proofs.YteffjeejbdjjpaaGreatDoor
open Go.RowKit

/-- Typings in a block of their own, each type in blocks of its own; the blocks' list goes along. -/
def BisOwn (w : World) (d : Nat) (v : Value) (bs : List Bi) (fp : List Nat) : Prop :=
  ∃ a cap hd fps, v = .slice a bs.length cap ∧ bs.length ≤ cap ∧ cap ≤ 9223372036854775807 ∧ fps.length = bs.length ∧ fp = hd ++ List.flatten fps ∧ (∀ b, b ∈ hd → b < w.heap.size) ∧
    ∀ j (h : j < bs.length), ∃ g off c0 c1 c2 f, a = some ⟨g, off, none⟩ ∧ hd = [g] ∧ g < w.heap.size ∧ w.cell? ⟨g, off + j * 3, none⟩ = some c0 ∧ w.cell? ⟨g, off + j * 3 + 1, none⟩ = some c1 ∧ w.cell? ⟨g, off + j * 3 + 2, none⟩ = some c2 ∧
      (∀ o, w.frozen? ⟨g, o, none⟩ = false) ∧ fps[j]? = some f ∧ BiOwn w d (.agg #[c0, c1, c2]) bs[j] f
theorem BisOwn.at_ {w : World} {d : Nat} {v : Value} {bs : List Bi} {fp : List Nat} (h : BisOwn w d v bs fp) : BisAt w d v bs := by
  obtain ⟨a, cap, hd, fps, hv, hc, hm, hl, hf, hlt, h⟩ := h
  refine ⟨a, cap, hv, hc, hm, fun j hj => ?_⟩
  obtain ⟨g, off, c0, c1, c2, f, ha, hh, hg, h0, h1, h2, hfr, hfj, hr⟩ := h j hj
  exact ⟨g, off, c0, c1, c2, ha, hg, h0, h1, h2, hr.at_⟩
theorem BisOwn.kept {w w' : World} {d : Nat} {v : Value} {bs : List Bi} {fp : List Nat} (h : BisOwn w d v bs fp) (hz : w.heap.size ≤ w'.heap.size) (hb : ∀ b, b ∈ fp → w'.heap[b]? = w.heap[b]?) : BisOwn w' d v bs fp := by
  obtain ⟨a, cap, hd, fps, hv, hc, hm, hl, hf, hlt, h⟩ := h
  refine ⟨a, cap, hd, fps, hv, hc, hm, hl, hf, fun b hb => Nat.lt_of_lt_of_le (hlt b hb) hz, fun j hj => ?_⟩
  obtain ⟨g, off, c0, c1, c2, f, ha, hh, hg, h0, h1, h2, hfr, hfj, hr⟩ := h j hj
  have hgb : w'.heap[g]? = w.heap[g]? := hb g (by rw [hf, hh]; simp)
  have hk : ∀ o, w'.cell? ⟨g, o, none⟩ = w.cell? ⟨g, o, none⟩ := fun o => World.cell?_of_block (a := ⟨g, o, none⟩) hgb
  refine ⟨g, off, c0, c1, c2, f, ha, hh, Nat.lt_of_lt_of_le hg hz, (hk _).trans h0, (hk _).trans h1, (hk _).trans h2, fun o => (World.frozen?_of_block (a := ⟨g, o, none⟩) hgb).trans (hfr o), hfj, hr.kept hz fun b hbf => hb b ?_⟩
  rw [hf]
  exact List.mem_append_right _ (List.mem_flatten.2 ⟨f, List.mem_of_getElem? hfj, hbf⟩)
end Go.Proofs.YteffjeejbdjjpaaGreatDoor
