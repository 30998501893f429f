/-
  Proved: impl.EqualType says whether two trees are equal, and leaves the memory that was there as it was.
-/
import Derived.Test.YteffjeejbdjjpaaGreatDoorWellG1
import Derived.StillTailTactics
/-
  Proved: how an expression's tree lies in memory, and plain facts on such trees.
-/
namespace Go.Proofs.YteffjeejbdjjpaaGreatDoor
open Go.RowKit

/-- An expression's tree. -/
inductive Ex where
  | node (kind : Int) (name : ByteArray) (n : Int) (ty : Ty) (args : List Ex)
mutual
/-- What an expression holds below its root: letters, nodes of types, nodes. -/
def Ex.bulk : Ex → Nat
  | .node _ nm _ ty es => nm.size + (ty.size - 1) + Ex.bulks es
def Ex.bulks : List Ex → Nat
  | [] => 0
  | e :: r => 1 + e.bulk + Ex.bulks r
end
theorem Ex.bulks_take (es : List Ex) : ∀ k (h : k < es.length), Ex.bulks (es.take (k + 1)) = Ex.bulks (es.take k) + (1 + es[k].bulk) := by
  induction es with
  | nil => intro k h; simp at h
  | cons s r ih =>
    intro k h
    cases k with
    | zero => simp [Ex.bulks]
    | succ k =>
      simp only [List.take_succ_cons, Ex.bulks, List.getElem_cons_succ]
      rw [ih k (by simpa using h)]; omega
theorem Ex.bulks_le (es : List Ex) (k : Nat) : Ex.bulks (es.take k) ≤ Ex.bulks es := by
  induction es generalizing k with
  | nil => simp
  | cons s r ih =>
    cases k with
    | zero => simp [Ex.bulks]
    | succ k => simp only [List.take_succ_cons, Ex.bulks]; have := ih k; omega
theorem Ex.bulk_get (es : List Ex) (k : Nat) (h : k < es.length) : 1 + es[k].bulk ≤ Ex.bulks es := by
  have h1 := Ex.bulks_take es k h
  have h2 := Ex.bulks_le es (k + 1)
  omega
theorem Ex.length_le (es : List Ex) : es.length ≤ Ex.bulks es := by
  induction es with
  | nil => simp
  | cons s r ih => simp only [List.length_cons, Ex.bulks]; omega

def RowEx (R : Value → Ex → Prop) (w : World) (v : Value) (es : List Ex) : Prop :=
  ∃ a cap, v = .slice a es.length cap ∧ es.length ≤ cap ∧ cap ≤ 9223372036854775807 ∧
    ∀ j (h : j < es.length), ∃ b off c0 c1 c2 c3 c4 c5, a = some ⟨b, off, none⟩ ∧ b < w.heap.size ∧ w.cell? ⟨b, off + j * 6, none⟩ = some c0 ∧ w.cell? ⟨b, off + j * 6 + 1, none⟩ = some c1 ∧ w.cell? ⟨b, off + j * 6 + 2, none⟩ = some c2 ∧
      w.cell? ⟨b, off + j * 6 + 3, none⟩ = some c3 ∧ w.cell? ⟨b, off + j * 6 + 4, none⟩ = some c4 ∧ w.cell? ⟨b, off + j * 6 + 5, none⟩ = some c5 ∧ R (.agg #[c0, c1, c2, c3, c4, c5]) es[j]
/-- In the world w the value v reads as the expression e, at most d deep. -/
def ExAt (w : World) : Nat → Value → Ex → Prop
  | 0, _, _ => False
  | d + 1, v, .node k nm n ty es => ∃ c3 c4 sl, v = .agg #[.int .i64 k, .string nm, .int .i64 n, c3, c4, sl] ∧ -9223372036854775808 ≤ k ∧ k ≤ 9223372036854775807 ∧ -9223372036854775808 ≤ n ∧ n ≤ 9223372036854775807 ∧ nm.size ≤ 9223372036854775807 ∧
      TyAt w d (.agg #[c3, c4]) ty ∧ RowEx (ExAt w d) w sl es
def ExsAt (w : World) (d : Nat) (v : Value) (es : List Ex) : Prop := RowEx (ExAt w d) w v es
theorem RowEx.imp {R S : Value → Ex → Prop} {w w' : World} {v : Value} {es : List Ex} (hb : Below w.heap.size w w') (hRS : ∀ v e, R v e → S v e) (h : RowEx R w v es) : RowEx S w' v es := by
  obtain ⟨a, cap, hv, hc, hm, h⟩ := h
  refine ⟨a, cap, hv, hc, hm, fun j hj => ?_⟩
  obtain ⟨b, off, c0, c1, c2, c3, c4, c5, ha, hlt, h0, h1, h2, h3, h4, h5, hr⟩ := h j hj
  have hk : ∀ o, w'.cell? ⟨b, o, none⟩ = w.cell? ⟨b, o, none⟩ := fun o => hb.cell (p := ⟨b, o, none⟩) hlt
  exact ⟨b, off, c0, c1, c2, c3, c4, c5, ha, Nat.lt_of_lt_of_le hlt hb.size, (hk _).trans h0, (hk _).trans h1, (hk _).trans h2, (hk _).trans h3, (hk _).trans h4, (hk _).trans h5, hRS _ _ hr⟩
theorem ExAt.below {w w' : World} (hb : Below w.heap.size w w') : ∀ {d : Nat} {v : Value} {e : Ex}, ExAt w d v e → ExAt w' d v e
  | 0, _, _, h => h.elim
  | d + 1, v, .node k nm n ty es, h => by
    obtain ⟨c3, c4, sl, hv, h0, h1, h2, h3, h4, ht, h⟩ := h
    exact ⟨c3, c4, sl, hv, h0, h1, h2, h3, h4, ht.below hb, h.imp hb fun v e h => ExAt.below hb h⟩
theorem ExsAt.below {w w' : World} {d : Nat} {v : Value} {es : List Ex} (h : ExsAt w d v es) (hb : Below w.heap.size w w') : ExsAt w' d v es :=
  RowEx.imp hb (fun _ _ h => h.below hb) h
theorem RowEx.weaker {R S : Value → Ex → Prop} {w : World} {v : Value} {es : List Ex} (hRS : ∀ v e, R v e → S v e) (h : RowEx R w v es) : RowEx S w v es := h.imp (Below.refl _ _) hRS

/-- Trees whose rows lie each in a block of its own; the blocks' list goes along. -/
def RowExOwn (R : Value → Ex → List Nat → Prop) (w : World) (v : Value) (es : List Ex) (fp : List Nat) : Prop :=
  ∃ a cap hd fps, v = .slice a es.length cap ∧ es.length ≤ cap ∧ cap ≤ 9223372036854775807 ∧ fps.length = es.length ∧ fp = hd ++ List.flatten fps ∧ (∀ b, b ∈ hd → b < w.heap.size) ∧
    ∀ j (h : j < es.length), ∃ g off c0 c1 c2 c3 c4 c5 f, a = some ⟨g, off, none⟩ ∧ hd = [g] ∧ g < w.heap.size ∧ w.cell? ⟨g, off + j * 6, none⟩ = some c0 ∧ w.cell? ⟨g, off + j * 6 + 1, none⟩ = some c1 ∧ w.cell? ⟨g, off + j * 6 + 2, none⟩ = some c2 ∧
      w.cell? ⟨g, off + j * 6 + 3, none⟩ = some c3 ∧ w.cell? ⟨g, off + j * 6 + 4, none⟩ = some c4 ∧ w.cell? ⟨g, off + j * 6 + 5, none⟩ = some c5 ∧ (∀ o, w.frozen? ⟨g, o, none⟩ = false) ∧ fps[j]? = some f ∧ R (.agg #[c0, c1, c2, c3, c4, c5]) es[j] f
def ExOwn (w : World) : Nat → Value → Ex → List Nat → Prop
  | 0, _, _, _ => False
  | d + 1, v, .node k nm n ty es, fp => ∃ c3 c4 sl f1 f2, v = .agg #[.int .i64 k, .string nm, .int .i64 n, c3, c4, sl] ∧ -9223372036854775808 ≤ k ∧ k ≤ 9223372036854775807 ∧ -9223372036854775808 ≤ n ∧ n ≤ 9223372036854775807 ∧ nm.size ≤ 9223372036854775807 ∧
      fp = f1 ++ f2 ∧ TyOwn w d (.agg #[c3, c4]) ty f1 ∧ RowExOwn (ExOwn w d) w sl es f2
def ExsOwn (w : World) (d : Nat) (v : Value) (es : List Ex) (fp : List Nat) : Prop := RowExOwn (ExOwn w d) w v es fp
theorem RowExOwn.imp {R S : Value → Ex → List Nat → Prop} {w w' : World} {v : Value} {es : List Ex} {fp : List Nat} (hz : w.heap.size ≤ w'.heap.size) (hb : ∀ b, b ∈ fp → w'.heap[b]? = w.heap[b]?)
    (hRS : ∀ v e f, (∀ b, b ∈ f → b ∈ fp) → R v e f → S v e f) (h : RowExOwn R w v es fp) : RowExOwn S w' v es fp := by
  obtain ⟨a, cap, hd, fps, hv, hc, hm, hl, hf, hlt, h⟩ := h
  refine ⟨a, cap, hd, fps, hv, hc, hm, hl, hf, fun b hb => Nat.lt_of_lt_of_le (hlt b hb) hz, fun j hj => ?_⟩
  obtain ⟨g, off, c0, c1, c2, c3, c4, c5, f, ha, hh, hg, h0, h1, h2, h3, h4, h5, hfr, hfj, hr⟩ := h j hj
  have hgb : w'.heap[g]? = w.heap[g]? := hb g (by rw [hf, hh]; simp)
  have hk : ∀ o, w'.cell? ⟨g, o, none⟩ = w.cell? ⟨g, o, none⟩ := fun o => World.cell?_of_block (a := ⟨g, o, none⟩) hgb
  refine ⟨g, off, c0, c1, c2, c3, c4, c5, f, ha, hh, by omega, (hk _).trans h0, (hk _).trans h1, (hk _).trans h2, (hk _).trans h3, (hk _).trans h4, (hk _).trans h5, fun o => (World.frozen?_of_block (a := ⟨g, o, none⟩) hgb).trans (hfr o), hfj, hRS _ _ _ (fun b hbf => ?_) hr⟩
  rw [hf]
  exact List.mem_append_right _ (List.mem_flatten.2 ⟨f, List.mem_of_getElem? hfj, hbf⟩)
theorem ExOwn.kept {w w' : World} (hz : w.heap.size ≤ w'.heap.size) : ∀ {d : Nat} {v : Value} {e : Ex} {fp : List Nat}, (∀ b, b ∈ fp → w'.heap[b]? = w.heap[b]?) → ExOwn w d v e fp → ExOwn w' d v e fp
  | 0, _, _, _, _, h => h.elim
  | d + 1, v, .node k nm n ty es, fp, hb, h => by
    obtain ⟨c3, c4, sl, f1, f2, hv, h0, h1, h2, h3, h4, hf, ht, h⟩ := h
    refine ⟨c3, c4, sl, f1, f2, hv, h0, h1, h2, h3, h4, hf, ht.kept hz fun b hbf => hb b (by rw [hf]; exact List.mem_append_left _ hbf), ?_⟩
    exact h.imp hz (fun b hbf => hb b (by rw [hf]; exact List.mem_append_right _ hbf)) fun v e f hsub h => ExOwn.kept hz (fun b hbf => hb b (by rw [hf]; exact List.mem_append_right _ (hsub b hbf))) h
theorem ExsOwn.kept {w w' : World} {d : Nat} {v : Value} {es : List Ex} {fp : List Nat} (h : ExsOwn w d v es fp) (hz : w.heap.size ≤ w'.heap.size) (hb : ∀ b, b ∈ fp → w'.heap[b]? = w.heap[b]?) : ExsOwn w' d v es fp :=
  RowExOwn.imp hz hb (fun _ _ _ hf h => h.kept hz fun b hbf => hb b (hf b hbf)) h
theorem ExOwn.at_ {w : World} : ∀ {d : Nat} {v : Value} {e : Ex} {fp : List Nat}, ExOwn w d v e fp → ExAt w d v e
  | 0, _, _, _, h => h.elim
  | d + 1, v, .node k nm n ty es, fp, h => by
    obtain ⟨c3, c4, sl, f1, f2, hv, h0, h1, h2, h3, h4, hf, ht, a, cap, hd, fps, hs, hc, hm, hl, hf2, hlt, h⟩ := h
    refine ⟨c3, c4, sl, hv, h0, h1, h2, h3, h4, ht.at_, a, cap, hs, hc, hm, fun j hj => ?_⟩
    obtain ⟨g, off, e0, e1, e2, e3, e4, e5, f, ha, hh, hg, g0, g1, g2, g3, g4, g5, hfr, hfj, hr⟩ := h j hj
    exact ⟨g, off, e0, e1, e2, e3, e4, e5, ha, hg, g0, g1, g2, g3, g4, g5, hr.at_⟩
theorem ex_parts {w : World} {d : Nat} {v : Value} {e : Ex} (h : ExAt w d v e) : ∃ k nm n tk ta tn tc a m c, v = .agg #[.int .i64 k, .string nm, .int .i64 n, .int .i64 tk, .slice ta tn tc, .slice a m c] := by
  cases d with
  | zero => exact h.elim
  | succ d =>
    cases e with
    | node k nm n ty es =>
      obtain ⟨c3, c4, sl, rfl, h0, h1, h2, h3, h4, ht, a, cap, rfl, _⟩ := h
      cases d with
      | zero => exact ht.elim
      | succ d =>
        cases ty with
        | node tk ts =>
          obtain ⟨s, hs, _, _, ta, tc, rfl, _⟩ := ht
          injection hs with hs
          injection hs with hs
          simp at hs
          obtain ⟨rfl, rfl⟩ := hs
          exact ⟨_, _, _, _, _, _, _, _, _, _, rfl⟩
theorem ex_cells {w : World} {d : Nat} {c0 c1 c2 c3 c4 c5 : Value} {e : Ex} (h : ExAt w d (.agg #[c0, c1, c2, c3, c4, c5]) e) : ∃ k nm n tk ta tn tc a m c, c0 = .int .i64 k ∧ c1 = .string nm ∧ c2 = .int .i64 n ∧ c3 = .int .i64 tk ∧ c4 = .slice ta tn tc ∧ c5 = .slice a m c := by
  obtain ⟨k, nm, n, tk, ta, tn, tc, a, m, c, hv⟩ := ex_parts h
  injection hv with hv
  injection hv with hv
  simp at hv
  exact ⟨k, nm, n, tk, ta, tn, tc, a, m, c, hv.1, hv.2.1, hv.2.2.1, hv.2.2.2.1, hv.2.2.2.2.1, hv.2.2.2.2.2⟩
end Go.Proofs.YteffjeejbdjjpaaGreatDoor
/-
  Proved: plain facts on the equality of types' trees, and on two boxes that a call lays one behind the other.
-/
namespace Go.Proofs.YteffjeejbdjjpaaGreatDoor
open Go.RowKit

mutual
def Ty.beq : Ty → Ty → Bool
  | .node k cs, .node l bs => decide (k = l) && Ty.beqs cs bs
def Ty.beqs : List Ty → List Ty → Bool
  | [], [] => true
  | a :: r, b :: s => a.beq b && Ty.beqs r s
  | _, _ => false
end
theorem Ty.beqs_len : ∀ (cs bs : List Ty), cs.length ≠ bs.length → Ty.beqs cs bs = false
  | [], [], h => (h rfl).elim
  | [], _ :: _, _ => rfl
  | _ :: _, [], _ => rfl
  | a :: r, b :: s, h => by
    simp only [Ty.beqs, Ty.beqs_len r s (by simpa using h), Bool.and_false]
theorem Ty.beqs_take : ∀ (cs bs : List Ty) (k : Nat) (h : k < cs.length) (h' : k < bs.length), Ty.beqs (cs.take (k + 1)) (bs.take (k + 1)) = (Ty.beqs (cs.take k) (bs.take k) && cs[k].beq bs[k])
  | [], _, _, h, _ => by simp at h
  | _ :: _, [], _, _, h => by simp at h
  | a :: r, b :: s, 0, _, _ => by simp [Ty.beqs]
  | a :: r, b :: s, k + 1, h, h' => by
    simp only [List.take_succ_cons, Ty.beqs, List.getElem_cons_succ]
    rw [Ty.beqs_take r s k (by simpa using h) (by simpa using h'), Bool.and_assoc]
theorem Ty.beqs_false : ∀ (cs bs : List Ty) (k : Nat), Ty.beqs (cs.take k) (bs.take k) = false → cs.length = bs.length → Ty.beqs cs bs = false
  | [], [], k, h, _ => by simp [Ty.beqs] at h
  | [], _ :: _, _, _, e => by simp at e
  | _ :: _, [], _, _, e => by simp at e
  | a :: r, b :: s, 0, h, _ => by simp [Ty.beqs] at h
  | a :: r, b :: s, k + 1, h, e => by
    simp only [List.take_succ_cons, Ty.beqs, Bool.and_eq_false_iff] at h ⊢
    rcases h with h | h
    · exact Or.inl h
    · exact Or.inr (Ty.beqs_false r s k h (by simpa using e))

theorem two_first {w wr : World} {cs ds : Array Value} {T U : TypeId} (h : Below (w.heap.size + 2) ((w.alloc (.cells cs T)).alloc (.cells ds U)) wr) (j : Nat) : wr.cell? ⟨w.heap.size, j, none⟩ = cs[j]? := by
  rw [h.cell (p := ⟨w.heap.size, j, none⟩) (Nat.lt_of_lt_of_le (Nat.lt_succ_self _) (Nat.le_succ _)), World.cell?_alloc_lt _ _ _ (by simp)]
  exact World.cell?_alloc_mark w cs T (0, 0) j
theorem two_next {w wr : World} {cs ds : Array Value} {T U : TypeId} (h : Below (w.heap.size + 2) ((w.alloc (.cells cs T)).alloc (.cells ds U)) wr) (j : Nat) : wr.cell? ⟨w.heap.size + 1, j, none⟩ = ds[j]? := by
  rw [h.cell (p := ⟨w.heap.size + 1, j, none⟩) (Nat.lt_succ_self _)]
  have := World.cell?_alloc_mark (w.alloc (.cells cs T)) ds U (0, 0) j
  rw [show (w.alloc (.cells cs T)).heap.size = w.heap.size + 1 from by simp] at this
  exact this
theorem two_below {w wr : World} {o q : Obj} (h : Below (w.heap.size + 2) ((w.alloc o).alloc q) wr) : Below w.heap.size w wr :=
  (((Below.refl _ _).alloc (Nat.le_refl _) _).alloc (by simp) _).trans (h.mono (by omega))
theorem two_on {w wr w' : World} {o q : Obj} (h : Below (w.heap.size + 2) ((w.alloc o).alloc q) wr) (h2 : Below wr.heap.size wr w') : Below (w.heap.size + 2) ((w.alloc o).alloc q) w' :=
  h.trans (h2.mono (by have := h.size; simp at this; omega))
end Go.Proofs.YteffjeejbdjjpaaGreatDoor
/-
  Proved: plain facts on equal expressions; the memory that was there stays as it was.
-/
namespace Go.Proofs.YteffjeejbdjjpaaGreatDoor
open Go.RowKit

theorem text_ne {a b : ByteArray} (h : a ≠ b) : (a.toList == b.toList) = false := by
  rw [ByteArray.toList_eq, ByteArray.toList_eq]
  refine beq_false_of_ne fun e => h ?_
  cases a; cases b
  exact congrArg ByteArray.mk (Array.toList_inj.1 e)
/-- Two expressions have equal roots: all fields but the parts, and the number of these. -/
def Ex.roots : Ex → Ex → Bool
  | .node k nm n ty es, .node l nl m tz fs => decide (k = l) && (decide (nm = nl) && (decide (n = m) && (ty.beq tz && decide (es.length = fs.length))))
mutual
def Ex.beq : Ex → Ex → Bool
  | .node k nm n ty es, .node l nl m tz fs => (decide (k = l) && (decide (nm = nl) && (decide (n = m) && (ty.beq tz && decide (es.length = fs.length))))) && Ex.beqs es fs
def Ex.beqs : List Ex → List Ex → Bool
  | [], [] => true
  | a :: r, b :: s => a.beq b && Ex.beqs r s
  | _, _ => false
end
theorem Ex.beqs_take : ∀ (cs bs : List Ex) (k : Nat) (h : k < cs.length) (h' : k < bs.length), Ex.beqs (cs.take (k + 1)) (bs.take (k + 1)) = (Ex.beqs (cs.take k) (bs.take k) && cs[k].beq bs[k])
  | [], _, _, h, _ => by simp at h
  | _ :: _, [], _, _, h => by simp at h
  | a :: r, b :: s, 0, _, _ => by simp [Ex.beqs]
  | a :: r, b :: s, k + 1, h, h' => by
    simp only [List.take_succ_cons, Ex.beqs, List.getElem_cons_succ]
    rw [Ex.beqs_take r s k (by simpa using h) (by simpa using h'), Bool.and_assoc]
theorem Ex.beqs_false : ∀ (cs bs : List Ex) (k : Nat), Ex.beqs (cs.take k) (bs.take k) = false → cs.length = bs.length → Ex.beqs cs bs = false
  | [], [], k, h, _ => by simp [Ex.beqs] at h
  | [], _ :: _, _, _, e => by simp at e
  | _ :: _, [], _, _, e => by simp at e
  | a :: r, b :: s, 0, h, _ => by simp [Ex.beqs] at h
  | a :: r, b :: s, k + 1, h, e => by
    simp only [List.take_succ_cons, Ex.beqs, Bool.and_eq_false_iff] at h ⊢
    rcases h with h | h
    · exact Or.inl h
    · exact Or.inr (Ex.beqs_false r s k h (by simpa using e))
end Go.Proofs.YteffjeejbdjjpaaGreatDoor
namespace Go.Proofs.YteffjeejbdjjpaaGreatDoor
open Go.RowKit

set_option maxRecDepth 100000 in
set_option maxHeartbeats 2000000 in
theorem implEqual : ∀ (d : Nat) (v1 v2 : Value) (t1 t2 : Ty) (w : World), TyAt w d v1 t1 → TyAt w d v2 t2 →
    Calls Tryz.prog 118 #[v1, v2] w fun e w' => e = .returned (.bool (t1.beq t2)) ∧ Below w.heap.size w w'
  | 0, _, _, _, _, _, h, _ => h.elim
  | d + 1, v1, v2, .node k1 cs, .node k2 bs, w, h1, h2 => by
    have IH : Hid (∀ (v1 v2 : Value) (t1 t2 : Ty) (w : World), TyAt w d v1 t1 → TyAt w d v2 t2 → Calls Tryz.prog 118 #[v1, v2] w fun e w' => e = .returned (.bool (t1.beq t2)) ∧ Below w.heap.size w w') := implEqual d
    obtain ⟨s1, rfl, hk0, hk1, a1, cap1, rfl, hcap1, hm1, hat1⟩ := h1
    obtain ⟨s2, rfl, hk2, hk3, a2, cap2, rfl, hcap2, hm2, hat2⟩ := h2
    have HA1 := Lib.hid hat1; clear hat1
    have HA2 := Lib.hid hat2; clear hat2
    by_cases q1 : k1 = k2
    · subst q1
      by_cases q2 : bs.length = cs.length
      · have HFIN : Hid ((Ty.node k1 cs).beq (Ty.node k1 bs) = Ty.beqs cs bs) := by show _ = _; simp [Ty.beq]
        rw [q2]
        go_enter Tryz.func118, Tryz.ntmps118
        go_wp2_with fail
        go_loopw [23] (fun i wr => ∃ k : Nat, k ≤ cs.length ∧ i = .int .i64 k ∧ Ty.beqs (cs.take k) (bs.take k) = true ∧ Below (w.heap.size + 2) ((w.alloc (.cells #[.int .i64 k1, .slice a1 cs.length cap1] 33)).alloc (.cells #[.int .i64 k1, .slice a2 cs.length cap2] 33)) wr) (fun i _ => cs.length - (intOf i).toNat)
        case atStart => exact ⟨0, by omega, rfl, by simp [Ty.beqs], Below.refl _ _⟩
        case round =>
          obtain ⟨k, hk, rfl, hf, hb⟩ := hrel
          have HF := Lib.hid hf; clear hf
          have y1 := two_first hb 1
          have y2 := two_next hb 1
          have HB := Lib.hid (two_below hb)
          have HBX := Lib.hid hb; clear hb
          by_cases hlt : k < cs.length
          · have hlt2 : k < bs.length := by omega
            obtain ⟨b1, off1, x0, x1, rfl, hbl1, hc10, hc11, ht1⟩ := HA1.out k hlt
            obtain ⟨b2, off2, z0, z1, rfl, hbl2, hc20, hc21, ht2⟩ := HA2.out k hlt2
            have c10 : wr.cell? ⟨b1, off1 + k * 2, none⟩ = some x0 := by rw [HB.out.cell (p := ⟨b1, off1 + k * 2, none⟩) hbl1]; exact hc10
            have c11 : wr.cell? ⟨b1, off1 + k * 2 + 1, none⟩ = some x1 := by rw [HB.out.cell (p := ⟨b1, off1 + k * 2 + 1, none⟩) hbl1]; exact hc11
            have c20 : wr.cell? ⟨b2, off2 + k * 2, none⟩ = some z0 := by rw [HB.out.cell (p := ⟨b2, off2 + k * 2, none⟩) hbl2]; exact hc20
            have c21 : wr.cell? ⟨b2, off2 + k * 2 + 1, none⟩ = some z1 := by rw [HB.out.cell (p := ⟨b2, off2 + k * 2 + 1, none⟩) hbl2]; exact hc21
            have HT1 := Lib.hid (ht1.below HB.out.drew)
            have HT2 := Lib.hid (ht2.below HB.out.drew)
            clear ht1 ht2 hc10 hc11 hc20 hc21
            go_wp2_with fail
            go_still_tail 10, (by kernel_rfl)
            change wpList _ _ _ _ _ wr.drew
            go_wp2_with fail
            refine (IH.out _ _ _ _ wr.drew HT1.out HT2.out).mono ?_
            rintro e w' ⟨rfl, hb1⟩
            have HN := Lib.hid (two_on HBX.out.drew hb1); clear hb1
            have HTK := Lib.hid (Ty.beqs_take cs bs k hlt hlt2)
            cases hfk : cs[k].beq bs[k] with
            | true =>
              have HFK := Lib.hid hfk; clear hfk
              go_wp2_with fail
              exact ⟨⟨k + 1, by omega, by go_num, by rw [HTK.out, HF.out, HFK.out]; rfl, HN.out⟩, by simp [intOf]; omega⟩
            | false =>
              have HFK := Lib.hid hfk; clear hfk
              go_wp2_with fail
              go_ret
              have e : Ty.beqs cs bs = false := Ty.beqs_false cs bs (k + 1) (by rw [HTK.out, HF.out, HFK.out]; rfl) q2.symm
              exact ⟨by rw [HFIN.out, e]; rfl, two_below HN.out⟩
          · obtain rfl : k = cs.length := by omega
            have e : Hid (Ty.beqs cs bs = true) := by
              have := HF.out
              rw [List.take_length, ← q2, List.take_length] at this; exact this
            go_wp2_with fail
            go_ret
            exact ⟨by rw [HFIN.out, e.out]; rfl, HB.out⟩
      · have HFIN : Hid ((Ty.node k1 cs).beq (Ty.node k1 bs) = false) := by show _ = _; simp [Ty.beq, Ty.beqs_len cs bs (fun e => q2 e.symm)]
        have q3 : ¬ ((cs.length : Int) = (bs.length : Int)) := by omega
        go_enter Tryz.func118, Tryz.ntmps118
        go_wp2_with fail
        go_ret
        exact ⟨by rw [HFIN.out]; rfl, ((Below.refl _ _).alloc (Nat.le_refl _) _).alloc (by simp) _⟩
    · have HFIN : Hid ((Ty.node k1 cs).beq (Ty.node k2 bs) = false) := by show _ = _; simp [Ty.beq, q1]
      go_enter Tryz.func118, Tryz.ntmps118
      go_wp2_with fail
      go_ret
      exact ⟨by rw [HFIN.out]; rfl, ((Below.refl _ _).alloc (Nat.le_refl _) _).alloc (by simp) _⟩
end Go.Proofs.YteffjeejbdjjpaaGreatDoor
