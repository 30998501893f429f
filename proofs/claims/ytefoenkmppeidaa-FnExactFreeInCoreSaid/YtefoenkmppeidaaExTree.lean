/-
  Proved: how an expression's tree lies in memory, and plain facts on such trees.
-/
import Derived.Test.YtefoenkmppeidaaOwnTree
namespace Go.Proofs.Ytefoenkmppeidaa
open Go.RowKit

/-- An expression's tree. -/
inductive Ex where
  | node (kind : Int) (name : ByteArray) (n : Int) (ty : Ty) (args : List Ex)
mutual
/-- What an expression holds below its root: letters, nodes of types, nodes. -/
def Ex.bulk : Ex → Nat
  | .node _ nm _ ty es => nm.size + (ty.size - 1) + Ex.bulks es
def Ex.bulks : List Ex → Nat
  | [] => 0
  | e :: r => 1 + e.bulk + Ex.bulks r
end
theorem Ex.bulks_take (es : List Ex) : ∀ k (h : k < es.length), Ex.bulks (es.take (k + 1)) = Ex.bulks (es.take k) + (1 + es[k].bulk) := by
  induction es with
  | nil => intro k h; simp at h
  | cons s r ih =>
    intro k h
    cases k with
    | zero => simp [Ex.bulks]
    | succ k =>
      simp only [List.take_succ_cons, Ex.bulks, List.getElem_cons_succ]
      rw [ih k (by simpa using h)]; omega
theorem Ex.bulks_le (es : List Ex) (k : Nat) : Ex.bulks (es.take k) ≤ Ex.bulks es := by
  induction es generalizing k with
  | nil => simp
  | cons s r ih =>
    cases k with
    | zero => simp [Ex.bulks]
    | succ k => simp only [List.take_succ_cons, Ex.bulks]; have := ih k; omega
theorem Ex.bulk_get (es : List Ex) (k : Nat) (h : k < es.length) : 1 + es[k].bulk ≤ Ex.bulks es := by
  have h1 := Ex.bulks_take es k h
  have h2 := Ex.bulks_le es (k + 1)
  omega
theorem Ex.length_le (es : List Ex) : es.length ≤ Ex.bulks es := by
  induction es with
  | nil => simp
  | cons s r ih => simp only [List.length_cons, Ex.bulks]; omega

def RowEx (R : Value → Ex → Prop) (w : World) (v : Value) (es : List Ex) : Prop :=
  ∃ a cap, v = .slice a es.length cap ∧ es.length ≤ cap ∧ cap ≤ 9223372036854775807 ∧
    ∀ j (h : j < es.length), ∃ b off c0 c1 c2 c3 c4 c5, a = some ⟨b, off, none⟩ ∧ b < w.heap.size ∧ w.cell? ⟨b, off + j * 6, none⟩ = some c0 ∧ w.cell? ⟨b, off + j * 6 + 1, none⟩ = some c1 ∧ w.cell? ⟨b, off + j * 6 + 2, none⟩ = some c2 ∧
      w.cell? ⟨b, off + j * 6 + 3, none⟩ = some c3 ∧ w.cell? ⟨b, off + j * 6 + 4, none⟩ = some c4 ∧ w.cell? ⟨b, off + j * 6 + 5, none⟩ = some c5 ∧ R (.agg #[c0, c1, c2, c3, c4, c5]) es[j]
/-- In the world w the value v reads as the expression e, at most d deep. -/
def ExAt (w : World) : Nat → Value → Ex → Prop
  | 0, _, _ => False
  | d + 1, v, .node k nm n ty es => ∃ c3 c4 sl, v = .agg #[.int .i64 k, .string nm, .int .i64 n, c3, c4, sl] ∧ -9223372036854775808 ≤ k ∧ k ≤ 9223372036854775807 ∧ -9223372036854775808 ≤ n ∧ n ≤ 9223372036854775807 ∧ nm.size ≤ 9223372036854775807 ∧
      TyAt w d (.agg #[c3, c4]) ty ∧ RowEx (ExAt w d) w sl es
def ExsAt (w : World) (d : Nat) (v : Value) (es : List Ex) : Prop := RowEx (ExAt w d) w v es
theorem RowEx.imp {R S : Value → Ex → Prop} {w w' : World} {v : Value} {es : List Ex} (hb : Below w.heap.size w w') (hRS : ∀ v e, R v e → S v e) (h : RowEx R w v es) : RowEx S w' v es := by
  obtain ⟨a, cap, hv, hc, hm, h⟩ := h
  refine ⟨a, cap, hv, hc, hm, fun j hj => ?_⟩
  obtain ⟨b, off, c0, c1, c2, c3, c4, c5, ha, hlt, h0, h1, h2, h3, h4, h5, hr⟩ := h j hj
  have hk : ∀ o, w'.cell? ⟨b, o, none⟩ = w.cell? ⟨b, o, none⟩ := fun o => hb.cell (p := ⟨b, o, none⟩) hlt
  exact ⟨b, off, c0, c1, c2, c3, c4, c5, ha, Nat.lt_of_lt_of_le hlt hb.size, (hk _).trans h0, (hk _).trans h1, (hk _).trans h2, (hk _).trans h3, (hk _).trans h4, (hk _).trans h5, hRS _ _ hr⟩
theorem ExAt.below {w w' : World} (hb : Below w.heap.size w w') : ∀ {d : Nat} {v : Value} {e : Ex}, ExAt w d v e → ExAt w' d v e
  | 0, _, _, h => h.elim
  | d + 1, v, .node k nm n ty es, h => by
    obtain ⟨c3, c4, sl, hv, h0, h1, h2, h3, h4, ht, h⟩ := h
    exact ⟨c3, c4, sl, hv, h0, h1, h2, h3, h4, ht.below hb, h.imp hb fun v e h => ExAt.below hb h⟩
theorem ExsAt.below {w w' : World} {d : Nat} {v : Value} {es : List Ex} (h : ExsAt w d v es) (hb : Below w.heap.size w w') : ExsAt w' d v es :=
  RowEx.imp hb (fun _ _ h => h.below hb) h
theorem RowEx.weaker {R S : Value → Ex → Prop} {w : World} {v : Value} {es : List Ex} (hRS : ∀ v e, R v e → S v e) (h : RowEx R w v es) : RowEx S w v es := h.imp (Below.refl _ _) hRS

/-- Trees whose rows lie each in a block of its own; the blocks' list goes along. -/
def RowExOwn (R : Value → Ex → List Nat → Prop) (w : World) (v : Value) (es : List Ex) (fp : List Nat) : Prop :=
  ∃ a cap hd fps, v = .slice a es.length cap ∧ es.length ≤ cap ∧ cap ≤ 9223372036854775807 ∧ fps.length = es.length ∧ fp = hd ++ List.flatten fps ∧ (∀ b, b ∈ hd → b < w.heap.size) ∧
    ∀ j (h : j < es.length), ∃ g off c0 c1 c2 c3 c4 c5 f, a = some ⟨g, off, none⟩ ∧ hd = [g] ∧ g < w.heap.size ∧ w.cell? ⟨g, off + j * 6, none⟩ = some c0 ∧ w.cell? ⟨g, off + j * 6 + 1, none⟩ = some c1 ∧ w.cell? ⟨g, off + j * 6 + 2, none⟩ = some c2 ∧
      w.cell? ⟨g, off + j * 6 + 3, none⟩ = some c3 ∧ w.cell? ⟨g, off + j * 6 + 4, none⟩ = some c4 ∧ w.cell? ⟨g, off + j * 6 + 5, none⟩ = some c5 ∧ (∀ o, w.frozen? ⟨g, o, none⟩ = false) ∧ fps[j]? = some f ∧ R (.agg #[c0, c1, c2, c3, c4, c5]) es[j] f
def ExOwn (w : World) : Nat → Value → Ex → List Nat → Prop
  | 0, _, _, _ => False
  | d + 1, v, .node k nm n ty es, fp => ∃ c3 c4 sl f1 f2, v = .agg #[.int .i64 k, .string nm, .int .i64 n, c3, c4, sl] ∧ -9223372036854775808 ≤ k ∧ k ≤ 9223372036854775807 ∧ -9223372036854775808 ≤ n ∧ n ≤ 9223372036854775807 ∧ nm.size ≤ 9223372036854775807 ∧
      fp = f1 ++ f2 ∧ TyOwn w d (.agg #[c3, c4]) ty f1 ∧ RowExOwn (ExOwn w d) w sl es f2
def ExsOwn (w : World) (d : Nat) (v : Value) (es : List Ex) (fp : List Nat) : Prop := RowExOwn (ExOwn w d) w v es fp
theorem RowExOwn.imp {R S : Value → Ex → List Nat → Prop} {w w' : World} {v : Value} {es : List Ex} {fp : List Nat} (hz : w.heap.size ≤ w'.heap.size) (hb : ∀ b, b ∈ fp → w'.heap[b]? = w.heap[b]?)
    (hRS : ∀ v e f, (∀ b, b ∈ f → b ∈ fp) → R v e f → S v e f) (h : RowExOwn R w v es fp) : RowExOwn S w' v es fp := by
  obtain ⟨a, cap, hd, fps, hv, hc, hm, hl, hf, hlt, h⟩ := h
  refine ⟨a, cap, hd, fps, hv, hc, hm, hl, hf, fun b hb => Nat.lt_of_lt_of_le (hlt b hb) hz, fun j hj => ?_⟩
  obtain ⟨g, off, c0, c1, c2, c3, c4, c5, f, ha, hh, hg, h0, h1, h2, h3, h4, h5, hfr, hfj, hr⟩ := h j hj
  have hgb : w'.heap[g]? = w.heap[g]? := hb g (by rw [hf, hh]; simp)
  have hk : ∀ o, w'.cell? ⟨g, o, none⟩ = w.cell? ⟨g, o, none⟩ := fun o => World.cell?_of_block (a := ⟨g, o, none⟩) hgb
  refine ⟨g, off, c0, c1, c2, c3, c4, c5, f, ha, hh, by omega, (hk _).trans h0, (hk _).trans h1, (hk _).trans h2, (hk _).trans h3, (hk _).trans h4, (hk _).trans h5, fun o => (World.frozen?_of_block (a := ⟨g, o, none⟩) hgb).trans (hfr o), hfj, hRS _ _ _ (fun b hbf => ?_) hr⟩
  rw [hf]
  exact List.mem_append_right _ (List.mem_flatten.2 ⟨f, List.mem_of_getElem? hfj, hbf⟩)
theorem ExOwn.kept {w w' : World} (hz : w.heap.size ≤ w'.heap.size) : ∀ {d : Nat} {v : Value} {e : Ex} {fp : List Nat}, (∀ b, b ∈ fp → w'.heap[b]? = w.heap[b]?) → ExOwn w d v e fp → ExOwn w' d v e fp
  | 0, _, _, _, _, h => h.elim
  | d + 1, v, .node k nm n ty es, fp, hb, h => by
    obtain ⟨c3, c4, sl, f1, f2, hv, h0, h1, h2, h3, h4, hf, ht, h⟩ := h
    refine ⟨c3, c4, sl, f1, f2, hv, h0, h1, h2, h3, h4, hf, ht.kept hz fun b hbf => hb b (by rw [hf]; exact List.mem_append_left _ hbf), ?_⟩
    exact h.imp hz (fun b hbf => hb b (by rw [hf]; exact List.mem_append_right _ hbf)) fun v e f hsub h => ExOwn.kept hz (fun b hbf => hb b (by rw [hf]; exact List.mem_append_right _ (hsub b hbf))) h
theorem ExsOwn.kept {w w' : World} {d : Nat} {v : Value} {es : List Ex} {fp : List Nat} (h : ExsOwn w d v es fp) (hz : w.heap.size ≤ w'.heap.size) (hb : ∀ b, b ∈ fp → w'.heap[b]? = w.heap[b]?) : ExsOwn w' d v es fp :=
  RowExOwn.imp hz hb (fun _ _ _ hf h => h.kept hz fun b hbf => hb b (hf b hbf)) h
theorem ExOwn.at_ {w : World} : ∀ {d : Nat} {v : Value} {e : Ex} {fp : List Nat}, ExOwn w d v e fp → ExAt w d v e
  | 0, _, _, _, h => h.elim
  | d + 1, v, .node k nm n ty es, fp, h => by
    obtain ⟨c3, c4, sl, f1, f2, hv, h0, h1, h2, h3, h4, hf, ht, a, cap, hd, fps, hs, hc, hm, hl, hf2, hlt, h⟩ := h
    refine ⟨c3, c4, sl, hv, h0, h1, h2, h3, h4, ht.at_, a, cap, hs, hc, hm, fun j hj => ?_⟩
    obtain ⟨g, off, e0, e1, e2, e3, e4, e5, f, ha, hh, hg, g0, g1, g2, g3, g4, g5, hfr, hfj, hr⟩ := h j hj
    exact ⟨g, off, e0, e1, e2, e3, e4, e5, ha, hg, g0, g1, g2, g3, g4, g5, hr.at_⟩
theorem ex_parts {w : World} {d : Nat} {v : Value} {e : Ex} (h : ExAt w d v e) : ∃ k nm n tk ta tn tc a m c, v = .agg #[.int .i64 k, .string nm, .int .i64 n, .int .i64 tk, .slice ta tn tc, .slice a m c] := by
  cases d with
  | zero => exact h.elim
  | succ d =>
    cases e with
    | node k nm n ty es =>
      obtain ⟨c3, c4, sl, rfl, h0, h1, h2, h3, h4, ht, a, cap, rfl, _⟩ := h
      cases d with
      | zero => exact ht.elim
      | succ d =>
        cases ty with
        | node tk ts =>
          obtain ⟨s, hs, _, _, ta, tc, rfl, _⟩ := ht
          injection hs with hs
          injection hs with hs
          simp at hs
          obtain ⟨rfl, rfl⟩ := hs
          exact ⟨_, _, _, _, _, _, _, _, _, _, rfl⟩
theorem ex_cells {w : World} {d : Nat} {c0 c1 c2 c3 c4 c5 : Value} {e : Ex} (h : ExAt w d (.agg #[c0, c1, c2, c3, c4, c5]) e) : ∃ k nm n tk ta tn tc a m c, c0 = .int .i64 k ∧ c1 = .string nm ∧ c2 = .int .i64 n ∧ c3 = .int .i64 tk ∧ c4 = .slice ta tn tc ∧ c5 = .slice a m c := by
  obtain ⟨k, nm, n, tk, ta, tn, tc, a, m, c, hv⟩ := ex_parts h
  injection hv with hv
  injection hv with hv
  simp at hv
  exact ⟨k, nm, n, tk, ta, tn, tc, a, m, c, hv.1, hv.2.1, hv.2.2.1, hv.2.2.2.1, hv.2.2.2.2.1, hv.2.2.2.2.2⟩
end Go.Proofs.Ytefoenkmppeidaa
