/-
  Proved: impl.IsBoxed says whether a core expression is a box; the memory that was there stays as it was.
-/
import Derived.Test.YtnggkcgifjfnfaaDoorOwnTree
import Derived.Test.YtnggkcgifjfnfaaDoorTyEq
import Derived.Test.YtnggkcgifjfnfaaDoorCoTree
import Derived.Test.YtnggkcgifjfnfaaDoorHold
import Derived.Test.YtnggkcgifjfnfaaDoorNodeOf
import Derived.Test.YtnggkcgifjfnfaaDoorSpecValid
import Derived.Test.YtnggkcgifjfnfaaDoorToType
import Derived.Test.YtnggkcgifjfnfaaDoorPart
import Derived.Test.YtnggkcgifjfnfaaDoorTwo
import Derived.Deep.RegionHeld3
import Derived.Test.YtnggkcgifjfnfaaDoorGround
import Derived.Test.YtnggkcgifjfnfaaDoorTypeArg
import Derived.Deep.RegionLaw
import Derived.Test.YtnggkcgifjfnfaaDoorCoBoxed
import Derived.BigQuiet
import Derived.Deep.QuietTactic
/-
  Proved: how an expression's tree lies in memory, and plain facts on such trees.
-/
namespace Go.Proofs.YtnggkcgifjfnfaaDoor
open Go.RowKit

/-- An expression's tree. -/
inductive Ex where
  | node (kind : Int) (name : ByteArray) (n : Int) (ty : Ty) (args : List Ex)
mutual
/-- What an expression holds below its root: letters, nodes of types, nodes. -/
def Ex.bulk : Ex → Nat
  | .node _ nm _ ty es => nm.size + (ty.size - 1) + Ex.bulks es
def Ex.bulks : List Ex → Nat
  | [] => 0
  | e :: r => 1 + e.bulk + Ex.bulks r
end
theorem Ex.bulks_take (es : List Ex) : ∀ k (h : k < es.length), Ex.bulks (es.take (k + 1)) = Ex.bulks (es.take k) + (1 + es[k].bulk) := by
  induction es with
  | nil => intro k h; simp at h
  | cons s r ih =>
    intro k h
    cases k with
    | zero => simp [Ex.bulks]
    | succ k =>
      simp only [List.take_succ_cons, Ex.bulks, List.getElem_cons_succ]
      rw [ih k (by simpa using h)]; omega
theorem Ex.bulks_le (es : List Ex) (k : Nat) : Ex.bulks (es.take k) ≤ Ex.bulks es := by
  induction es generalizing k with
  | nil => simp
  | cons s r ih =>
    cases k with
    | zero => simp [Ex.bulks]
    | succ k => simp only [List.take_succ_cons, Ex.bulks]; have := ih k; omega
theorem Ex.bulk_get (es : List Ex) (k : Nat) (h : k < es.length) : 1 + es[k].bulk ≤ Ex.bulks es := by
  have h1 := Ex.bulks_take es k h
  have h2 := Ex.bulks_le es (k + 1)
  omega
theorem Ex.length_le (es : List Ex) : es.length ≤ Ex.bulks es := by
  induction es with
  | nil => simp
  | cons s r ih => simp only [List.length_cons, Ex.bulks]; omega

def RowEx (R : Value → Ex → Prop) (w : World) (v : Value) (es : List Ex) : Prop :=
  ∃ a cap, v = .slice a es.length cap ∧ es.length ≤ cap ∧ cap ≤ 9223372036854775807 ∧
    ∀ j (h : j < es.length), ∃ b off c0 c1 c2 c3 c4 c5, a = some ⟨b, off, none⟩ ∧ b < w.heap.size ∧ w.cell? ⟨b, off + j * 6, none⟩ = some c0 ∧ w.cell? ⟨b, off + j * 6 + 1, none⟩ = some c1 ∧ w.cell? ⟨b, off + j * 6 + 2, none⟩ = some c2 ∧
      w.cell? ⟨b, off + j * 6 + 3, none⟩ = some c3 ∧ w.cell? ⟨b, off + j * 6 + 4, none⟩ = some c4 ∧ w.cell? ⟨b, off + j * 6 + 5, none⟩ = some c5 ∧ R (.agg #[c0, c1, c2, c3, c4, c5]) es[j]
/-- In the world w the value v reads as the expression e, at most d deep. -/
def ExAt (w : World) : Nat → Value → Ex → Prop
  | 0, _, _ => False
  | d + 1, v, .node k nm n ty es => ∃ c3 c4 sl, v = .agg #[.int .i64 k, .string nm, .int .i64 n, c3, c4, sl] ∧ -9223372036854775808 ≤ k ∧ k ≤ 9223372036854775807 ∧ -9223372036854775808 ≤ n ∧ n ≤ 9223372036854775807 ∧ nm.size ≤ 9223372036854775807 ∧
      TyAt w d (.agg #[c3, c4]) ty ∧ RowEx (ExAt w d) w sl es
def ExsAt (w : World) (d : Nat) (v : Value) (es : List Ex) : Prop := RowEx (ExAt w d) w v es
theorem RowEx.imp {R S : Value → Ex → Prop} {w w' : World} {v : Value} {es : List Ex} (hb : Below w.heap.size w w') (hRS : ∀ v e, R v e → S v e) (h : RowEx R w v es) : RowEx S w' v es := by
  obtain ⟨a, cap, hv, hc, hm, h⟩ := h
  refine ⟨a, cap, hv, hc, hm, fun j hj => ?_⟩
  obtain ⟨b, off, c0, c1, c2, c3, c4, c5, ha, hlt, h0, h1, h2, h3, h4, h5, hr⟩ := h j hj
  have hk : ∀ o, w'.cell? ⟨b, o, none⟩ = w.cell? ⟨b, o, none⟩ := fun o => hb.cell (p := ⟨b, o, none⟩) hlt
  exact ⟨b, off, c0, c1, c2, c3, c4, c5, ha, Nat.lt_of_lt_of_le hlt hb.size, (hk _).trans h0, (hk _).trans h1, (hk _).trans h2, (hk _).trans h3, (hk _).trans h4, (hk _).trans h5, hRS _ _ hr⟩
theorem ExAt.below {w w' : World} (hb : Below w.heap.size w w') : ∀ {d : Nat} {v : Value} {e : Ex}, ExAt w d v e → ExAt w' d v e
  | 0, _, _, h => h.elim
  | d + 1, v, .node k nm n ty es, h => by
    obtain ⟨c3, c4, sl, hv, h0, h1, h2, h3, h4, ht, h⟩ := h
    exact ⟨c3, c4, sl, hv, h0, h1, h2, h3, h4, ht.below hb, h.imp hb fun v e h => ExAt.below hb h⟩
theorem ExsAt.below {w w' : World} {d : Nat} {v : Value} {es : List Ex} (h : ExsAt w d v es) (hb : Below w.heap.size w w') : ExsAt w' d v es :=
  RowEx.imp hb (fun _ _ h => h.below hb) h
theorem RowEx.weaker {R S : Value → Ex → Prop} {w : World} {v : Value} {es : List Ex} (hRS : ∀ v e, R v e → S v e) (h : RowEx R w v es) : RowEx S w v es := h.imp (Below.refl _ _) hRS

/-- Trees whose rows lie each in a block of its own; the blocks' list goes along. -/
def RowExOwn (R : Value → Ex → List Nat → Prop) (w : World) (v : Value) (es : List Ex) (fp : List Nat) : Prop :=
  ∃ a cap hd fps, v = .slice a es.length cap ∧ es.length ≤ cap ∧ cap ≤ 9223372036854775807 ∧ fps.length = es.length ∧ fp = hd ++ List.flatten fps ∧ (∀ b, b ∈ hd → b < w.heap.size) ∧
    ∀ j (h : j < es.length), ∃ g off c0 c1 c2 c3 c4 c5 f, a = some ⟨g, off, none⟩ ∧ hd = [g] ∧ g < w.heap.size ∧ w.cell? ⟨g, off + j * 6, none⟩ = some c0 ∧ w.cell? ⟨g, off + j * 6 + 1, none⟩ = some c1 ∧ w.cell? ⟨g, off + j * 6 + 2, none⟩ = some c2 ∧
      w.cell? ⟨g, off + j * 6 + 3, none⟩ = some c3 ∧ w.cell? ⟨g, off + j * 6 + 4, none⟩ = some c4 ∧ w.cell? ⟨g, off + j * 6 + 5, none⟩ = some c5 ∧ (∀ o, w.frozen? ⟨g, o, none⟩ = false) ∧ fps[j]? = some f ∧ R (.agg #[c0, c1, c2, c3, c4, c5]) es[j] f
def ExOwn (w : World) : Nat → Value → Ex → List Nat → Prop
  | 0, _, _, _ => False
  | d + 1, v, .node k nm n ty es, fp => ∃ c3 c4 sl f1 f2, v = .agg #[.int .i64 k, .string nm, .int .i64 n, c3, c4, sl] ∧ -9223372036854775808 ≤ k ∧ k ≤ 9223372036854775807 ∧ -9223372036854775808 ≤ n ∧ n ≤ 9223372036854775807 ∧ nm.size ≤ 9223372036854775807 ∧
      fp = f1 ++ f2 ∧ TyOwn w d (.agg #[c3, c4]) ty f1 ∧ RowExOwn (ExOwn w d) w sl es f2
def ExsOwn (w : World) (d : Nat) (v : Value) (es : List Ex) (fp : List Nat) : Prop := RowExOwn (ExOwn w d) w v es fp
theorem RowExOwn.imp {R S : Value → Ex → List Nat → Prop} {w w' : World} {v : Value} {es : List Ex} {fp : List Nat} (hz : w.heap.size ≤ w'.heap.size) (hb : ∀ b, b ∈ fp → w'.heap[b]? = w.heap[b]?)
    (hRS : ∀ v e f, (∀ b, b ∈ f → b ∈ fp) → R v e f → S v e f) (h : RowExOwn R w v es fp) : RowExOwn S w' v es fp := by
  obtain ⟨a, cap, hd, fps, hv, hc, hm, hl, hf, hlt, h⟩ := h
  refine ⟨a, cap, hd, fps, hv, hc, hm, hl, hf, fun b hb => Nat.lt_of_lt_of_le (hlt b hb) hz, fun j hj => ?_⟩
  obtain ⟨g, off, c0, c1, c2, c3, c4, c5, f, ha, hh, hg, h0, h1, h2, h3, h4, h5, hfr, hfj, hr⟩ := h j hj
  have hgb : w'.heap[g]? = w.heap[g]? := hb g (by rw [hf, hh]; simp)
  have hk : ∀ o, w'.cell? ⟨g, o, none⟩ = w.cell? ⟨g, o, none⟩ := fun o => World.cell?_of_block (a := ⟨g, o, none⟩) hgb
  refine ⟨g, off, c0, c1, c2, c3, c4, c5, f, ha, hh, by omega, (hk _).trans h0, (hk _).trans h1, (hk _).trans h2, (hk _).trans h3, (hk _).trans h4, (hk _).trans h5, fun o => (World.frozen?_of_block (a := ⟨g, o, none⟩) hgb).trans (hfr o), hfj, hRS _ _ _ (fun b hbf => ?_) hr⟩
  rw [hf]
  exact List.mem_append_right _ (List.mem_flatten.2 ⟨f, List.mem_of_getElem? hfj, hbf⟩)
theorem ExOwn.kept {w w' : World} (hz : w.heap.size ≤ w'.heap.size) : ∀ {d : Nat} {v : Value} {e : Ex} {fp : List Nat}, (∀ b, b ∈ fp → w'.heap[b]? = w.heap[b]?) → ExOwn w d v e fp → ExOwn w' d v e fp
  | 0, _, _, _, _, h => h.elim
  | d + 1, v, .node k nm n ty es, fp, hb, h => by
    obtain ⟨c3, c4, sl, f1, f2, hv, h0, h1, h2, h3, h4, hf, ht, h⟩ := h
    refine ⟨c3, c4, sl, f1, f2, hv, h0, h1, h2, h3, h4, hf, ht.kept hz fun b hbf => hb b (by rw [hf]; exact List.mem_append_left _ hbf), ?_⟩
    exact h.imp hz (fun b hbf => hb b (by rw [hf]; exact List.mem_append_right _ hbf)) fun v e f hsub h => ExOwn.kept hz (fun b hbf => hb b (by rw [hf]; exact List.mem_append_right _ (hsub b hbf))) h
theorem ExsOwn.kept {w w' : World} {d : Nat} {v : Value} {es : List Ex} {fp : List Nat} (h : ExsOwn w d v es fp) (hz : w.heap.size ≤ w'.heap.size) (hb : ∀ b, b ∈ fp → w'.heap[b]? = w.heap[b]?) : ExsOwn w' d v es fp :=
  RowExOwn.imp hz hb (fun _ _ _ hf h => h.kept hz fun b hbf => hb b (hf b hbf)) h
theorem ExOwn.at_ {w : World} : ∀ {d : Nat} {v : Value} {e : Ex} {fp : List Nat}, ExOwn w d v e fp → ExAt w d v e
  | 0, _, _, _, h => h.elim
  | d + 1, v, .node k nm n ty es, fp, h => by
    obtain ⟨c3, c4, sl, f1, f2, hv, h0, h1, h2, h3, h4, hf, ht, a, cap, hd, fps, hs, hc, hm, hl, hf2, hlt, h⟩ := h
    refine ⟨c3, c4, sl, hv, h0, h1, h2, h3, h4, ht.at_, a, cap, hs, hc, hm, fun j hj => ?_⟩
    obtain ⟨g, off, e0, e1, e2, e3, e4, e5, f, ha, hh, hg, g0, g1, g2, g3, g4, g5, hfr, hfj, hr⟩ := h j hj
    exact ⟨g, off, e0, e1, e2, e3, e4, e5, ha, hg, g0, g1, g2, g3, g4, g5, hr.at_⟩
theorem ex_parts {w : World} {d : Nat} {v : Value} {e : Ex} (h : ExAt w d v e) : ∃ k nm n tk ta tn tc a m c, v = .agg #[.int .i64 k, .string nm, .int .i64 n, .int .i64 tk, .slice ta tn tc, .slice a m c] := by
  cases d with
  | zero => exact h.elim
  | succ d =>
    cases e with
    | node k nm n ty es =>
      obtain ⟨c3, c4, sl, rfl, h0, h1, h2, h3, h4, ht, a, cap, rfl, _⟩ := h
      cases d with
      | zero => exact ht.elim
      | succ d =>
        cases ty with
        | node tk ts =>
          obtain ⟨s, hs, _, _, ta, tc, rfl, _⟩ := ht
          injection hs with hs
          injection hs with hs
          simp at hs
          obtain ⟨rfl, rfl⟩ := hs
          exact ⟨_, _, _, _, _, _, _, _, _, _, rfl⟩
theorem ex_cells {w : World} {d : Nat} {c0 c1 c2 c3 c4 c5 : Value} {e : Ex} (h : ExAt w d (.agg #[c0, c1, c2, c3, c4, c5]) e) : ∃ k nm n tk ta tn tc a m c, c0 = .int .i64 k ∧ c1 = .string nm ∧ c2 = .int .i64 n ∧ c3 = .int .i64 tk ∧ c4 = .slice ta tn tc ∧ c5 = .slice a m c := by
  obtain ⟨k, nm, n, tk, ta, tn, tc, a, m, c, hv⟩ := ex_parts h
  injection hv with hv
  injection hv with hv
  simp at hv
  exact ⟨k, nm, n, tk, ta, tn, tc, a, m, c, hv.1, hv.2.1, hv.2.2.1, hv.2.2.2.1, hv.2.2.2.2.1, hv.2.2.2.2.2⟩
end Go.Proofs.YtnggkcgifjfnfaaDoor
/-
  Proved: plain facts on equal expressions; the memory that was there stays as it was.
-/
namespace Go.Proofs.YtnggkcgifjfnfaaDoor
open Go.RowKit

theorem text_ne {a b : ByteArray} (h : a ≠ b) : (a.toList == b.toList) = false := by
  rw [ByteArray.toList_eq, ByteArray.toList_eq]
  refine beq_false_of_ne fun e => h ?_
  cases a; cases b
  exact congrArg ByteArray.mk (Array.toList_inj.1 e)
/-- Two expressions have equal roots: all fields but the parts, and the number of these. -/
def Ex.roots : Ex → Ex → Bool
  | .node k nm n ty es, .node l nl m tz fs => decide (k = l) && (decide (nm = nl) && (decide (n = m) && (ty.beq tz && decide (es.length = fs.length))))
mutual
def Ex.beq : Ex → Ex → Bool
  | .node k nm n ty es, .node l nl m tz fs => (decide (k = l) && (decide (nm = nl) && (decide (n = m) && (ty.beq tz && decide (es.length = fs.length))))) && Ex.beqs es fs
def Ex.beqs : List Ex → List Ex → Bool
  | [], [] => true
  | a :: r, b :: s => a.beq b && Ex.beqs r s
  | _, _ => false
end
theorem Ex.beqs_take : ∀ (cs bs : List Ex) (k : Nat) (h : k < cs.length) (h' : k < bs.length), Ex.beqs (cs.take (k + 1)) (bs.take (k + 1)) = (Ex.beqs (cs.take k) (bs.take k) && cs[k].beq bs[k])
  | [], _, _, h, _ => by simp at h
  | _ :: _, [], _, _, h => by simp at h
  | a :: r, b :: s, 0, _, _ => by simp [Ex.beqs]
  | a :: r, b :: s, k + 1, h, h' => by
    simp only [List.take_succ_cons, Ex.beqs, List.getElem_cons_succ]
    rw [Ex.beqs_take r s k (by simpa using h) (by simpa using h'), Bool.and_assoc]
theorem Ex.beqs_false : ∀ (cs bs : List Ex) (k : Nat), Ex.beqs (cs.take k) (bs.take k) = false → cs.length = bs.length → Ex.beqs cs bs = false
  | [], [], k, h, _ => by simp [Ex.beqs] at h
  | [], _ :: _, _, _, e => by simp at e
  | _ :: _, [], _, _, e => by simp at e
  | a :: r, b :: s, 0, h, _ => by simp [Ex.beqs] at h
  | a :: r, b :: s, k + 1, h, e => by
    simp only [List.take_succ_cons, Ex.beqs, Bool.and_eq_false_iff] at h ⊢
    rcases h with h | h
    · exact Or.inl h
    · exact Or.inr (Ex.beqs_false r s k h (by simpa using e))
end Go.Proofs.YtnggkcgifjfnfaaDoor
/-
  Proved: plain facts on equal core expressions and environments; no program.
-/
namespace Go.Proofs.YtnggkcgifjfnfaaDoor
open Go.RowKit

def nbeqs : List ByteArray → List ByteArray → Bool
  | [], [] => true
  | a :: r, b :: s => decide (a = b) && nbeqs r s
  | _, _ => false
mutual
def Co.beq : Co → Co → Bool
  | .node k nm n fr ty es ns vs, .node l nl m gr tz fs ms us => (decide (k = l) && (decide (nm = nl) && (decide (n = m) && (fr.beq gr && ty.beq tz)))) && (Co.beqs es fs && (nbeqs ns ms && Co.beqs vs us))
def Co.beqs : List Co → List Co → Bool
  | [], [] => true
  | a :: r, b :: s => a.beq b && Co.beqs r s
  | _, _ => false
end
theorem nbeqs_len : ∀ (cs bs : List ByteArray), cs.length ≠ bs.length → nbeqs cs bs = false
  | [], [], h => (h rfl).elim
  | [], _ :: _, _ => rfl
  | _ :: _, [], _ => rfl
  | a :: r, b :: s, h => by
    simp only [nbeqs, nbeqs_len r s (by simpa using h), Bool.and_false]
theorem nbeqs_take : ∀ (cs bs : List ByteArray) (k : Nat) (h : k < cs.length) (h' : k < bs.length), nbeqs (cs.take (k + 1)) (bs.take (k + 1)) = (nbeqs (cs.take k) (bs.take k) && decide (cs[k] = bs[k]))
  | [], _, _, h, _ => by simp at h
  | _ :: _, [], _, _, h => by simp at h
  | a :: r, b :: s, 0, _, _ => by simp [nbeqs]
  | a :: r, b :: s, k + 1, h, h' => by
    simp only [List.take_succ_cons, nbeqs, List.getElem_cons_succ]
    rw [nbeqs_take r s k (by simpa using h) (by simpa using h'), Bool.and_assoc]
theorem nbeqs_false : ∀ (cs bs : List ByteArray) (k : Nat), nbeqs (cs.take k) (bs.take k) = false → cs.length = bs.length → nbeqs cs bs = false
  | [], [], k, h, _ => by simp [nbeqs] at h
  | [], _ :: _, _, _, e => by simp at e
  | _ :: _, [], _, _, e => by simp at e
  | a :: r, b :: s, 0, h, _ => by simp [nbeqs] at h
  | a :: r, b :: s, k + 1, h, e => by
    simp only [List.take_succ_cons, nbeqs, Bool.and_eq_false_iff] at h ⊢
    rcases h with h | h
    · exact Or.inl h
    · exact Or.inr (nbeqs_false r s k h (by simpa using e))
theorem Co.beqs_len : ∀ (cs bs : List Co), cs.length ≠ bs.length → Co.beqs cs bs = false
  | [], [], h => (h rfl).elim
  | [], _ :: _, _ => rfl
  | _ :: _, [], _ => rfl
  | a :: r, b :: s, h => by
    simp only [Co.beqs, Co.beqs_len r s (by simpa using h), Bool.and_false]
theorem Co.beqs_take : ∀ (cs bs : List Co) (k : Nat) (h : k < cs.length) (h' : k < bs.length), Co.beqs (cs.take (k + 1)) (bs.take (k + 1)) = (Co.beqs (cs.take k) (bs.take k) && cs[k].beq bs[k])
  | [], _, _, h, _ => by simp at h
  | _ :: _, [], _, _, h => by simp at h
  | a :: r, b :: s, 0, _, _ => by simp [Co.beqs]
  | a :: r, b :: s, k + 1, h, h' => by
    simp only [List.take_succ_cons, Co.beqs, List.getElem_cons_succ]
    rw [Co.beqs_take r s k (by simpa using h) (by simpa using h'), Bool.and_assoc]
theorem Co.beqs_false : ∀ (cs bs : List Co) (k : Nat), Co.beqs (cs.take k) (bs.take k) = false → cs.length = bs.length → Co.beqs cs bs = false
  | [], [], k, h, _ => by simp [Co.beqs] at h
  | [], _ :: _, _, _, e => by simp at e
  | _ :: _, [], _, _, e => by simp at e
  | a :: r, b :: s, 0, h, _ => by simp [Co.beqs] at h
  | a :: r, b :: s, k + 1, h, e => by
    simp only [List.take_succ_cons, Co.beqs, Bool.and_eq_false_iff] at h ⊢
    rcases h with h | h
    · exact Or.inl h
    · exact Or.inr (Co.beqs_false r s k h (by simpa using e))
/-- Two environments are equal: their names and their values. -/
def ebeq (ns : List ByteArray) (vs : List Co) (ms : List ByteArray) (us : List Co) : Bool := nbeqs ns ms && Co.beqs vs us
theorem ebeq_len (ns : List ByteArray) (vs : List Co) (ms : List ByteArray) (us : List Co) (h : vs.length ≠ us.length) : ebeq ns vs ms us = false := by
  unfold ebeq
  rw [Co.beqs_len vs us h, Bool.and_false]
theorem ebeq_take (ns : List ByteArray) (vs : List Co) (ms : List ByteArray) (us : List Co) (k : Nat) (h1 : k < ns.length) (h2 : k < vs.length) (h3 : k < ms.length) (h4 : k < us.length) :
    ebeq (ns.take (k + 1)) (vs.take (k + 1)) (ms.take (k + 1)) (us.take (k + 1)) = (ebeq (ns.take k) (vs.take k) (ms.take k) (us.take k) && (decide (ns[k] = ms[k]) && vs[k].beq us[k])) := by
  unfold ebeq
  rw [nbeqs_take ns ms k h1 h3, Co.beqs_take vs us k h2 h4]
  cases nbeqs (ns.take k) (ms.take k) <;> cases decide (ns[k] = ms[k]) <;> cases Co.beqs (vs.take k) (us.take k) <;> rfl
theorem ebeq_bad (ns : List ByteArray) (vs : List Co) (ms : List ByteArray) (us : List Co) (k : Nat) (h1 : k < ns.length) (h2 : k < vs.length) (h3 : k < ms.length) (h4 : k < us.length) (e1 : ns.length = ms.length) (e2 : vs.length = us.length)
    (hb : (decide (ns[k] = ms[k]) && vs[k].beq us[k]) = false) : ebeq ns vs ms us = false := by
  unfold ebeq
  cases hd : decide (ns[k] = ms[k]) with
  | false => rw [nbeqs_false ns ms (k + 1) (by rw [nbeqs_take ns ms k h1 h3, hd, Bool.and_false]) e1, Bool.false_and]
  | true =>
    rw [hd, Bool.true_and] at hb
    rw [Co.beqs_false vs us (k + 1) (by rw [Co.beqs_take vs us k h2 h4, hb, Bool.and_false]) e2, Bool.and_false]
/-- In the world w the pointer v leads to the core expression t. -/
def PtrCo (w : World) (d : Nat) (v : Value) (t : Co) : Prop :=
  ∃ b off c0 c1 c2 c3 c4 c5 c6 c7 c8, v = .pointer (some ⟨b, off, none⟩) ∧ b < w.heap.size ∧ w.cell? ⟨b, off, none⟩ = some c0 ∧ w.cell? ⟨b, off + 1, none⟩ = some c1 ∧ w.cell? ⟨b, off + 2, none⟩ = some c2 ∧ w.cell? ⟨b, off + 3, none⟩ = some c3 ∧ w.cell? ⟨b, off + 4, none⟩ = some c4 ∧ w.cell? ⟨b, off + 5, none⟩ = some c5 ∧ w.cell? ⟨b, off + 6, none⟩ = some c6 ∧ w.cell? ⟨b, off + 7, none⟩ = some c7 ∧ w.cell? ⟨b, off + 8, none⟩ = some c8 ∧ CoAt w d (.agg #[c0, c1, c2, c3, c4, c5, c6, c7, c8]) t
theorem PtrCo.below {w w' : World} {d : Nat} {v : Value} {t : Co} (h : PtrCo w d v t) (hb : Below w.heap.size w w') : PtrCo w' d v t := by
  obtain ⟨b, off, c0, c1, c2, c3, c4, c5, c6, c7, c8, hv, hlt, h0, h1, h2, h3, h4, h5, h6, h7, h8, ht⟩ := h
  have hk : ∀ o, w'.cell? ⟨b, o, none⟩ = w.cell? ⟨b, o, none⟩ := fun o => hb.cell (p := ⟨b, o, none⟩) hlt
  exact ⟨b, off, c0, c1, c2, c3, c4, c5, c6, c7, c8, hv, Nat.lt_of_lt_of_le hlt hb.size, (hk _).trans h0, (hk _).trans h1, (hk _).trans h2, (hk _).trans h3, (hk _).trans h4, (hk _).trans h5, (hk _).trans h6, (hk _).trans h7, (hk _).trans h8, ht.below hb⟩
end Go.Proofs.YtnggkcgifjfnfaaDoor
/-
  Proved: impl.UnknownType makes its type; the memory that was there stays as it was.
-/
namespace Go.Proofs.YtnggkcgifjfnfaaDoor
open Go.RowKit

set_option maxRecDepth 100000 in
theorem implUnknownType (w : World) : Calls Tryd.prog 85 #[] w fun e w' => e = .returned (.agg #[.int .i64 1, .slice none 0 0]) ∧ Below w.heap.size w w' := by
  go_enter Tryd.func85, Tryd.ntmps85
  go_wp2_with fail
  refine bodyPost_ret (v := .agg #[.int .i64 1, .slice none 0 0]) (by simp [results, Tryd.results85, go_sem]) rfl ?_
  exact ⟨rfl, below_alloc _ _⟩
end Go.Proofs.YtnggkcgifjfnfaaDoor
/-
  Proved: impl.NumType and BoolType make their types; the memory that was there stays as it was.
-/
namespace Go.Proofs.YtnggkcgifjfnfaaDoor
open Go.RowKit

set_option maxRecDepth 100000 in
theorem implNumType (w : World) : Calls Tryd.prog 97 #[] w fun e w' => e = .returned (.agg #[.int .i64 2, .slice none 0 0]) ∧ Below w.heap.size w w' := by
  go_enter Tryd.func97, Tryd.ntmps97
  go_wp2_with fail
  refine bodyPost_ret (v := .agg #[.int .i64 2, .slice none 0 0]) (by simp [results, Tryd.results97, go_sem]) rfl ?_
  exact ⟨rfl, below_alloc _ _⟩
set_option maxRecDepth 100000 in
theorem implBoolType (w : World) : Calls Tryd.prog 98 #[] w fun e w' => e = .returned (.agg #[.int .i64 3, .slice none 0 0]) ∧ Below w.heap.size w w' := by
  go_enter Tryd.func98, Tryd.ntmps98
  go_wp2_with fail
  refine bodyPost_ret (v := .agg #[.int .i64 3, .slice none 0 0]) (by simp [results, Tryd.results98, go_sem]) rfl ?_
  exact ⟨rfl, below_alloc _ _⟩
end Go.Proofs.YtnggkcgifjfnfaaDoor
/-
  Proved: the method parts of each of the five nodes gives the parts of a type (none for the first three), and leaves the memory that was there as it was; which function a call of parts through the interface runs.
-/
namespace Go.Proofs.YtnggkcgifjfnfaaDoor
open Go.RowKit

theorem meth_unknown (n : Nat) (w : World) : (method (n + 1) 101 (.agg #[]) "loop.example/g00585/impl.parts").run Tryd.prog w = .ok (134, .agg #[]) w := by kernel_rfl
theorem meth_num (n : Nat) (w : World) : (method (n + 1) 102 (.agg #[]) "loop.example/g00585/impl.parts").run Tryd.prog w = .ok (135, .agg #[]) w := by kernel_rfl
theorem meth_bool (n : Nat) (w : World) : (method (n + 1) 103 (.agg #[]) "loop.example/g00585/impl.parts").run Tryd.prog w = .ok (136, .agg #[]) w := by kernel_rfl
theorem meth_arrow (n : Nat) (w : World) (a b c d : Value) : (method (n + 1) 105 (.agg #[a, b, c, d]) "loop.example/g00585/impl.parts").run Tryd.prog w = .ok (137, .agg #[a, b, c, d]) w := by kernel_rfl
theorem meth_pair (n : Nat) (w : World) (a b c d : Value) : (method (n + 1) 107 (.agg #[a, b, c, d]) "loop.example/g00585/impl.parts").run Tryd.prog w = .ok (138, .agg #[a, b, c, d]) w := by kernel_rfl

set_option maxRecDepth 100000 in
theorem parts_unknown (w : World) : Calls Tryd.prog 134 #[.agg #[]] w fun e w' => e = .returned (.slice none 0 0) ∧ Below w.heap.size w w' := by
  go_enter Tryd.func134, Tryd.ntmps134
  go_wp2_with fail
  go_ret
  exact ⟨rfl, below_alloc _ _⟩
set_option maxRecDepth 100000 in
theorem parts_num (w : World) : Calls Tryd.prog 135 #[.agg #[]] w fun e w' => e = .returned (.slice none 0 0) ∧ Below w.heap.size w w' := by
  go_enter Tryd.func135, Tryd.ntmps135
  go_wp2_with fail
  go_ret
  exact ⟨rfl, below_alloc _ _⟩
set_option maxRecDepth 100000 in
theorem parts_bool (w : World) : Calls Tryd.prog 136 #[.agg #[]] w fun e w' => e = .returned (.slice none 0 0) ∧ Below w.heap.size w w' := by
  go_enter Tryd.func136, Tryd.ntmps136
  go_wp2_with fail
  go_ret
  exact ⟨rfl, below_alloc _ _⟩
def PartsEnd (w0 : World) (d : Nat) (t1 t2 : Ty) (w : World) (e : Ending) (w' : World) : Prop :=
  ∃ b, e = .returned (.slice (some ⟨b, 0, none⟩) 2 2) ∧ RowIn (TyAt w0 d) w' w.heap.size (.slice (some ⟨b, 0, none⟩) 2 2) [t1, t2] ∧ Below w.heap.size w w'
theorem tys_two {w0 w : World} {d b lo : Nat} {t1 t2 : Ty} {k1 k2 : Int} {s1 s2 : Value} (hlo : lo ≤ b) (hb : b < w.heap.size) (h0 : w.cell? ⟨b, 0, none⟩ = some (.int .i64 k1)) (h1 : w.cell? ⟨b, 1, none⟩ = some s1) (h2 : w.cell? ⟨b, 2, none⟩ = some (.int .i64 k2)) (h3 : w.cell? ⟨b, 3, none⟩ = some s2)
    (ht1 : TyAt w0 d (.agg #[.int .i64 k1, s1]) t1) (ht2 : TyAt w0 d (.agg #[.int .i64 k2, s2]) t2) : RowIn (TyAt w0 d) w lo (.slice (some ⟨b, 0, none⟩) 2 2) [t1, t2] := by
  refine ⟨_, _, rfl, Nat.le_refl _, by simp, fun j hj => ?_⟩
  match j, hj with
  | 0, _ => exact ⟨b, 0, _, _, rfl, hlo, hb, by simpa using h0, by simpa using h1, ht1⟩
  | 1, _ => exact ⟨b, 0, _, _, rfl, hlo, hb, by simpa using h2, by simpa using h3, ht2⟩
theorem box_four {w : World} {a b c d : Value} {T : TypeId} : BoxAt ((w.alloc (.cells #[a, b, c, d] T)).alloc (.cells #[a, b, c, d] 33)) (w.heap.size + 1) #[a, b, c, d] := by
  have h := BoxAt.new (w.alloc (.cells #[a, b, c, d] T)) #[a, b, c, d] 33
  rw [show (w.alloc (.cells #[a, b, c, d] T)).heap.size = w.heap.size + 1 from by simp] at h
  exact h
set_option maxRecDepth 100000 in
set_option maxHeartbeats 1000000 in
theorem parts_arrow (w0 : World) (d : Nat) (t1 t2 : Ty) (k1 k2 : Int) (v1 v2 : Value) (w : World) (h1 : TyAt w0 d (.agg #[.int .i64 k1, v1]) t1) (h2 : TyAt w0 d (.agg #[.int .i64 k2, v2]) t2) :
    Calls Tryd.prog 137 #[.agg #[.int .i64 k1, v1, .int .i64 k2, v2]] w (PartsEnd w0 d t1 t2 w) := by
  obtain ⟨_, s1, n1, c1, _, rfl⟩ := at_parts h1
  obtain ⟨_, s2, n2, c2, _, rfl⟩ := at_parts h2
  have H1 := Lib.hid h1
  have H2 := Lib.hid h2
  clear h1 h2
  go_enter Tryd.func137, Tryd.ntmps137
  go_wp2_with fail
  go_ret
  have X := ((Below.refl w.heap.size w).alloc (Nat.le_refl _) (.cells #[.int .i64 k1, .slice s1 n1 c1, .int .i64 k2, .slice s2 n2 c2] 105)).alloc (by simp) (.cells #[.int .i64 k1, .slice s1 n1 c1, .int .i64 k2, .slice s2 n2 c2] 33)
  have Y := box_four (w := w) (a := .int .i64 k1) (b := .slice s1 n1 c1) (c := .int .i64 k2) (d := .slice s2 n2 c2) (T := 105)
  exact ⟨_, rfl, tys_two (by omega) Y.1 (Y.2 0) (Y.2 1) (Y.2 2) (Y.2 3) H1.out H2.out, X⟩
set_option maxRecDepth 100000 in
set_option maxHeartbeats 1000000 in
theorem parts_pair (w0 : World) (d : Nat) (t1 t2 : Ty) (k1 k2 : Int) (v1 v2 : Value) (w : World) (h1 : TyAt w0 d (.agg #[.int .i64 k1, v1]) t1) (h2 : TyAt w0 d (.agg #[.int .i64 k2, v2]) t2) :
    Calls Tryd.prog 138 #[.agg #[.int .i64 k1, v1, .int .i64 k2, v2]] w (PartsEnd w0 d t1 t2 w) := by
  obtain ⟨_, s1, n1, c1, _, rfl⟩ := at_parts h1
  obtain ⟨_, s2, n2, c2, _, rfl⟩ := at_parts h2
  have H1 := Lib.hid h1
  have H2 := Lib.hid h2
  clear h1 h2
  go_enter Tryd.func138, Tryd.ntmps138
  go_wp2_with fail
  go_ret
  have X := ((Below.refl w.heap.size w).alloc (Nat.le_refl _) (.cells #[.int .i64 k1, .slice s1 n1 c1, .int .i64 k2, .slice s2 n2 c2] 107)).alloc (by simp) (.cells #[.int .i64 k1, .slice s1 n1 c1, .int .i64 k2, .slice s2 n2 c2] 33)
  have Y := box_four (w := w) (a := .int .i64 k1) (b := .slice s1 n1 c1) (c := .int .i64 k2) (d := .slice s2 n2 c2) (T := 107)
  exact ⟨_, rfl, tys_two (by omega) Y.1 (Y.2 0) (Y.2 1) (Y.2 2) (Y.2 3) H1.out H2.out, X⟩
end Go.Proofs.YtnggkcgifjfnfaaDoor
/-
  Proved: impl.typeWithin says whether a type's tree has the form of a type and fits into the room and the depth that are left; it counts the room down, and touches nothing else.
-/
namespace Go.Proofs.YtnggkcgifjfnfaaDoor
open Go.RowKit

def within (t : Ty) (r dp : Int) : Bool := decide ((t.size : Int) ≤ r) && decide ((t.depth : Int) ≤ dp) && t.form
def WithinEnd (p : Nat) (r dp : Int) (t : Ty) (w : World) (e : Ending) (w' : World) : Prop :=
  ∃ r' : Int, e = .returned (.bool (within t r dp)) ∧ w'.cell? ⟨p, 0, none⟩ = some (.int .i64 r') ∧ w'.frozen? ⟨p, 0, none⟩ = false ∧ r - t.size ≤ r' ∧ r' ≤ r ∧ (within t r dp = true → r' = r - t.size) ∧
    Below p w w' ∧ (∀ b, b < w.heap.size → b ≠ p → w'.heap[b]? = w.heap[b]?)
/-- What the count leaves of memory: below p nothing has changed, nor any old block but p; the room holds r. -/
def Room (p : Nat) (r : Int) (w w' : World) : Prop :=
  w'.cell? ⟨p, 0, none⟩ = some (.int .i64 r) ∧ w'.frozen? ⟨p, 0, none⟩ = false ∧ Below p w w' ∧ (∀ b, b < w.heap.size → b ≠ p → w'.heap[b]? = w.heap[b]?)
theorem Room.stored {p : Nat} {r : Int} {x : Value} {w w2 : World} (hp : p < w.heap.size) (hb : Below w.heap.size w w2) (e0 : w2.cell? ⟨p, 0, none⟩ = some x) (e1 : w2.frozen? ⟨p, 0, none⟩ = false) : Room p r w (w2.setCell ⟨p, 0, none⟩ (.int .i64 r)) := by
  refine ⟨by simp [go_sem, e0], by simp [go_sem, e1], (hb.mono (Nat.le_of_lt hp)).setCell (Nat.le_refl _) _, fun b h1 h2 => ?_⟩
  rw [heap_setCell_other _ _ _ _ h2]
  exact hb.block b h1
theorem Room.below {p : Nat} {r : Int} {w w1 w2 : World} (hp : p < w.heap.size) (h : Room p r w w1) (hb : Below w1.heap.size w1 w2) : Room p r w w2 := by
  obtain ⟨h0, h1, h2, h3⟩ := h
  have hz := h2.size
  refine ⟨(hb.cell (p := ⟨p, 0, none⟩) (Nat.lt_of_lt_of_le hp hz)).trans h0, (hb.frozen (p := ⟨p, 0, none⟩) (Nat.lt_of_lt_of_le hp hz)).trans h1, h2.trans (hb.mono (by omega)), fun b hb1 hb2 => ?_⟩
  rw [hb.block b (by omega)]
  exact h3 b hb1 hb2
theorem Room.on {p : Nat} {r r2 : Int} {w w1 w2 : World} (h : Room p r w w1) (h2 : Room p r2 w1 w2) : Room p r2 w w2 := by
  obtain ⟨_, _, g2, g3⟩ := h
  obtain ⟨k0, k1, k2, k3⟩ := h2
  refine ⟨k0, k1, g2.trans k2, fun b hb1 hb2 => ?_⟩
  rw [k3 b (by have := g2.size; omega) hb2]
  exact g3 b hb1 hb2
theorem WithinEnd.of {p : Nat} {r dp r' : Int} {t : Ty} {w w' : World} {b : Bool} (hb : within t r dp = b) (hr : Room p r' w w') (h1 : r - t.size ≤ r') (h2 : r' ≤ r) (h3 : b = true → r' = r - t.size) : WithinEnd p r dp t w (.returned (.bool b)) w' := by
  subst hb
  exact ⟨r', rfl, hr.1, hr.2.1, h1, h2, h3, hr.2.2.1, hr.2.2.2⟩
theorem WithinEnd.room {p : Nat} {r dp : Int} {t : Ty} {w w' : World} {e : Ending} (h : WithinEnd p r dp t w e w') : ∃ r', e = .returned (.bool (within t r dp)) ∧ Room p r' w w' ∧ r - t.size ≤ r' ∧ r' ≤ r ∧ (within t r dp = true → r' = r - t.size) := by
  obtain ⟨r', h0, h1, h2, h3, h4, h5, h6, h7⟩ := h
  exact ⟨r', h0, ⟨h1, h2, h6, h7⟩, h3, h4, h5⟩
theorem Ty.depths_get (ts : List Ty) (k : Nat) (h : k < ts.length) : ts[k].depth ≤ Ty.depths ts := by
  induction ts generalizing k with
  | nil => simp at h
  | cons s r ih =>
    cases k with
    | zero => simp only [List.getElem_cons_zero, Ty.depths]; omega
    | succ k => simp only [List.getElem_cons_succ, Ty.depths]; have := ih k (by simpa using h); omega
theorem within_true {t : Ty} {r dp : Int} (h : within t r dp = true) : (t.size : Int) ≤ r ∧ (t.depth : Int) ≤ dp ∧ t.form = true := by
  simp only [within, Bool.and_eq_true, decide_eq_true_eq] at h
  exact ⟨h.1.1, h.1.2, h.2⟩
theorem within_sub {kd r dp r2 : Int} {ts : List Ty} {k : Nat} (h : k < ts.length) (hr : r2 = r - 1 - Ty.sizes (ts.take k)) (hf : within ts[k] r2 (dp - 1) = false) : within (.node kd ts) r dp = false := by
  cases hw : within (.node kd ts) r dp with
  | false => rfl
  | true =>
    obtain ⟨w1, w2, w3⟩ := within_true hw
    simp only [Ty.size, Ty.depth, Ty.form, Bool.and_eq_true] at w1 w2 w3
    have h1 := Ty.sizes_take ts k h
    have h2 := Ty.sizes_le ts (k + 1)
    have h3 := Ty.depths_get ts k h
    have h4 : ts[k].form = true := by
      have e := Ty.forms_take ts k h
      cases hfk : ts[k].form with
      | true => rfl
      | false =>
        rw [hfk, Bool.and_false] at e
        have := Ty.forms_false ts (k + 1) e
        rw [this] at w3; exact absurd w3.1 (by simp)
    have : within ts[k] r2 (dp - 1) = true := by
      simp only [within, Bool.and_eq_true, decide_eq_true_eq]
      exact ⟨⟨by omega, by omega⟩, h4⟩
    rw [this] at hf; cases hf
theorem within_mk {t : Ty} {r dp : Int} (h1 : (t.size : Int) ≤ r) (h2 : (t.depth : Int) ≤ dp) (h3 : t.form = true) : within t r dp = true := by
  simp only [within, Bool.and_eq_true, decide_eq_true_eq]
  exact ⟨⟨h1, h2⟩, h3⟩
set_option maxRecDepth 100000 in
set_option maxHeartbeats 4000000 in
theorem implWithin (w0 : World) : ∀ (d : Nat) (v : Value) (t : Ty) (p : Nat) (r dp : Int) (w : World), TyAt w0 d v t → Below w0.heap.size w0 w → w0.heap.size ≤ p → t.size ≤ 1048577 → p < w.heap.size → 0 ≤ r → r ≤ 1048576 → 0 ≤ dp → dp ≤ 100 →
    w.cell? ⟨p, 0, none⟩ = some (.int .i64 r) → w.frozen? ⟨p, 0, none⟩ = false →
    Calls Tryd.prog 87 #[v, .pointer (some ⟨p, 0, none⟩), .int .i64 dp] w (WithinEnd p r dp t w)
  | 0, _, _, _, _, _, _, h, _, _, _, _, _, _, _, _, _, _ => h.elim
  | d + 1, v, .node kd ts, p, r, dp, w, h, hw0, hp0, hsz, hp, hr0, hr1, hd0, hd1, hcell, hfroz => by
    have IH : Hid (∀ (v : Value) (t : Ty) (p : Nat) (r dp : Int) (w : World), TyAt w0 d v t → Below w0.heap.size w0 w → w0.heap.size ≤ p → t.size ≤ 1048577 → p < w.heap.size → 0 ≤ r → r ≤ 1048576 → 0 ≤ dp → dp ≤ 100 →
      w.cell? ⟨p, 0, none⟩ = some (.int .i64 r) → w.frozen? ⟨p, 0, none⟩ = false →
      Calls Tryd.prog 87 #[v, .pointer (some ⟨p, 0, none⟩), .int .i64 dp] w (WithinEnd p r dp t w)) := implWithin w0 d
    have hlen : ts.length ≤ 1152921504606846976 := by have := Ty.length_le ts; simp [Ty.size] at hsz; omega
    have HSZ : Hid (1 + Ty.sizes ts ≤ 1048577) := by simp [Ty.size] at hsz; show _ ≤ _; omega
    have hszi : (Ty.node kd ts).size = 1 + Ty.sizes ts := rfl
    have HSI := Lib.hid hszi
    clear hsz hszi
    have HT := Lib.hid h
    obtain ⟨sk, sa, sn, sc, rfl⟩ := agg_parts h
    clear h
    have HW0 := Lib.hid hw0; clear hw0
    have hb := HW0.out.alloc HW0.out.size (.cells #[.int .i64 sk, .slice sa sn sc] 33)
    have HW1 := Lib.hid hb; clear hb
    have hpw : ¬ (p = w.heap.size) := by omega
    go_enter Tryd.func87, Tryd.ntmps87
    go_wp2_with fail
    refine (implNode w0 d _ kd ts _ HT.out HW1.out hlen).mono ?_
    rintro e w2 ⟨n, rfl, hnode, hb⟩
    have B2 := Lib.hid (below_on (below_alloc w _) hb (by simp)); clear hb HW1
    have e0 := (B2.out.cell (p := ⟨p, 0, none⟩) hp).trans hcell
    have e1 := (B2.out.frozen (p := ⟨p, 0, none⟩) hp).trans hfroz
    have R2 := Lib.hid (Room.stored (r := r - 1) hp B2.out e0 e1)
    clear hcell hfroz
    have fin : ∀ b, within (.node kd ts) r dp = b → b = false → WithinEnd p r dp (.node kd ts) w (.returned (.bool b)) (w2.setCell ⟨p, 0, none⟩ (.int .i64 (r - 1))) := fun b h1 h2 =>
      WithinEnd.of h1 R2.out (by rw [HSI.out]; omega) (by omega) (fun h => by rw [h2] at h; cases h)
    have FIN := Lib.hid fin; clear fin
    have HSG : Hid (Ty.size (.node kd ts) = 1 + Ty.sizes ts) := HSI.out
    by_cases hkb : kindOk kd ts.length = false
    · have hn : n = .nilIface := by
        rcases hnode with ⟨_, h⟩ | ⟨h, _⟩ | ⟨h, _⟩
        · exact h
        · rw [hkb] at h; cases h
        · rw [hkb] at h; cases h
      subst hn
      go_wp2_with fail
      go_ret
      exact FIN.out _ (by simp [within, Ty.form, hkb]) rfl
    have hko : kindOk kd ts.length = true := by simpa using hkb
    have HKO := Lib.hid hko; clear hko hkb
    have early : r < 1 ∨ dp = 0 → within (.node kd ts) r dp = false := fun h => by
      cases hw : within (.node kd ts) r dp with
      | false => rfl
      | true =>
        obtain ⟨w1, w2, w3⟩ := within_true hw
        simp only [Ty.size, Ty.depth] at w1 w2
        omega
    have EARLY := Lib.hid early; clear early
    by_cases hr : r < 1
    · rcases hnode with ⟨h, _⟩ | ⟨_, rfl, ⟨rfl, rfl⟩ | ⟨rfl, rfl⟩ | ⟨rfl, rfl⟩⟩ | ⟨_, t1, t2, k1, s1, k2, s2, rfl, ht1, ht2, ⟨rfl, rfl⟩ | ⟨rfl, rfl⟩⟩
      · rw [HKO.out] at h; cases h
      all_goals (go_wp2_with fail; go_ret; exact FIN.out _ (EARLY.out (Or.inl hr)) rfl)
    by_cases hd : dp = 0
    · have hdb : (dp == 0) = true := by simp [hd]
      rcases hnode with ⟨h, _⟩ | ⟨_, rfl, ⟨rfl, rfl⟩ | ⟨rfl, rfl⟩ | ⟨rfl, rfl⟩⟩ | ⟨_, t1, t2, k1, s1, k2, s2, rfl, ht1, ht2, ⟨rfl, rfl⟩ | ⟨rfl, rfl⟩⟩
      · rw [HKO.out] at h; cases h
      all_goals (go_wp2_with fail; go_ret; exact FIN.out _ (EARLY.out (Or.inr hd)) rfl)
    have hdb : (dp == 0) = false := by simp [hd]
    clear FIN EARLY
    rcases hnode with ⟨h, _⟩ | ⟨_, rfl, ⟨rfl, rfl⟩ | ⟨rfl, rfl⟩ | ⟨rfl, rfl⟩⟩ | ⟨_, t1, t2, k1, s1, k2, s2, rfl, ht1, ht2, ⟨rfl, rfl⟩ | ⟨rfl, rfl⟩⟩
    · rw [HKO.out] at h; cases h
    · have hm := meth_unknown
      go_wp2_with fail
      refine (parts_unknown _).mono ?_
      rintro e w4 ⟨rfl, hb⟩
      have R4 := Lib.hid (R2.out.below hp hb)
      have HZ : Hid (w.heap.size ≤ w2.heap.size) := B2.out.size
      have hz4 := hb.size
      rw [World.size_setCell] at hz4
      clear hb R2 e0 e1 B2 hm
      have hz2 : w.heap.size ≤ w2.heap.size := HZ.out
      clear HZ
      go_wp2_with fail
      go_loopw [32] (fun i wr => ∃ k : Nat, k ≤ 0 ∧ i = .int .i64 k ∧ 0 ≤ r - 1 - (Ty.sizes (List.take k []) : Int) ∧ (Ty.depths (List.take k []) : Int) ≤ dp - 1 ∧ Ty.forms (List.take k []) = true ∧ Room p (r - 1 - Ty.sizes (List.take k [])) w wr ∧ w4.heap.size ≤ wr.heap.size ∧ (∀ b, b < w4.heap.size → b ≠ p → wr.heap[b]? = w4.heap[b]?)) (fun i _ => 0 - (intOf i).toNat)
      case atStart => exact ⟨0, by omega, rfl, by simp [Ty.sizes]; omega, by simp [Ty.depths]; omega, by simp [Ty.forms], by simpa [Ty.sizes] using R4.out, Nat.le_refl _, fun _ _ _ => rfl⟩
      case round =>
        obtain ⟨k, hk, rfl, hs, hds, hf, hroom, hz, hkeep⟩ := hrel
        have HS := Lib.hid hs
        have HD := Lib.hid hds
        have HF := Lib.hid hf
        have HR := Lib.hid hroom
        have HK := Lib.hid hkeep
        clear hs hds hf hroom hkeep
        obtain rfl : k = 0 := by omega
        have hfin : within (.node 1 []) r dp = true := by
          have h1 : 0 ≤ r - 1 - (Ty.sizes [] : Int) := HS.out
          have h2 : (Ty.depths [] : Int) ≤ dp - 1 := HD.out
          have h3 : Ty.forms [] = true := HF.out
          have h4 := HKO.out
          exact within_mk (show ((1 + Ty.sizes [] : Nat) : Int) ≤ r by omega) (show ((1 + Ty.depths [] : Nat) : Int) ≤ dp by omega) (by simp only [Ty.form, h3, h4, Bool.and_self])
        have HFIN := Lib.hid hfin; clear hfin
        have h1 : 0 ≤ r - 1 - (Ty.sizes [] : Int) := HS.out
        have hlo : r - ↑(1 + Ty.sizes []) ≤ r - 1 - ↑(Ty.sizes []) := by omega
        have HLO := Lib.hid hlo; clear hlo h1
        go_wp2_with fail
        go_ret
        exact WithinEnd.of (r' := r - 1 - ↑(Ty.sizes [])) HFIN.out HR.out (by rw [HSG.out]; exact HLO.out) (by omega) (fun _ => by rw [HSG.out]; omega)
    · have hm := meth_num
      go_wp2_with fail
      refine (parts_num _).mono ?_
      rintro e w4 ⟨rfl, hb⟩
      have R4 := Lib.hid (R2.out.below hp hb)
      have HZ : Hid (w.heap.size ≤ w2.heap.size) := B2.out.size
      have hz4 := hb.size
      rw [World.size_setCell] at hz4
      clear hb R2 e0 e1 B2 hm
      have hz2 : w.heap.size ≤ w2.heap.size := HZ.out
      clear HZ
      go_wp2_with fail
      go_loopw [32] (fun i wr => ∃ k : Nat, k ≤ 0 ∧ i = .int .i64 k ∧ 0 ≤ r - 1 - (Ty.sizes (List.take k []) : Int) ∧ (Ty.depths (List.take k []) : Int) ≤ dp - 1 ∧ Ty.forms (List.take k []) = true ∧ Room p (r - 1 - Ty.sizes (List.take k [])) w wr ∧ w4.heap.size ≤ wr.heap.size ∧ (∀ b, b < w4.heap.size → b ≠ p → wr.heap[b]? = w4.heap[b]?)) (fun i _ => 0 - (intOf i).toNat)
      case atStart => exact ⟨0, by omega, rfl, by simp [Ty.sizes]; omega, by simp [Ty.depths]; omega, by simp [Ty.forms], by simpa [Ty.sizes] using R4.out, Nat.le_refl _, fun _ _ _ => rfl⟩
      case round =>
        obtain ⟨k, hk, rfl, hs, hds, hf, hroom, hz, hkeep⟩ := hrel
        have HS := Lib.hid hs
        have HD := Lib.hid hds
        have HF := Lib.hid hf
        have HR := Lib.hid hroom
        have HK := Lib.hid hkeep
        clear hs hds hf hroom hkeep
        obtain rfl : k = 0 := by omega
        have hfin : within (.node 2 []) r dp = true := by
          have h1 : 0 ≤ r - 1 - (Ty.sizes [] : Int) := HS.out
          have h2 : (Ty.depths [] : Int) ≤ dp - 1 := HD.out
          have h3 : Ty.forms [] = true := HF.out
          have h4 := HKO.out
          exact within_mk (show ((1 + Ty.sizes [] : Nat) : Int) ≤ r by omega) (show ((1 + Ty.depths [] : Nat) : Int) ≤ dp by omega) (by simp only [Ty.form, h3, h4, Bool.and_self])
        have HFIN := Lib.hid hfin; clear hfin
        have h1 : 0 ≤ r - 1 - (Ty.sizes [] : Int) := HS.out
        have hlo : r - ↑(1 + Ty.sizes []) ≤ r - 1 - ↑(Ty.sizes []) := by omega
        have HLO := Lib.hid hlo; clear hlo h1
        go_wp2_with fail
        go_ret
        exact WithinEnd.of (r' := r - 1 - ↑(Ty.sizes [])) HFIN.out HR.out (by rw [HSG.out]; exact HLO.out) (by omega) (fun _ => by rw [HSG.out]; omega)
    · have hm := meth_bool
      go_wp2_with fail
      refine (parts_bool _).mono ?_
      rintro e w4 ⟨rfl, hb⟩
      have R4 := Lib.hid (R2.out.below hp hb)
      have HZ : Hid (w.heap.size ≤ w2.heap.size) := B2.out.size
      have hz4 := hb.size
      rw [World.size_setCell] at hz4
      clear hb R2 e0 e1 B2 hm
      have hz2 : w.heap.size ≤ w2.heap.size := HZ.out
      clear HZ
      go_wp2_with fail
      go_loopw [32] (fun i wr => ∃ k : Nat, k ≤ 0 ∧ i = .int .i64 k ∧ 0 ≤ r - 1 - (Ty.sizes (List.take k []) : Int) ∧ (Ty.depths (List.take k []) : Int) ≤ dp - 1 ∧ Ty.forms (List.take k []) = true ∧ Room p (r - 1 - Ty.sizes (List.take k [])) w wr ∧ w4.heap.size ≤ wr.heap.size ∧ (∀ b, b < w4.heap.size → b ≠ p → wr.heap[b]? = w4.heap[b]?)) (fun i _ => 0 - (intOf i).toNat)
      case atStart => exact ⟨0, by omega, rfl, by simp [Ty.sizes]; omega, by simp [Ty.depths]; omega, by simp [Ty.forms], by simpa [Ty.sizes] using R4.out, Nat.le_refl _, fun _ _ _ => rfl⟩
      case round =>
        obtain ⟨k, hk, rfl, hs, hds, hf, hroom, hz, hkeep⟩ := hrel
        have HS := Lib.hid hs
        have HD := Lib.hid hds
        have HF := Lib.hid hf
        have HR := Lib.hid hroom
        have HK := Lib.hid hkeep
        clear hs hds hf hroom hkeep
        obtain rfl : k = 0 := by omega
        have hfin : within (.node 3 []) r dp = true := by
          have h1 : 0 ≤ r - 1 - (Ty.sizes [] : Int) := HS.out
          have h2 : (Ty.depths [] : Int) ≤ dp - 1 := HD.out
          have h3 : Ty.forms [] = true := HF.out
          have h4 := HKO.out
          exact within_mk (show ((1 + Ty.sizes [] : Nat) : Int) ≤ r by omega) (show ((1 + Ty.depths [] : Nat) : Int) ≤ dp by omega) (by simp only [Ty.form, h3, h4, Bool.and_self])
        have HFIN := Lib.hid hfin; clear hfin
        have h1 : 0 ≤ r - 1 - (Ty.sizes [] : Int) := HS.out
        have hlo : r - ↑(1 + Ty.sizes []) ≤ r - 1 - ↑(Ty.sizes []) := by omega
        have HLO := Lib.hid hlo; clear hlo h1
        go_wp2_with fail
        go_ret
        exact WithinEnd.of (r' := r - 1 - ↑(Ty.sizes [])) HFIN.out HR.out (by rw [HSG.out]; exact HLO.out) (by omega) (fun _ => by rw [HSG.out]; omega)
    · have H1 := Lib.hid ht1
      have H2 := Lib.hid ht2
      clear ht1 ht2
      have hm := fun (n : Nat) (w : World) => meth_arrow n w (.int .i64 k1) s1 (.int .i64 k2) s2
      go_wp2_with fail
      refine (parts_arrow w0 d t1 t2 k1 k2 s1 s2 _ H1.out H2.out).mono ?_
      rintro e w4 ⟨bb, rfl, hrow, hb⟩
      have R4 := Lib.hid (R2.out.below hp hb)
      have HZ : Hid (w.heap.size ≤ w2.heap.size) := B2.out.size
      have hz4 := hb.size
      rw [World.size_setCell] at hz4
      clear hb R2 e0 e1 B2 hm
      have hz2 : w.heap.size ≤ w2.heap.size := HZ.out
      clear HZ
      have HROW : Hid (∀ j (h : j < 2), ∃ x0 x1, p < bb ∧ bb < w4.heap.size ∧ w4.cell? ⟨bb, j * 2, none⟩ = some x0 ∧ w4.cell? ⟨bb, j * 2 + 1, none⟩ = some x1 ∧ TyAt w0 d (.agg #[x0, x1]) ([t1, t2][j]'h)) := fun j hj => by
        obtain ⟨a9, c9, he, _, _, hat⟩ := hrow
        obtain ⟨b9, o9, x0, x1, ha, h1, h2, h3, h4, h5⟩ := hat j hj
        simp only [Value.slice.injEq] at he
        obtain ⟨rfl, _⟩ := he
        injection ha with ha
        injection ha with ha1 ha2
        subst ha1 ha2
        rw [World.size_setCell] at h1
        exact ⟨x0, x1, by omega, h2, by simpa using h3, by simpa using h4, h5⟩
      clear hrow H1 H2
      go_wp2_with fail
      go_loopw [32] (fun i wr => ∃ k : Nat, k ≤ 2 ∧ i = .int .i64 k ∧ 0 ≤ r - 1 - (Ty.sizes (List.take k [t1, t2]) : Int) ∧ (Ty.depths (List.take k [t1, t2]) : Int) ≤ dp - 1 ∧ Ty.forms (List.take k [t1, t2]) = true ∧ Room p (r - 1 - Ty.sizes (List.take k [t1, t2])) w wr ∧ w4.heap.size ≤ wr.heap.size ∧ (∀ b, b < w4.heap.size → b ≠ p → wr.heap[b]? = w4.heap[b]?)) (fun i _ => 2 - (intOf i).toNat)
      case atStart => exact ⟨0, by omega, rfl, by simp [Ty.sizes]; omega, by simp [Ty.depths]; omega, by simp [Ty.forms], by simpa [Ty.sizes] using R4.out, Nat.le_refl _, fun _ _ _ => rfl⟩
      case round =>
        obtain ⟨k, hk, rfl, hs, hds, hf, hroom, hz, hkeep⟩ := hrel
        have HS := Lib.hid hs
        have HD := Lib.hid hds
        have HF := Lib.hid hf
        have HR := Lib.hid hroom
        have HK := Lib.hid hkeep
        clear hs hds hf hroom hkeep
        by_cases hlt : k < 2
        · obtain ⟨x0, x1, hpb, hbl, hc0, hc1, ht⟩ := HROW.out k hlt
          obtain ⟨yk, ya, yn, yc, rfl, rfl⟩ := at_parts ht
          have x0 : wr.cell? ⟨bb, k * 2, none⟩ = some (.int .i64 yk) := by rw [World.cell?_of_block (HK.out bb hbl (by omega))]; exact hc0
          have x1 : wr.cell? ⟨bb, k * 2 + 1, none⟩ = some (.slice ya yn yc) := by rw [World.cell?_of_block (HK.out bb hbl (by omega))]; exact hc1
          have hpp := below_alloc wr (.cells #[.int .i64 yk, .slice ya yn yc] 33)
          have HTK := Lib.hid ht
          have HRP := Lib.hid (HR.out.below hp hpp)
          have HWP : Hid (Below w0.heap.size w0 (wr.alloc (.cells #[.int .i64 yk, .slice ya yn yc] 33))) := HW0.out.trans (HRP.out.2.2.1.mono hp0)
          have hg := Ty.size_get [t1, t2] k hlt
          have hzk : Ty.size ([t1, t2][k]'hlt) ≤ 1048577 := by have := HSZ.out; omega
          have hpk : p < (wr.alloc (.cells #[.int .i64 yk, .slice ya yn yc] 33)).heap.size := by simp; omega
          obtain ⟨rr, hrr⟩ : ∃ rr, rr = r - 1 - (Ty.sizes (List.take k [t1, t2]) : Int) := ⟨_, rfl⟩
          rw [← hrr] at HRP HS
          have HRR := Lib.hid hrr; clear hrr
          have g0 : 0 ≤ rr := HS.out
          have g1 : rr ≤ 1048576 := by have := HRR.out; omega
          have gd : 0 ≤ dp - 1 := by omega
          clear ht hc0 hc1 hpp hg
          go_wp2_with fail
          refine (IH.out _ _ p rr (dp - 1) _ HTK.out HWP.out hp0 hzk hpk g0 g1 gd (by omega) HRP.out.1 HRP.out.2.1).mono ?_
          rintro e w6 hend
          obtain ⟨r6, rfl, hr6, h1, h2, h3⟩ := hend.room
          have HR6 := Lib.hid (HRP.out.on hr6)
          have HK6 : Hid (∀ b, b < w4.heap.size → b ≠ p → w6.heap[b]? = w4.heap[b]?) := fun b hb1 hb2 => by
            rw [hr6.2.2.2 b (by simp; omega) hb2, heap_alloc_old _ _ (by omega)]
            exact HK.out b hb1 hb2
          have hz6 : w4.heap.size ≤ w6.heap.size := by have := hr6.2.2.1.size; simp at this; omega
          clear hend hr6
          cases hw : within ([t1, t2][k]'hlt) rr (dp - 1) with
          | true =>
            have h4 := h3 hw
            obtain ⟨u1, u2, u3⟩ := within_true hw
            subst h4
            have HU3 := Lib.hid u3
            have T1 := Lib.hid (Ty.sizes_take [t1, t2] k hlt)
            have T2 := Lib.hid (Ty.depths_take [t1, t2] k hlt)
            have T3 := Lib.hid (Ty.forms_take [t1, t2] k hlt)
            have HW := Lib.hid hw
            have U2 := Lib.hid u2
            have U1 := Lib.hid u1
            clear h1 h2 h3 u3 u2 u1 hw
            have eq1 : Hid (rr - ↑(Ty.size ([t1, t2][k]'hlt)) = r - 1 - ↑(Ty.sizes (List.take (k + 1) [t1, t2]))) := by rw [T1.out]; have := HRR.out; show _ = _; omega
            go_wp2_with fail
            exact ⟨⟨k + 1, by omega, by go_num, by rw [← eq1.out]; have := U1.out; omega, by rw [T2.out]; have := HD.out; have := U2.out; omega, by rw [T3.out, HF.out, HU3.out]; rfl, by rw [← eq1.out]; exact HR6.out, hz6, HK6.out⟩, by simp [intOf]; omega⟩
          | false =>
            have hfin := within_sub (kd := 4) (r := r) (dp := dp) hlt HRR.out hw
            have HFIN := Lib.hid hfin
            have hsz1 := Ty.sizes_take [t1, t2] k hlt
            have hsz2 := Ty.sizes_le [t1, t2] (k + 1)
            have hq := HRR.out
            have hlo : r - ↑(1 + Ty.sizes [t1, t2]) ≤ r6 := by omega
            have hhi : r6 ≤ r := by omega
            clear hfin hw hsz1 hsz2 hq h1 h2 h3
            go_wp2_with fail
            go_ret
            exact WithinEnd.of HFIN.out HR6.out (by rw [HSG.out]; exact hlo) hhi (fun h => by cases h)
        · obtain rfl : k = 2 := by omega
          have hfin : within (.node 4 [t1, t2]) r dp = true := by
            have h1 : 0 ≤ r - 1 - (Ty.sizes [t1, t2] : Int) := HS.out
            have h2 : (Ty.depths [t1, t2] : Int) ≤ dp - 1 := HD.out
            have h3 : Ty.forms [t1, t2] = true := HF.out
            have h4 := HKO.out
            exact within_mk (show ((1 + Ty.sizes [t1, t2] : Nat) : Int) ≤ r by omega) (show ((1 + Ty.depths [t1, t2] : Nat) : Int) ≤ dp by omega) (by simp only [Ty.form, h3, h4, Bool.and_self])
          have HFIN := Lib.hid hfin; clear hfin
          have h1 : 0 ≤ r - 1 - (Ty.sizes [t1, t2] : Int) := HS.out
          have hlo : r - ↑(1 + Ty.sizes [t1, t2]) ≤ r - 1 - ↑(Ty.sizes [t1, t2]) := by omega
          have HLO := Lib.hid hlo; clear hlo h1
          go_wp2_with fail
          go_ret
          exact WithinEnd.of (r' := r - 1 - ↑(Ty.sizes [t1, t2])) HFIN.out HR.out (by rw [HSG.out]; exact HLO.out) (by omega) (fun _ => by rw [HSG.out]; omega)
    · have H1 := Lib.hid ht1
      have H2 := Lib.hid ht2
      clear ht1 ht2
      have hm := fun (n : Nat) (w : World) => meth_pair n w (.int .i64 k1) s1 (.int .i64 k2) s2
      go_wp2_with fail
      refine (parts_pair w0 d t1 t2 k1 k2 s1 s2 _ H1.out H2.out).mono ?_
      rintro e w4 ⟨bb, rfl, hrow, hb⟩
      have R4 := Lib.hid (R2.out.below hp hb)
      have HZ : Hid (w.heap.size ≤ w2.heap.size) := B2.out.size
      have hz4 := hb.size
      rw [World.size_setCell] at hz4
      clear hb R2 e0 e1 B2 hm
      have hz2 : w.heap.size ≤ w2.heap.size := HZ.out
      clear HZ
      have HROW : Hid (∀ j (h : j < 2), ∃ x0 x1, p < bb ∧ bb < w4.heap.size ∧ w4.cell? ⟨bb, j * 2, none⟩ = some x0 ∧ w4.cell? ⟨bb, j * 2 + 1, none⟩ = some x1 ∧ TyAt w0 d (.agg #[x0, x1]) ([t1, t2][j]'h)) := fun j hj => by
        obtain ⟨a9, c9, he, _, _, hat⟩ := hrow
        obtain ⟨b9, o9, x0, x1, ha, h1, h2, h3, h4, h5⟩ := hat j hj
        simp only [Value.slice.injEq] at he
        obtain ⟨rfl, _⟩ := he
        injection ha with ha
        injection ha with ha1 ha2
        subst ha1 ha2
        rw [World.size_setCell] at h1
        exact ⟨x0, x1, by omega, h2, by simpa using h3, by simpa using h4, h5⟩
      clear hrow H1 H2
      go_wp2_with fail
      go_loopw [32] (fun i wr => ∃ k : Nat, k ≤ 2 ∧ i = .int .i64 k ∧ 0 ≤ r - 1 - (Ty.sizes (List.take k [t1, t2]) : Int) ∧ (Ty.depths (List.take k [t1, t2]) : Int) ≤ dp - 1 ∧ Ty.forms (List.take k [t1, t2]) = true ∧ Room p (r - 1 - Ty.sizes (List.take k [t1, t2])) w wr ∧ w4.heap.size ≤ wr.heap.size ∧ (∀ b, b < w4.heap.size → b ≠ p → wr.heap[b]? = w4.heap[b]?)) (fun i _ => 2 - (intOf i).toNat)
      case atStart => exact ⟨0, by omega, rfl, by simp [Ty.sizes]; omega, by simp [Ty.depths]; omega, by simp [Ty.forms], by simpa [Ty.sizes] using R4.out, Nat.le_refl _, fun _ _ _ => rfl⟩
      case round =>
        obtain ⟨k, hk, rfl, hs, hds, hf, hroom, hz, hkeep⟩ := hrel
        have HS := Lib.hid hs
        have HD := Lib.hid hds
        have HF := Lib.hid hf
        have HR := Lib.hid hroom
        have HK := Lib.hid hkeep
        clear hs hds hf hroom hkeep
        by_cases hlt : k < 2
        · obtain ⟨x0, x1, hpb, hbl, hc0, hc1, ht⟩ := HROW.out k hlt
          obtain ⟨yk, ya, yn, yc, rfl, rfl⟩ := at_parts ht
          have x0 : wr.cell? ⟨bb, k * 2, none⟩ = some (.int .i64 yk) := by rw [World.cell?_of_block (HK.out bb hbl (by omega))]; exact hc0
          have x1 : wr.cell? ⟨bb, k * 2 + 1, none⟩ = some (.slice ya yn yc) := by rw [World.cell?_of_block (HK.out bb hbl (by omega))]; exact hc1
          have hpp := below_alloc wr (.cells #[.int .i64 yk, .slice ya yn yc] 33)
          have HTK := Lib.hid ht
          have HRP := Lib.hid (HR.out.below hp hpp)
          have HWP : Hid (Below w0.heap.size w0 (wr.alloc (.cells #[.int .i64 yk, .slice ya yn yc] 33))) := HW0.out.trans (HRP.out.2.2.1.mono hp0)
          have hg := Ty.size_get [t1, t2] k hlt
          have hzk : Ty.size ([t1, t2][k]'hlt) ≤ 1048577 := by have := HSZ.out; omega
          have hpk : p < (wr.alloc (.cells #[.int .i64 yk, .slice ya yn yc] 33)).heap.size := by simp; omega
          obtain ⟨rr, hrr⟩ : ∃ rr, rr = r - 1 - (Ty.sizes (List.take k [t1, t2]) : Int) := ⟨_, rfl⟩
          rw [← hrr] at HRP HS
          have HRR := Lib.hid hrr; clear hrr
          have g0 : 0 ≤ rr := HS.out
          have g1 : rr ≤ 1048576 := by have := HRR.out; omega
          have gd : 0 ≤ dp - 1 := by omega
          clear ht hc0 hc1 hpp hg
          go_wp2_with fail
          refine (IH.out _ _ p rr (dp - 1) _ HTK.out HWP.out hp0 hzk hpk g0 g1 gd (by omega) HRP.out.1 HRP.out.2.1).mono ?_
          rintro e w6 hend
          obtain ⟨r6, rfl, hr6, h1, h2, h3⟩ := hend.room
          have HR6 := Lib.hid (HRP.out.on hr6)
          have HK6 : Hid (∀ b, b < w4.heap.size → b ≠ p → w6.heap[b]? = w4.heap[b]?) := fun b hb1 hb2 => by
            rw [hr6.2.2.2 b (by simp; omega) hb2, heap_alloc_old _ _ (by omega)]
            exact HK.out b hb1 hb2
          have hz6 : w4.heap.size ≤ w6.heap.size := by have := hr6.2.2.1.size; simp at this; omega
          clear hend hr6
          cases hw : within ([t1, t2][k]'hlt) rr (dp - 1) with
          | true =>
            have h4 := h3 hw
            obtain ⟨u1, u2, u3⟩ := within_true hw
            subst h4
            have HU3 := Lib.hid u3
            have T1 := Lib.hid (Ty.sizes_take [t1, t2] k hlt)
            have T2 := Lib.hid (Ty.depths_take [t1, t2] k hlt)
            have T3 := Lib.hid (Ty.forms_take [t1, t2] k hlt)
            have HW := Lib.hid hw
            have U2 := Lib.hid u2
            have U1 := Lib.hid u1
            clear h1 h2 h3 u3 u2 u1 hw
            have eq1 : Hid (rr - ↑(Ty.size ([t1, t2][k]'hlt)) = r - 1 - ↑(Ty.sizes (List.take (k + 1) [t1, t2]))) := by rw [T1.out]; have := HRR.out; show _ = _; omega
            go_wp2_with fail
            exact ⟨⟨k + 1, by omega, by go_num, by rw [← eq1.out]; have := U1.out; omega, by rw [T2.out]; have := HD.out; have := U2.out; omega, by rw [T3.out, HF.out, HU3.out]; rfl, by rw [← eq1.out]; exact HR6.out, hz6, HK6.out⟩, by simp [intOf]; omega⟩
          | false =>
            have hfin := within_sub (kd := 5) (r := r) (dp := dp) hlt HRR.out hw
            have HFIN := Lib.hid hfin
            have hsz1 := Ty.sizes_take [t1, t2] k hlt
            have hsz2 := Ty.sizes_le [t1, t2] (k + 1)
            have hq := HRR.out
            have hlo : r - ↑(1 + Ty.sizes [t1, t2]) ≤ r6 := by omega
            have hhi : r6 ≤ r := by omega
            clear hfin hw hsz1 hsz2 hq h1 h2 h3
            go_wp2_with fail
            go_ret
            exact WithinEnd.of HFIN.out HR6.out (by rw [HSG.out]; exact hlo) hhi (fun h => by cases h)
        · obtain rfl : k = 2 := by omega
          have hfin : within (.node 5 [t1, t2]) r dp = true := by
            have h1 : 0 ≤ r - 1 - (Ty.sizes [t1, t2] : Int) := HS.out
            have h2 : (Ty.depths [t1, t2] : Int) ≤ dp - 1 := HD.out
            have h3 : Ty.forms [t1, t2] = true := HF.out
            have h4 := HKO.out
            exact within_mk (show ((1 + Ty.sizes [t1, t2] : Nat) : Int) ≤ r by omega) (show ((1 + Ty.depths [t1, t2] : Nat) : Int) ≤ dp by omega) (by simp only [Ty.form, h3, h4, Bool.and_self])
          have HFIN := Lib.hid hfin; clear hfin
          have h1 : 0 ≤ r - 1 - (Ty.sizes [t1, t2] : Int) := HS.out
          have hlo : r - ↑(1 + Ty.sizes [t1, t2]) ≤ r - 1 - ↑(Ty.sizes [t1, t2]) := by omega
          have HLO := Lib.hid hlo; clear hlo h1
          go_wp2_with fail
          go_ret
          exact WithinEnd.of (r' := r - 1 - ↑(Ty.sizes [t1, t2])) HFIN.out HR.out (by rw [HSG.out]; exact HLO.out) (by omega) (fun _ => by rw [HSG.out]; omega)
end Go.Proofs.YtnggkcgifjfnfaaDoor
/-
  Proved: impl.IsValidType says whether a type's tree is a valid type; it leaves the memory that was there as it was.
-/
namespace Go.Proofs.YtnggkcgifjfnfaaDoor
open Go.RowKit

theorem within_valid (t : Ty) : within t 800 24 = t.valid := by
  have e1 : decide ((t.size : Int) ≤ 800) = decide (t.size ≤ 800) := decide_eq_decide.2 (by omega)
  have e2 : decide ((t.depth : Int) ≤ 24) = decide (t.depth ≤ 24) := decide_eq_decide.2 (by omega)
  unfold within Ty.valid
  rw [e1, e2]
set_option maxRecDepth 100000 in
set_option maxHeartbeats 1000000 in
theorem implValid (d : Nat) (v : Value) (t : Ty) (w : World) (h : TyAt w d v t) (hsz : t.size ≤ 1048577) :
    Calls Tryd.prog 68 #[v] w fun e w' => e = .returned (.bool t.valid) ∧ Below w.heap.size w w' := by
  have HT := Lib.hid h
  obtain ⟨yk, ya, yn, yc, rfl⟩ := agg_parts h
  clear h
  have X : Hid (Below w.heap.size w ((w.alloc (.cells #[.int .i64 yk, .slice ya yn yc] 33)).alloc (.cells #[.int .i64 800] 3))) := ((Below.refl _ _).alloc (Nat.le_refl _) _).alloc (by simp) _
  go_enter Tryd.func68, Tryd.ntmps68
  go_wp2_with fail
  refine (implWithin w d _ t (w.heap.size + 1) 800 24 _ HT.out X.out (by omega) hsz (by simp) (by omega) (by omega) (by omega) (by omega) (by simp [go_sem]) (by simp [go_sem])).mono ?_
  intro e w' hend
  obtain ⟨r', rfl, hr, _⟩ := hend.room
  have HB := Lib.hid (X.out.trans (hr.2.2.1.mono (Nat.le_succ _)))
  clear hend hr
  go_wp2_with fail
  go_ret
  exact ⟨by rw [within_valid]; rfl, HB.out⟩
end Go.Proofs.YtnggkcgifjfnfaaDoor
/-
  Proved: impl.copyType copies a tree of at most 2^20 nodes into new memory; it leaves the memory that was there as it was.
-/
namespace Go.Proofs.YtnggkcgifjfnfaaDoor
open Go.RowKit

theorem own_leaf (w : World) (d : Nat) (k : Int) (h0 : -9223372036854775808 ≤ k) (h1 : k ≤ 9223372036854775807) : TyOwn w (d + 1) (.agg #[.int .i64 k, .slice none 0 0]) (.node k []) [] :=
  ⟨_, rfl, h0, h1, none, 0, [], [], rfl, Nat.le_refl _, by omega, rfl, rfl, (fun b hb => by cases hb), fun j hj => by simp at hj⟩
theorem two_frozen {w wr : World} {cs ds : Array Value} {T U : TypeId} (h : Below (w.heap.size + 2) ((w.alloc (.cells cs T)).alloc (.cells ds U)) wr) (j : Nat) : wr.frozen? ⟨w.heap.size + 1, j, none⟩ = false := by
  rw [h.frozen (p := ⟨w.heap.size + 1, j, none⟩) (Nat.lt_succ_self _)]
  simp [go_sem]

set_option maxRecDepth 100000 in
set_option maxHeartbeats 2000000 in
theorem implCopy : ∀ (d : Nat) (v : Value) (t : Ty) (w : World), t.size ≤ 1048577 → TyAt w d v t →
    Calls Tryd.prog 105 #[v] w (ToTyEnd d t w)
  | 0, _, _, _, _, h => h.elim
  | d + 1, v, .node kd ts, w, hsz, h => by
    have IH : Hid (∀ (v : Value) (t : Ty) (w : World), t.size ≤ 1048577 → TyAt w d v t → Calls Tryd.prog 105 #[v] w (ToTyEnd d t w)) := implCopy d
    obtain ⟨i0, hi, hz0, hz1, hz2⟩ := info_parts info_ty
    have hlen := Ty.length_le ts
    have HSZ : Hid (1 + Ty.sizes ts ≤ 1048577) := by simp [Ty.size] at hsz; show _ ≤ _; omega
    have hn2 : ts.length ≤ 1048577 := by have := HSZ.out; omega
    clear hsz hlen
    obtain ⟨sl, rfl, hk0, hk1, a, cap, rfl, hcap, hcap2, hat⟩ := h
    have HAT := Lib.hid hat; clear hat
    obtain ⟨n, hn⟩ : ∃ n, n = ts.length := ⟨_, rfl⟩
    have HN := Lib.hid hn
    rw [← hn] at hcap hn2 ⊢
    clear hn
    by_cases z : n = 0
    · subst z
      have HTS : Hid (ts = []) := List.eq_nil_of_length_eq_zero HN.out.symm
      go_enter Tryd.func105, Tryd.ntmps105
      go_wp2_with fail
      refine bodyPost_ret (v := .agg #[.int .i64 kd, .slice none 0 0]) (by simp [results, Tryd.results105, go_sem]) rfl ?_
      rw [HTS.out]
      exact ⟨_, [], rfl, own_leaf _ _ _ hk0 hk1, Fp.nil _ _, ((Below.refl _ _).alloc (Nat.le_refl _) _).alloc (by simp) _⟩
    · have z3 : ((n : Int) == 0) = false := by simp [z]
      go_enter Tryd.func105, Tryd.ntmps105
      go_wp2_with (at_make; refine wpList_make_full _ rfl _ _ 31 rfl (w.heap.size + 1 + 1) 33 i0 (.agg #[.int .i64 0, .slice none 0 0]) 2 Tryd.underlying31 hi hz0 hz1 .i64 .i64 _ _ n rfl rfl rfl rfl (by rw [hz2]; omega) (by unfold maxLen; omega) (by simp) ?_; intro w0 hown0 hg0; refine Hid.out ?_)
      refine Lib.hid ?_
      rw [show ((w.alloc (.cells #[.int .i64 kd, .slice a n cap] 33)).alloc (.cells #[.int .i64 0, .slice none 0 0] 33)).heap.size = w.heap.size + 1 + 1 from by simp] at hown0
      have HB0 : Hid (Below (w.heap.size + 2) ((w.alloc (.cells #[.int .i64 kd, .slice a n cap] 33)).alloc (.cells #[.int .i64 0, .slice none 0 0] 33)) w0) := (Below.refl _ _).grown hg0 (by simp) (fun k hk => by cases hk)
      have HO0 := Lib.hid hown0
      clear hown0 hg0 hi hz0 hz1 hz2
      have p00 := two_first HB0.out 0
      have p01 := two_first HB0.out 1
      go_wp2_with fail
      clear p00 p01
      go_loopw [20] (fun i wr => ∃ (k : Nat) (cs : List Value) (fps : List (List Nat)), k ≤ n ∧ i = .int .i64 k ∧ wr.ownsRow (w.heap.size + 1 + 1) 33 2 (.slice (some ⟨w.heap.size + 1 + 1, 0, none⟩) n n) n cs ∧
          fps.length = k ∧ Fp (w.heap.size + 1 + 1 + 1) wr.heap.size (List.flatten fps) ∧ (∀ j (h : j < ts.length), j < k → ∃ c0 c1 f, cs[j * 2]? = some c0 ∧ cs[j * 2 + 1]? = some c1 ∧ fps[j]? = some f ∧ TyOwn wr d (.agg #[c0, c1]) ts[j] f) ∧
          Below (w.heap.size + 2) ((w.alloc (.cells #[.int .i64 kd, .slice a n cap] 33)).alloc (.cells #[.int .i64 0, .slice none 0 0] 33)) wr) (fun i _ => n - (intOf i).toNat)
      case atStart => exact ⟨0, _, [], by omega, rfl, HO0.out, rfl, Fp.nil _ _, fun j h h2 => by omega, HB0.out⟩
      case round =>
        obtain ⟨k, cs, fps, hk, rfl, hown, hfl, hfp, hdone, hb⟩ := hrel
        have HF := Lib.hid hfp; clear hfp
        have HL := Lib.hid hfl; clear hfl
        have HO := Lib.hid hown
        have HD := Lib.hid hdone; clear hdone
        have HB := Lib.hid hb
        have HBW := Lib.hid (two_below hb); clear hb
        have hgl := (hown.lt (w.heap.size + 1 + 1) rfl).2
        clear hown
        by_cases hlt : k < n
        · have hlt2 : k < ts.length := by have := HN.out; omega
          obtain ⟨b, off, x0, x1, rfl, hbl, hc0, hc1, ht⟩ := HAT.out k hlt2
          obtain ⟨yk, ya, yn, yc, rfl, rfl⟩ := at_parts ht
          have hg := Ty.size_get ts k hlt2
          have e0 : wr.cell? ⟨b, off + k * 2, none⟩ = some (.int .i64 yk) := by rw [HBW.out.cell (p := ⟨b, off + k * 2, none⟩) hbl]; exact hc0
          have e1 : wr.cell? ⟨b, off + k * 2 + 1, none⟩ = some (.slice ya yn yc) := by rw [HBW.out.cell (p := ⟨b, off + k * 2 + 1, none⟩) hbl]; exact hc1
          have hp : Below wr.heap.size wr (wr.alloc (.cells #[.int .i64 yk, .slice ya yn yc] 33)) := below_alloc _ _
          have HT := Lib.hid ((ht.below HBW.out).below hp)
          have HP := Lib.hid hp
          have hzk : ts[k].size ≤ 1048577 := by have := HSZ.out; omega
          clear ht hc0 hc1 hp hg
          go_wp2_with fail
          refine (IH.out _ _ _ hzk HT.out).mono ?_
          rintro e w' ⟨v2, fp, rfl, ht, hfp, hb1⟩
          have hb2 := HP.out.trans (hb1.mono HP.out.size)
          have HF1 := Lib.hid (hfp.mono (lo' := wr.heap.size) HP.out.size (Nat.le_refl _)); clear hfp
          have HO1 := Lib.hid (own_below HO.out hb2); clear HO
          have hz1 := hb2.size
          obtain ⟨zk, za, zn, zc, rfl, HY⟩ := ty_parts ht
          clear ht
          have p0 : ∃ u, w'.cell? ⟨w.heap.size + 1 + 1, k * 2, none⟩ = some u := by
            rw [HO1.out.cellAt (k * 2) (by omega)]
            exact ⟨_, List.getElem?_eq_getElem (by rw [HO1.out.1]; omega)⟩
          have p1 : ∃ u, w'.cell? ⟨w.heap.size + 1 + 1, k * 2 + 1, none⟩ = some u := by
            rw [HO1.out.cellAt (k * 2 + 1) (by omega)]
            exact ⟨_, List.getElem?_eq_getElem (by rw [HO1.out.1]; omega)⟩
          obtain ⟨u0, p0⟩ := p0
          obtain ⟨u1, p1⟩ := p1
          have f0 := HO1.out.frozenAt (k * 2)
          have f1 := HO1.out.frozenAt (k * 2 + 1)
          have HB1 := Lib.hid hb2; clear hb1 hb2
          go_wp2_with fail
          have hcs : cs.length = n * 2 := HO1.out.1
          have hs1 := HO1.out.stored (k * 2) (.int .i64 zk)
          have hs2 := hs1.1.stored (k * 2 + 1) (.slice za zn zc)
          have hkeep : ∀ b, w.heap.size + 1 + 1 + 1 ≤ b → b < w'.heap.size → ((w'.setCell ⟨w.heap.size + 1 + 1, k * 2, none⟩ (.int .i64 zk)).setCell ⟨w.heap.size + 1 + 1, k * 2 + 1, none⟩ (.slice za zn zc)).heap[b]? = w'.heap[b]? := fun b h1 h2 => by
            rw [heap_setCell_other _ _ _ _ (by simp; omega), heap_setCell_other _ _ _ _ (by simp; omega)]
          have hF := HF.out
          have hF1 := HF1.out
          have hL := HL.out
          have hz2 : ((w'.setCell ⟨w.heap.size + 1 + 1, k * 2, none⟩ (.int .i64 zk)).setCell ⟨w.heap.size + 1 + 1, k * 2 + 1, none⟩ (.slice za zn zc)).heap.size = w'.heap.size := by simp
          refine ⟨⟨k + 1, _, fps ++ [fp], by omega, by go_num, hs2.1, by simp [hL], ?_, ?_, ((HB.out.trans (HB1.out.mono (by omega))).setCell (Nat.le_refl _) _).setCell (Nat.le_refl _) _⟩, by simp [intOf]; omega⟩
          · rw [hz2, List.flatten_append, List.flatten_cons, List.flatten_nil, List.append_nil]
            exact hF.join hF1 (by omega) hz1
          · intro j hj hjk
            by_cases hjk2 : j = k
            · subst hjk2
              refine ⟨_, _, fp, ?_, ?_, ?_, HY.out.kept (by simp) fun b hb => hkeep b ?_ (hF1.2 b hb).2⟩
              · rw [List.getElem?_set_ne (by omega), List.getElem?_set_self (by omega)]
              · rw [List.getElem?_set_self (by simp; omega)]
              · rw [List.getElem?_append_right (by omega), hL]; simp
              · have := (hF1.2 b hb).1; omega
            · obtain ⟨c0, c1, f, hc0, hc1, hfj, hty⟩ := HD.out j hj (by omega)
              have hsub : ∀ b, b ∈ f → b ∈ fps.flatten := fun b hb => List.mem_flatten.2 ⟨f, List.mem_of_getElem? hfj, hb⟩
              refine ⟨c0, c1, f, ?_, ?_, ?_, hty.kept (by simp; omega) fun b hb => ?_⟩
              · rw [List.getElem?_set_ne (by omega), List.getElem?_set_ne (by omega)]; exact hc0
              · rw [List.getElem?_set_ne (by omega), List.getElem?_set_ne (by omega)]; exact hc1
              · rw [List.getElem?_append_left (by omega)]; exact hfj
              · have hb2 := hF.2 b (hsub b hb)
                rw [hkeep b hb2.1 (by omega)]; exact HB1.out.block b hb2.2
        · obtain rfl : k = n := by omega
          have p00 := two_first HB.out 0
          have p01 := two_first HB.out 1
          have p10 := two_next HB.out 0
          have p11 := two_next HB.out 1
          have q10 := two_frozen HB.out 0
          have q11 := two_frozen HB.out 1
          go_wp2_with fail
          have hkeep : ∀ b, b ≠ w.heap.size + 1 → ((wr.setCell ⟨w.heap.size + 1, 0, none⟩ (.int .i64 kd)).setCell ⟨w.heap.size + 1, 1, none⟩ (.slice (some ⟨w.heap.size + 1 + 1, 0, none⟩) k k)).heap[b]? = wr.heap[b]? := fun b hb => by
            rw [heap_setCell_other _ _ _ _ hb, heap_setCell_other _ _ _ _ hb]
          have hz2 : ((wr.setCell ⟨w.heap.size + 1, 0, none⟩ (.int .i64 kd)).setCell ⟨w.heap.size + 1, 1, none⟩ (.slice (some ⟨w.heap.size + 1 + 1, 0, none⟩) k k)).heap.size = wr.heap.size := by simp
          have g0 : ((wr.setCell ⟨w.heap.size + 1, 0, none⟩ (.int .i64 kd)).setCell ⟨w.heap.size + 1, 1, none⟩ (.slice (some ⟨w.heap.size + 1 + 1, 0, none⟩) k k)).cell? ⟨w.heap.size + 1, 0, none⟩ = some (.int .i64 kd) := by simp [go_sem, p10]
          have g1 : ((wr.setCell ⟨w.heap.size + 1, 0, none⟩ (.int .i64 kd)).setCell ⟨w.heap.size + 1, 1, none⟩ (.slice (some ⟨w.heap.size + 1 + 1, 0, none⟩) k k)).cell? ⟨w.heap.size + 1, 1, none⟩ = some (.slice (some ⟨w.heap.size + 1 + 1, 0, none⟩) k k) := by simp [go_sem, p11]
          refine bodyPost_ret (v := .agg #[.int .i64 kd, .slice (some ⟨w.heap.size + 1 + 1, 0, none⟩) k k]) (by simp [results, Tryd.results105, go_sem, g0, g1]) rfl ?_
          refine ⟨_, [w.heap.size + 1 + 1] ++ fps.flatten, rfl, ⟨_, rfl, hk0, hk1, some ⟨w.heap.size + 1 + 1, 0, none⟩, k, [w.heap.size + 1 + 1], fps, by rw [HN.out], by rw [← HN.out]; exact Nat.le_refl _, by omega, by rw [HL.out, HN.out], rfl, fun b hb => by cases List.mem_singleton.1 hb; rw [hz2]; exact hgl, fun j hj => ?_⟩, ?_, (HBW.out.setCell (by simp) _).setCell (by simp) _⟩
          · obtain ⟨c0, c1, f, hc0, hc1, hfj, hty⟩ := HD.out j hj (by have := HN.out; omega)
            have hjk : j < k := by have := HN.out; omega
            refine ⟨w.heap.size + 1 + 1, 0, c0, c1, f, rfl, rfl, by rw [hz2]; exact hgl, ?_, ?_, ?_, hfj, hty.kept (by rw [hz2]; exact Nat.le_refl _) fun b hb => hkeep b ?_⟩
            · rw [World.cell?_of_block (hkeep _ (show w.heap.size + 1 + 1 ≠ w.heap.size + 1 by omega)), Nat.zero_add, HO.out.cellAt (j * 2) (by omega)]; exact hc0
            · rw [World.frozen?_of_block (hkeep _ (show w.heap.size + 1 + 1 ≠ w.heap.size + 1 by omega))]; exact HO.out.frozenAt _
            · rw [World.cell?_of_block (hkeep _ (show w.heap.size + 1 + 1 ≠ w.heap.size + 1 by omega)), Nat.zero_add, HO.out.cellAt (j * 2 + 1) (by omega)]; exact hc1
            · have := (HF.out.2 b (List.mem_flatten.2 ⟨f, List.mem_of_getElem? hfj, hb⟩)).1; omega
          · rw [hz2]
            exact (Fp.one (Nat.le_refl _) (Nat.lt_succ_self _)).join HF.out (by omega) (by omega) |>.mono (by omega) (Nat.le_refl _)
end Go.Proofs.YtnggkcgifjfnfaaDoor
/-
  Proved: impl.ArrowType makes a type of two copied parts in new memory; the memory that was there stays as it was.
-/
namespace Go.Proofs.YtnggkcgifjfnfaaDoor
open Go.RowKit

set_option maxRecDepth 100000 in
set_option maxHeartbeats 2000000 in
theorem implArrowType (d : Nat) (v1 v2 : Value) (t1 t2 : Ty) (w : World) (hn1 : t1.size ≤ 1048577) (hn2 : t2.size ≤ 1048577) (h1 : TyAt w d v1 t1) (h2 : TyAt w d v2 t2) :
    Calls Tryd.prog 99 #[v1, v2] w (ToTyEnd (d + 1) (.node 4 [t1, t2]) w) := by
  obtain ⟨ak, aa, an, ac, rfl⟩ := agg_parts h1
  obtain ⟨bk, ba, bn, bc, rfl⟩ := agg_parts h2
  have B : Hid (Below w.heap.size w (((w.alloc (.cells #[.int .i64 ak, .slice aa an ac] 33)).alloc (.cells #[.int .i64 bk, .slice ba bn bc] 33)).alloc (.cells #[.int .i64 0, .slice none 0 0] 33))) := (((Below.refl _ _).alloc (Nat.le_refl _) _).alloc (by simp) _).alloc (by simp; omega) _
  have XA : Hid (BoxAt (((w.alloc (.cells #[.int .i64 ak, .slice aa an ac] 33)).alloc (.cells #[.int .i64 bk, .slice ba bn bc] 33)).alloc (.cells #[.int .i64 0, .slice none 0 0] 33)) w.heap.size #[.int .i64 ak, .slice aa an ac]) := ((BoxAt.new _ _ _).below (below_alloc _ _)).below (below_alloc _ _)
  have XB : Hid (BoxAt (((w.alloc (.cells #[.int .i64 ak, .slice aa an ac] 33)).alloc (.cells #[.int .i64 bk, .slice ba bn bc] 33)).alloc (.cells #[.int .i64 0, .slice none 0 0] 33)) (w.heap.size + 1) #[.int .i64 bk, .slice ba bn bc]) := (box_at (BoxAt.new _ _ _) (by simp)).below (below_alloc _ _)
  have XR : Hid (BoxAt (((w.alloc (.cells #[.int .i64 ak, .slice aa an ac] 33)).alloc (.cells #[.int .i64 bk, .slice ba bn bc] 33)).alloc (.cells #[.int .i64 0, .slice none 0 0] 33)) (w.heap.size + 1 + 1) #[.int .i64 0, .slice none 0 0]) := box_at (BoxAt.new _ _ _) (by simp)
  have XF : Hid (FreeAt (((w.alloc (.cells #[.int .i64 ak, .slice aa an ac] 33)).alloc (.cells #[.int .i64 bk, .slice ba bn bc] 33)).alloc (.cells #[.int .i64 0, .slice none 0 0] 33)) (w.heap.size + 1 + 1)) := free_at (FreeAt.new _ _ _) (by simp)
  have HA := Lib.hid (h1.below B.out)
  have HB := Lib.hid (h2.below B.out)
  clear h1 h2
  go_enter Tryd.func99, Tryd.ntmps99
  go_wp2_with fail
  have hb := below_drew (((w.alloc (.cells #[.int .i64 ak, .slice aa an ac] 33)).alloc (.cells #[.int .i64 bk, .slice ba bn bc] 33)).alloc (.cells #[.int .i64 0, .slice none 0 0] 33))
  replace B := Lib.hid (below_thru B.out (Nat.le_refl _) hb)
  replace HA := Lib.hid (HA.out.below hb)
  replace HB := Lib.hid (HB.out.below hb)
  replace XA := Lib.hid (XA.out.below hb)
  replace XB := Lib.hid (XB.out.below hb)
  replace XR := Lib.hid (XR.out.below hb)
  replace XF := Lib.hid (XF.out.below hb)
  clear hb
  have hzs : (((w.alloc (.cells #[.int .i64 ak, .slice aa an ac] 33)).alloc (.cells #[.int .i64 bk, .slice ba bn bc] 33)).alloc (.cells #[.int .i64 0, .slice none 0 0] 33)).drew.heap.size = w.heap.size + 3 := by simp
  go_region_held3 (fun w' => w'.cell? ⟨w.heap.size, 0, none⟩ = some (.int .i64 ak) ∧ w'.cell? ⟨w.heap.size, 1, none⟩ = some (.slice aa an ac) ∧ w'.cell? ⟨w.heap.size + 1, 0, none⟩ = some (.int .i64 bk) ∧ w'.cell? ⟨w.heap.size + 1, 1, none⟩ = some (.slice ba bn bc))
    (first | exact ⟨XA.out.2 0, XA.out.2 1, XB.out.2 0, XB.out.2 1⟩ | exact ⟨(XA.out.below (below_alloc _ _)).2 0, (XA.out.below (below_alloc _ _)).2 1, (XB.out.below (below_alloc _ _)).2 0, (XB.out.below (below_alloc _ _)).2 1⟩ | exact ⟨(((XA.out.stored (by omega)).stored (by omega)).below (below_alloc _ _)).2 0, (((XA.out.stored (by omega)).stored (by omega)).below (below_alloc _ _)).2 1, (((XB.out.stored (by omega)).stored (by omega)).below (below_alloc _ _)).2 0, (((XB.out.stored (by omega)).stored (by omega)).below (below_alloc _ _)).2 1⟩)
    (first
     | (go_at_call_of 105 (Value.agg #[Value.int IntKind.i64 ak, Value.slice aa an ac])
        refine (implCopy d _ t1 _ hn1 HA.out).mono ?_
        rintro e w1 ⟨x1, f1, rfl, ht, hf1, hb⟩
        obtain ⟨ck, ca, cn, cc, rfl, HC⟩ := ty_parts ht
        have hz1 := hb.size
        rw [hzs] at hz1 hf1
        have F1 := Lib.hid hf1
        clear ht hf1
        replace B := Lib.hid (below_thru B.out (Nat.le_refl _) hb)
        replace HA := Lib.hid (HA.out.below hb)
        replace HB := Lib.hid (HB.out.below hb)
        replace XA := Lib.hid (XA.out.below hb)
        replace XB := Lib.hid (XB.out.below hb)
        replace XR := Lib.hid (XR.out.below hb)
        replace XF := Lib.hid (XF.out.below hb)
        clear hb)
     | (go_at_call_of 105 (Value.agg #[Value.int IntKind.i64 bk, Value.slice ba bn bc])
        refine (implCopy d _ t2 _ hn2 HB.out).mono ?_
        rintro e w2 ⟨x2, f2, rfl, ht, hf2, hb⟩
        obtain ⟨dk, da, dn, dc, rfl, HD⟩ := ty_parts ht
        have hz2 := hb.size
        have F2 := Lib.hid hf2
        clear ht hf2
        replace B := Lib.hid (below_thru B.out (Nat.le_refl _) hb)
        replace HA := Lib.hid (HA.out.below hb)
        replace HB := Lib.hid (HB.out.below hb)
        replace XA := Lib.hid (XA.out.below hb)
        replace XB := Lib.hid (XB.out.below hb)
        replace XR := Lib.hid (XR.out.below hb)
        replace XF := Lib.hid (XF.out.below hb)
        replace HC := Lib.hid (HC.out.below hb)
        clear hb
        have r0 := XR.out.2 0
        have r1 := XR.out.2 1
        have q0 := XF.out.2 0
        have q1 := XF.out.2 1
        have hr := XR.out.1))
  go_wp2_with fail
  have hkeep : ∀ b, w.heap.size + 3 ≤ b → ((w2.setCell ⟨w.heap.size + 1 + 1, 0, none⟩ (.int .i64 4)).setCell ⟨w.heap.size + 1 + 1, 1, none⟩ (.slice (some ⟨w2.heap.size, 0, none⟩) 2 2)).heap[b]? = w2.heap[b]? := fun b hb => by
    rw [heap_setCell_other _ _ _ _ (by simp; omega), heap_setCell_other _ _ _ _ (by simp; omega)]
  have hxz : ((w2.setCell ⟨w.heap.size + 1 + 1, 0, none⟩ (.int .i64 4)).setCell ⟨w.heap.size + 1 + 1, 1, none⟩ (.slice (some ⟨w2.heap.size, 0, none⟩) 2 2)).heap.size = w2.heap.size := by simp
  obtain ⟨fp, hown, hfp⟩ := own_two (X := ((w2.setCell ⟨w.heap.size + 1 + 1, 0, none⟩ (.int .i64 4)).setCell ⟨w.heap.size + 1 + 1, 1, none⟩ (.slice (some ⟨w2.heap.size, 0, none⟩) 2 2))) (k := 4) (by omega) (by omega) hxz.symm (HC.out.kept (by simp) fun b hb => hkeep b (F1.out.2 b hb).1) (HD.out.kept (by simp) fun b hb => hkeep b (by have := (F2.out.2 b hb).1; omega)) F1.out F2.out hz1 hz2
  have g0 : (((w2.setCell ⟨w.heap.size + 1 + 1, 0, none⟩ (.int .i64 4)).setCell ⟨w.heap.size + 1 + 1, 1, none⟩ (.slice (some ⟨w2.heap.size, 0, none⟩) 2 2)).alloc (.cells #[.int .i64 ck, .slice ca cn cc, .int .i64 dk, .slice da dn dc] 33)).cell? ⟨w.heap.size + 1 + 1, 0, none⟩ = some (.int .i64 4) := by
    rw [World.cell?_of_block (heap_alloc_old _ _ (by rw [hxz]; exact hr))]; simp [go_sem, r0]
  have g1 : (((w2.setCell ⟨w.heap.size + 1 + 1, 0, none⟩ (.int .i64 4)).setCell ⟨w.heap.size + 1 + 1, 1, none⟩ (.slice (some ⟨w2.heap.size, 0, none⟩) 2 2)).alloc (.cells #[.int .i64 ck, .slice ca cn cc, .int .i64 dk, .slice da dn dc] 33)).cell? ⟨w.heap.size + 1 + 1, 1, none⟩ = some (.slice (some ⟨w2.heap.size, 0, none⟩) 2 2) := by
    rw [World.cell?_of_block (heap_alloc_old _ _ (by rw [hxz]; exact hr))]; simp [go_sem, r1]
  have hbF : Below w.heap.size w (((w2.setCell ⟨w.heap.size + 1 + 1, 0, none⟩ (.int .i64 4)).setCell ⟨w.heap.size + 1 + 1, 1, none⟩ (.slice (some ⟨w2.heap.size, 0, none⟩) 2 2)).alloc (.cells #[.int .i64 ck, .slice ca cn cc, .int .i64 dk, .slice da dn dc] 33)) := ((B.out.setCell (by simp; omega) _).setCell (by simp; omega) _).alloc (by rw [hxz]; omega) _
  have hzF : w2.heap.size + 1 ≤ (((w2.setCell ⟨w.heap.size + 1 + 1, 0, none⟩ (.int .i64 4)).setCell ⟨w.heap.size + 1 + 1, 1, none⟩ (.slice (some ⟨w2.heap.size, 0, none⟩) 2 2)).alloc (.cells #[.int .i64 ck, .slice ca cn cc, .int .i64 dk, .slice da dn dc] 33)).heap.size := by simp
  generalize ((w2.setCell ⟨w.heap.size + 1 + 1, 0, none⟩ (.int .i64 4)).setCell ⟨w.heap.size + 1 + 1, 1, none⟩ (.slice (some ⟨w2.heap.size, 0, none⟩) 2 2)).alloc (.cells #[.int .i64 ck, .slice ca cn cc, .int .i64 dk, .slice da dn dc] 33) = WF at g0 g1 hown hbF hzF ⊢
  refine bodyPost_ret (v := .agg #[.int .i64 4, .slice (some ⟨w2.heap.size, 0, none⟩) 2 2]) (by simp [results, Tryd.results99, go_sem, g0, g1]) rfl ?_
  exact ⟨_, fp, rfl, hown, hfp.mono (by omega) hzF, hbF⟩
end Go.Proofs.YtnggkcgifjfnfaaDoor
/-
  Proved: impl.PairType makes a type of two copied parts in new memory; the memory that was there stays as it was.
-/
namespace Go.Proofs.YtnggkcgifjfnfaaDoor
open Go.RowKit

set_option maxRecDepth 100000 in
set_option maxHeartbeats 2000000 in
theorem implPairType (d : Nat) (v1 v2 : Value) (t1 t2 : Ty) (w : World) (hn1 : t1.size ≤ 1048577) (hn2 : t2.size ≤ 1048577) (h1 : TyAt w d v1 t1) (h2 : TyAt w d v2 t2) :
    Calls Tryd.prog 100 #[v1, v2] w (ToTyEnd (d + 1) (.node 5 [t1, t2]) w) := by
  obtain ⟨ak, aa, an, ac, rfl⟩ := agg_parts h1
  obtain ⟨bk, ba, bn, bc, rfl⟩ := agg_parts h2
  have B : Hid (Below w.heap.size w (((w.alloc (.cells #[.int .i64 ak, .slice aa an ac] 33)).alloc (.cells #[.int .i64 bk, .slice ba bn bc] 33)).alloc (.cells #[.int .i64 0, .slice none 0 0] 33))) := (((Below.refl _ _).alloc (Nat.le_refl _) _).alloc (by simp) _).alloc (by simp; omega) _
  have XA : Hid (BoxAt (((w.alloc (.cells #[.int .i64 ak, .slice aa an ac] 33)).alloc (.cells #[.int .i64 bk, .slice ba bn bc] 33)).alloc (.cells #[.int .i64 0, .slice none 0 0] 33)) w.heap.size #[.int .i64 ak, .slice aa an ac]) := ((BoxAt.new _ _ _).below (below_alloc _ _)).below (below_alloc _ _)
  have XB : Hid (BoxAt (((w.alloc (.cells #[.int .i64 ak, .slice aa an ac] 33)).alloc (.cells #[.int .i64 bk, .slice ba bn bc] 33)).alloc (.cells #[.int .i64 0, .slice none 0 0] 33)) (w.heap.size + 1) #[.int .i64 bk, .slice ba bn bc]) := (box_at (BoxAt.new _ _ _) (by simp)).below (below_alloc _ _)
  have XR : Hid (BoxAt (((w.alloc (.cells #[.int .i64 ak, .slice aa an ac] 33)).alloc (.cells #[.int .i64 bk, .slice ba bn bc] 33)).alloc (.cells #[.int .i64 0, .slice none 0 0] 33)) (w.heap.size + 1 + 1) #[.int .i64 0, .slice none 0 0]) := box_at (BoxAt.new _ _ _) (by simp)
  have XF : Hid (FreeAt (((w.alloc (.cells #[.int .i64 ak, .slice aa an ac] 33)).alloc (.cells #[.int .i64 bk, .slice ba bn bc] 33)).alloc (.cells #[.int .i64 0, .slice none 0 0] 33)) (w.heap.size + 1 + 1)) := free_at (FreeAt.new _ _ _) (by simp)
  have HA := Lib.hid (h1.below B.out)
  have HB := Lib.hid (h2.below B.out)
  clear h1 h2
  go_enter Tryd.func100, Tryd.ntmps100
  go_wp2_with fail
  have hb := below_drew (((w.alloc (.cells #[.int .i64 ak, .slice aa an ac] 33)).alloc (.cells #[.int .i64 bk, .slice ba bn bc] 33)).alloc (.cells #[.int .i64 0, .slice none 0 0] 33))
  replace B := Lib.hid (below_thru B.out (Nat.le_refl _) hb)
  replace HA := Lib.hid (HA.out.below hb)
  replace HB := Lib.hid (HB.out.below hb)
  replace XA := Lib.hid (XA.out.below hb)
  replace XB := Lib.hid (XB.out.below hb)
  replace XR := Lib.hid (XR.out.below hb)
  replace XF := Lib.hid (XF.out.below hb)
  clear hb
  have hzs : (((w.alloc (.cells #[.int .i64 ak, .slice aa an ac] 33)).alloc (.cells #[.int .i64 bk, .slice ba bn bc] 33)).alloc (.cells #[.int .i64 0, .slice none 0 0] 33)).drew.heap.size = w.heap.size + 3 := by simp
  go_region_held3 (fun w' => w'.cell? ⟨w.heap.size, 0, none⟩ = some (.int .i64 ak) ∧ w'.cell? ⟨w.heap.size, 1, none⟩ = some (.slice aa an ac) ∧ w'.cell? ⟨w.heap.size + 1, 0, none⟩ = some (.int .i64 bk) ∧ w'.cell? ⟨w.heap.size + 1, 1, none⟩ = some (.slice ba bn bc))
    (first | exact ⟨XA.out.2 0, XA.out.2 1, XB.out.2 0, XB.out.2 1⟩ | exact ⟨(XA.out.below (below_alloc _ _)).2 0, (XA.out.below (below_alloc _ _)).2 1, (XB.out.below (below_alloc _ _)).2 0, (XB.out.below (below_alloc _ _)).2 1⟩ | exact ⟨(((XA.out.stored (by omega)).stored (by omega)).below (below_alloc _ _)).2 0, (((XA.out.stored (by omega)).stored (by omega)).below (below_alloc _ _)).2 1, (((XB.out.stored (by omega)).stored (by omega)).below (below_alloc _ _)).2 0, (((XB.out.stored (by omega)).stored (by omega)).below (below_alloc _ _)).2 1⟩)
    (first
     | (go_at_call_of 105 (Value.agg #[Value.int IntKind.i64 ak, Value.slice aa an ac])
        refine (implCopy d _ t1 _ hn1 HA.out).mono ?_
        rintro e w1 ⟨x1, f1, rfl, ht, hf1, hb⟩
        obtain ⟨ck, ca, cn, cc, rfl, HC⟩ := ty_parts ht
        have hz1 := hb.size
        rw [hzs] at hz1 hf1
        have F1 := Lib.hid hf1
        clear ht hf1
        replace B := Lib.hid (below_thru B.out (Nat.le_refl _) hb)
        replace HA := Lib.hid (HA.out.below hb)
        replace HB := Lib.hid (HB.out.below hb)
        replace XA := Lib.hid (XA.out.below hb)
        replace XB := Lib.hid (XB.out.below hb)
        replace XR := Lib.hid (XR.out.below hb)
        replace XF := Lib.hid (XF.out.below hb)
        clear hb)
     | (go_at_call_of 105 (Value.agg #[Value.int IntKind.i64 bk, Value.slice ba bn bc])
        refine (implCopy d _ t2 _ hn2 HB.out).mono ?_
        rintro e w2 ⟨x2, f2, rfl, ht, hf2, hb⟩
        obtain ⟨dk, da, dn, dc, rfl, HD⟩ := ty_parts ht
        have hz2 := hb.size
        have F2 := Lib.hid hf2
        clear ht hf2
        replace B := Lib.hid (below_thru B.out (Nat.le_refl _) hb)
        replace HA := Lib.hid (HA.out.below hb)
        replace HB := Lib.hid (HB.out.below hb)
        replace XA := Lib.hid (XA.out.below hb)
        replace XB := Lib.hid (XB.out.below hb)
        replace XR := Lib.hid (XR.out.below hb)
        replace XF := Lib.hid (XF.out.below hb)
        replace HC := Lib.hid (HC.out.below hb)
        clear hb
        have r0 := XR.out.2 0
        have r1 := XR.out.2 1
        have q0 := XF.out.2 0
        have q1 := XF.out.2 1
        have hr := XR.out.1))
  go_wp2_with fail
  have hkeep : ∀ b, w.heap.size + 3 ≤ b → ((w2.setCell ⟨w.heap.size + 1 + 1, 0, none⟩ (.int .i64 5)).setCell ⟨w.heap.size + 1 + 1, 1, none⟩ (.slice (some ⟨w2.heap.size, 0, none⟩) 2 2)).heap[b]? = w2.heap[b]? := fun b hb => by
    rw [heap_setCell_other _ _ _ _ (by simp; omega), heap_setCell_other _ _ _ _ (by simp; omega)]
  have hxz : ((w2.setCell ⟨w.heap.size + 1 + 1, 0, none⟩ (.int .i64 5)).setCell ⟨w.heap.size + 1 + 1, 1, none⟩ (.slice (some ⟨w2.heap.size, 0, none⟩) 2 2)).heap.size = w2.heap.size := by simp
  obtain ⟨fp, hown, hfp⟩ := own_two (X := ((w2.setCell ⟨w.heap.size + 1 + 1, 0, none⟩ (.int .i64 5)).setCell ⟨w.heap.size + 1 + 1, 1, none⟩ (.slice (some ⟨w2.heap.size, 0, none⟩) 2 2))) (k := 5) (by omega) (by omega) hxz.symm (HC.out.kept (by simp) fun b hb => hkeep b (F1.out.2 b hb).1) (HD.out.kept (by simp) fun b hb => hkeep b (by have := (F2.out.2 b hb).1; omega)) F1.out F2.out hz1 hz2
  have g0 : (((w2.setCell ⟨w.heap.size + 1 + 1, 0, none⟩ (.int .i64 5)).setCell ⟨w.heap.size + 1 + 1, 1, none⟩ (.slice (some ⟨w2.heap.size, 0, none⟩) 2 2)).alloc (.cells #[.int .i64 ck, .slice ca cn cc, .int .i64 dk, .slice da dn dc] 33)).cell? ⟨w.heap.size + 1 + 1, 0, none⟩ = some (.int .i64 5) := by
    rw [World.cell?_of_block (heap_alloc_old _ _ (by rw [hxz]; exact hr))]; simp [go_sem, r0]
  have g1 : (((w2.setCell ⟨w.heap.size + 1 + 1, 0, none⟩ (.int .i64 5)).setCell ⟨w.heap.size + 1 + 1, 1, none⟩ (.slice (some ⟨w2.heap.size, 0, none⟩) 2 2)).alloc (.cells #[.int .i64 ck, .slice ca cn cc, .int .i64 dk, .slice da dn dc] 33)).cell? ⟨w.heap.size + 1 + 1, 1, none⟩ = some (.slice (some ⟨w2.heap.size, 0, none⟩) 2 2) := by
    rw [World.cell?_of_block (heap_alloc_old _ _ (by rw [hxz]; exact hr))]; simp [go_sem, r1]
  have hbF : Below w.heap.size w (((w2.setCell ⟨w.heap.size + 1 + 1, 0, none⟩ (.int .i64 5)).setCell ⟨w.heap.size + 1 + 1, 1, none⟩ (.slice (some ⟨w2.heap.size, 0, none⟩) 2 2)).alloc (.cells #[.int .i64 ck, .slice ca cn cc, .int .i64 dk, .slice da dn dc] 33)) := ((B.out.setCell (by simp; omega) _).setCell (by simp; omega) _).alloc (by rw [hxz]; omega) _
  have hzF : w2.heap.size + 1 ≤ (((w2.setCell ⟨w.heap.size + 1 + 1, 0, none⟩ (.int .i64 5)).setCell ⟨w.heap.size + 1 + 1, 1, none⟩ (.slice (some ⟨w2.heap.size, 0, none⟩) 2 2)).alloc (.cells #[.int .i64 ck, .slice ca cn cc, .int .i64 dk, .slice da dn dc] 33)).heap.size := by simp
  generalize ((w2.setCell ⟨w.heap.size + 1 + 1, 0, none⟩ (.int .i64 5)).setCell ⟨w.heap.size + 1 + 1, 1, none⟩ (.slice (some ⟨w2.heap.size, 0, none⟩) 2 2)).alloc (.cells #[.int .i64 ck, .slice ca cn cc, .int .i64 dk, .slice da dn dc] 33) = WF at g0 g1 hown hbF hzF ⊢
  refine bodyPost_ret (v := .agg #[.int .i64 5, .slice (some ⟨w2.heap.size, 0, none⟩) 2 2]) (by simp [results, Tryd.results100, go_sem, g0, g1]) rfl ?_
  exact ⟨_, fp, rfl, hown, hfp.mono (by omega) hzF, hbF⟩
end Go.Proofs.YtnggkcgifjfnfaaDoor
/-
  Proved: what an assertion on one of the five nodes yields (closed facts on the program's tables).
-/
namespace Go.Proofs.YtnggkcgifjfnfaaDoor
open Go.RowKit

theorem as_unknown_unknown (w : World) : (Instr.typeAssert (.iface 101 (.agg #[])) 98 101 true).run Tryd.prog w = .ok (.tuple #[.agg #[], .bool true]) w := by kernel_rfl
theorem as_unknown_num (w : World) : (Instr.typeAssert (.iface 101 (.agg #[])) 98 102 true).run Tryd.prog w = .ok (.tuple #[.agg #[], .bool false]) w := by kernel_rfl
theorem as_unknown_bool (w : World) : (Instr.typeAssert (.iface 101 (.agg #[])) 98 103 true).run Tryd.prog w = .ok (.tuple #[.agg #[], .bool false]) w := by kernel_rfl
theorem as_unknown_arrow (w : World) : (Instr.typeAssert (.iface 101 (.agg #[])) 98 105 true).run Tryd.prog w = .ok (.tuple #[.agg #[.int .i64 0, .slice none 0 0, .int .i64 0, .slice none 0 0], .bool false]) w := by kernel_rfl
theorem as_unknown_pair (w : World) : (Instr.typeAssert (.iface 101 (.agg #[])) 98 107 true).run Tryd.prog w = .ok (.tuple #[.agg #[.int .i64 0, .slice none 0 0, .int .i64 0, .slice none 0 0], .bool false]) w := by kernel_rfl
theorem as_num_unknown (w : World) : (Instr.typeAssert (.iface 102 (.agg #[])) 98 101 true).run Tryd.prog w = .ok (.tuple #[.agg #[], .bool false]) w := by kernel_rfl
theorem as_num_num (w : World) : (Instr.typeAssert (.iface 102 (.agg #[])) 98 102 true).run Tryd.prog w = .ok (.tuple #[.agg #[], .bool true]) w := by kernel_rfl
theorem as_num_bool (w : World) : (Instr.typeAssert (.iface 102 (.agg #[])) 98 103 true).run Tryd.prog w = .ok (.tuple #[.agg #[], .bool false]) w := by kernel_rfl
theorem as_num_arrow (w : World) : (Instr.typeAssert (.iface 102 (.agg #[])) 98 105 true).run Tryd.prog w = .ok (.tuple #[.agg #[.int .i64 0, .slice none 0 0, .int .i64 0, .slice none 0 0], .bool false]) w := by kernel_rfl
theorem as_num_pair (w : World) : (Instr.typeAssert (.iface 102 (.agg #[])) 98 107 true).run Tryd.prog w = .ok (.tuple #[.agg #[.int .i64 0, .slice none 0 0, .int .i64 0, .slice none 0 0], .bool false]) w := by kernel_rfl
theorem as_bool_unknown (w : World) : (Instr.typeAssert (.iface 103 (.agg #[])) 98 101 true).run Tryd.prog w = .ok (.tuple #[.agg #[], .bool false]) w := by kernel_rfl
theorem as_bool_num (w : World) : (Instr.typeAssert (.iface 103 (.agg #[])) 98 102 true).run Tryd.prog w = .ok (.tuple #[.agg #[], .bool false]) w := by kernel_rfl
theorem as_bool_bool (w : World) : (Instr.typeAssert (.iface 103 (.agg #[])) 98 103 true).run Tryd.prog w = .ok (.tuple #[.agg #[], .bool true]) w := by kernel_rfl
theorem as_bool_arrow (w : World) : (Instr.typeAssert (.iface 103 (.agg #[])) 98 105 true).run Tryd.prog w = .ok (.tuple #[.agg #[.int .i64 0, .slice none 0 0, .int .i64 0, .slice none 0 0], .bool false]) w := by kernel_rfl
theorem as_bool_pair (w : World) : (Instr.typeAssert (.iface 103 (.agg #[])) 98 107 true).run Tryd.prog w = .ok (.tuple #[.agg #[.int .i64 0, .slice none 0 0, .int .i64 0, .slice none 0 0], .bool false]) w := by kernel_rfl
theorem as_arrow_unknown (a b c d : Value) (w : World) : (Instr.typeAssert (.iface 105 (.agg #[a, b, c, d])) 98 101 true).run Tryd.prog w = .ok (.tuple #[.agg #[], .bool false]) w := by kernel_rfl
theorem as_arrow_num (a b c d : Value) (w : World) : (Instr.typeAssert (.iface 105 (.agg #[a, b, c, d])) 98 102 true).run Tryd.prog w = .ok (.tuple #[.agg #[], .bool false]) w := by kernel_rfl
theorem as_arrow_bool (a b c d : Value) (w : World) : (Instr.typeAssert (.iface 105 (.agg #[a, b, c, d])) 98 103 true).run Tryd.prog w = .ok (.tuple #[.agg #[], .bool false]) w := by kernel_rfl
theorem as_arrow_arrow (a b c d : Value) (w : World) : (Instr.typeAssert (.iface 105 (.agg #[a, b, c, d])) 98 105 true).run Tryd.prog w = .ok (.tuple #[.agg #[a, b, c, d], .bool true]) w := by kernel_rfl
theorem as_arrow_pair (a b c d : Value) (w : World) : (Instr.typeAssert (.iface 105 (.agg #[a, b, c, d])) 98 107 true).run Tryd.prog w = .ok (.tuple #[.agg #[.int .i64 0, .slice none 0 0, .int .i64 0, .slice none 0 0], .bool false]) w := by kernel_rfl
theorem as_pair_unknown (a b c d : Value) (w : World) : (Instr.typeAssert (.iface 107 (.agg #[a, b, c, d])) 98 101 true).run Tryd.prog w = .ok (.tuple #[.agg #[], .bool false]) w := by kernel_rfl
theorem as_pair_num (a b c d : Value) (w : World) : (Instr.typeAssert (.iface 107 (.agg #[a, b, c, d])) 98 102 true).run Tryd.prog w = .ok (.tuple #[.agg #[], .bool false]) w := by kernel_rfl
theorem as_pair_bool (a b c d : Value) (w : World) : (Instr.typeAssert (.iface 107 (.agg #[a, b, c, d])) 98 103 true).run Tryd.prog w = .ok (.tuple #[.agg #[], .bool false]) w := by kernel_rfl
theorem as_pair_arrow (a b c d : Value) (w : World) : (Instr.typeAssert (.iface 107 (.agg #[a, b, c, d])) 98 105 true).run Tryd.prog w = .ok (.tuple #[.agg #[.int .i64 0, .slice none 0 0, .int .i64 0, .slice none 0 0], .bool false]) w := by kernel_rfl
theorem as_pair_pair (a b c d : Value) (w : World) : (Instr.typeAssert (.iface 107 (.agg #[a, b, c, d])) 98 107 true).run Tryd.prog w = .ok (.tuple #[.agg #[a, b, c, d], .bool true]) w := by kernel_rfl
end Go.Proofs.YtnggkcgifjfnfaaDoor
/-
  Proved: impl.GroundOf makes the ground type of a type; the memory that was there stays as it was.
-/
namespace Go.Proofs.YtnggkcgifjfnfaaDoor
open Go.RowKit

theorem ret_leaf {w w' : World} {t : Ty} {k : Int} (ht : t.ground = .node k []) (h0 : -9223372036854775808 ≤ k) (h1 : k ≤ 9223372036854775807) (hb : Below w.heap.size w w') : ToTyEnd 2 t.ground w (.returned (.agg #[.int .i64 k, .slice none 0 0])) w' := by
  rw [ht]
  exact ⟨_, [], rfl, own_zero _ _ _ h0 h1, Fp.nil _ _, hb⟩
set_option maxRecDepth 100000 in
set_option maxHeartbeats 4000000 in
theorem implGround (d : Nat) (v : Value) (t : Ty) (w : World) (h : TyAt w d v t) (hsz : t.size ≤ 1048577) :
    Calls Tryd.prog 84 #[v] w (ToTyEnd 2 t.ground w) := by
  cases d with
  | zero => exact h.elim
  | succ d =>
  cases t with
  | node kd ts =>
  have HT := Lib.hid h
  obtain ⟨yk, ya, yn, yc, rfl⟩ := agg_parts h
  clear h
  have hlen : ts.length ≤ 1152921504606846976 := by have := Ty.length_le ts; simp [Ty.size] at hsz; omega
  have B : Hid (Below w.heap.size w ((w.alloc (.cells #[.int .i64 yk, .slice ya yn yc] 33)).alloc (.cells #[.int .i64 0, .slice none 0 0] 33))) := ((Below.refl _ _).alloc (Nat.le_refl _) _).alloc (by simp) _
  have HA := Lib.hid (HT.out.below B.out)
  have XA : Hid (BoxAt ((w.alloc (.cells #[.int .i64 yk, .slice ya yn yc] 33)).alloc (.cells #[.int .i64 0, .slice none 0 0] 33)) w.heap.size #[.int .i64 yk, .slice ya yn yc]) := (BoxAt.new _ _ _).below (below_alloc _ _)
  have XR : Hid (BoxAt ((w.alloc (.cells #[.int .i64 yk, .slice ya yn yc] 33)).alloc (.cells #[.int .i64 0, .slice none 0 0] 33)) (w.heap.size + 1) #[.int .i64 0, .slice none 0 0]) := box_at (BoxAt.new _ _ _) (by simp)
  have XF : Hid (FreeAt ((w.alloc (.cells #[.int .i64 yk, .slice ya yn yc] 33)).alloc (.cells #[.int .i64 0, .slice none 0 0] 33)) (w.heap.size + 1)) := free_at (FreeAt.new _ _ _) (by simp)
  have hz0 : ((w.alloc (.cells #[.int .i64 yk, .slice ya yn yc] 33)).alloc (.cells #[.int .i64 0, .slice none 0 0] 33)).heap.size = w.heap.size + 2 := by simp
  go_enter Tryd.func84, Tryd.ntmps84
  go_wp2_with fail
  refine (implValid (d + 1) _ (.node kd ts) _ HA.out hsz).mono ?_
  rintro e w1 ⟨rfl, hb⟩
  have hz1 := hb.size
  rw [hz0] at hz1
  replace B := Lib.hid (below_thru B.out (Nat.le_refl _) hb)
  replace XA := Lib.hid (XA.out.below hb)
  replace XR := Lib.hid (XR.out.below hb)
  replace XF := Lib.hid (XF.out.below hb)
  clear hb
  cases hv : (Ty.node kd ts).valid with
  | false =>
    have a0 := XA.out.2 0
    have a1 := XA.out.2 1
    have r0 := XR.out.2 0
    have r1 := XR.out.2 1
    have q0 := XF.out.2 0
    have q1 := XF.out.2 1
    have hr := XR.out.1
    go_wp2_with fail
    refine bodyPost_ret (v := .agg #[.int .i64 0, .slice none 0 0]) (by simp [results, Tryd.results84, go_sem, r0, r1]) rfl ?_
    exact ret_leaf (by simp [Ty.ground, hv]) (by omega) (by omega) ((B.out.setCell (by simp) _).setCell (by simp) _)
  | true =>
    have hko : kindOk kd ts.length = true := by simp only [Ty.valid, Ty.form, Bool.and_eq_true] at hv; exact hv.2.2
    have HV := Lib.hid hv
    have HKO := Lib.hid hko
    clear hv hko
    have a0 := XA.out.2 0
    have a1 := XA.out.2 1
    have r0 := XR.out.2 0
    have r1 := XR.out.2 1
    have q0 := XF.out.2 0
    have q1 := XF.out.2 1
    have hr := XR.out.1
    go_wp2_with fail
    clear a0 a1 r0 r1 q0 q1 hr
    refine (implNode w d _ kd ts _ HT.out B.out hlen).mono ?_
    rintro e w2 ⟨n, rfl, hnode, hb⟩
    have hz2 := hb.size
    replace B := Lib.hid (below_thru B.out (Nat.le_refl _) hb)
    replace XA := Lib.hid (XA.out.below hb)
    replace XR := Lib.hid (XR.out.below hb)
    replace XF := Lib.hid (XF.out.below hb)
    clear hb
    have r0 := XR.out.2 0
    have r1 := XR.out.2 1
    have q0 := XF.out.2 0
    have q1 := XF.out.2 1
    have hr := XR.out.1
    rcases hnode with ⟨h, _⟩ | ⟨_, rfl, ⟨rfl, rfl⟩ | ⟨rfl, rfl⟩ | ⟨rfl, rfl⟩⟩ | ⟨_, t1, t2, k1, s1, k2, s2, rfl, _, _, ⟨rfl, rfl⟩ | ⟨rfl, rfl⟩⟩
    · rw [HKO.out] at h; cases h
    · have as0 := as_unknown_num
      have as1 := as_unknown_bool
      have as2 := as_unknown_arrow
      have as3 := as_unknown_pair
      go_wp2_with fail
      refine bodyPost_ret (v := .agg #[.int .i64 0, .slice none 0 0]) (by simp [results, Tryd.results84, go_sem, r0, r1]) rfl ?_
      exact ret_leaf (by simp [Ty.ground, HV.out]) (by omega) (by omega) ((B.out.setCell (by simp) _).setCell (by simp) _)
    · have as0 := as_num_num
      go_wp2_with fail
      clear r0 r1 q0 q1 hr
      refine (implNumType _).mono ?_
      rintro e w3 ⟨rfl, hb⟩
      replace B := Lib.hid (below_thru B.out (Nat.le_refl _) hb)
      replace XA := Lib.hid (XA.out.below hb)
      replace XR := Lib.hid (XR.out.below hb)
      replace XF := Lib.hid (XF.out.below hb)
      clear hb
      have r0 := XR.out.2 0
      have r1 := XR.out.2 1
      have q0 := XF.out.2 0
      have q1 := XF.out.2 1
      have hr := XR.out.1
      go_wp2_with fail
      refine bodyPost_ret (v := .agg #[.int .i64 2, .slice none 0 0]) (by simp [results, Tryd.results84, go_sem, r0, r1]) rfl ?_
      exact ret_leaf (by simp [Ty.ground, HV.out]) (by omega) (by omega) ((B.out.setCell (by simp) _).setCell (by simp) _)
    · have as0 := as_bool_num
      have as1 := as_bool_bool
      go_wp2_with fail
      clear r0 r1 q0 q1 hr
      refine (implBoolType _).mono ?_
      rintro e w3 ⟨rfl, hb⟩
      replace B := Lib.hid (below_thru B.out (Nat.le_refl _) hb)
      replace XA := Lib.hid (XA.out.below hb)
      replace XR := Lib.hid (XR.out.below hb)
      replace XF := Lib.hid (XF.out.below hb)
      clear hb
      have r0 := XR.out.2 0
      have r1 := XR.out.2 1
      have q0 := XF.out.2 0
      have q1 := XF.out.2 1
      have hr := XR.out.1
      go_wp2_with fail
      refine bodyPost_ret (v := .agg #[.int .i64 3, .slice none 0 0]) (by simp [results, Tryd.results84, go_sem, r0, r1]) rfl ?_
      exact ret_leaf (by simp [Ty.ground, HV.out]) (by omega) (by omega) ((B.out.setCell (by simp) _).setCell (by simp) _)
    · have as0 := as_arrow_num (.int .i64 k1) s1 (.int .i64 k2) s2
      have as1 := as_arrow_bool (.int .i64 k1) s1 (.int .i64 k2) s2
      have as2 := as_arrow_arrow (.int .i64 k1) s1 (.int .i64 k2) s2
      go_wp2_with fail
      clear r0 r1 q0 q1 hr
      refine (implUnknownType _).mono ?_
      rintro e w3 ⟨rfl, hb⟩
      have hz3 := hb.size
      replace B := Lib.hid (below_thru B.out (Nat.le_refl _) hb)
      replace XA := Lib.hid (XA.out.below hb)
      replace XR := Lib.hid (XR.out.below hb)
      replace XF := Lib.hid (XF.out.below hb)
      clear hb
      go_wp2_with fail
      refine (implUnknownType _).mono ?_
      rintro e w4 ⟨rfl, hb⟩
      have hz4 := hb.size
      replace B := Lib.hid (below_thru B.out (Nat.le_refl _) hb)
      replace XA := Lib.hid (XA.out.below hb)
      replace XR := Lib.hid (XR.out.below hb)
      replace XF := Lib.hid (XF.out.below hb)
      clear hb
      go_wp2_with fail
      refine (implArrowType 1 _ _ (.node 1 []) (.node 1 []) _ (by decide) (by decide) (own_zero _ 0 1 (by omega) (by omega)).at_ (own_zero _ 0 1 (by omega) (by omega)).at_).mono ?_
      rintro e w5 ⟨v5, fp, rfl, ht, hf, hb⟩
      have hz5 := hb.size
      replace B := Lib.hid (below_thru B.out (Nat.le_refl _) hb)
      replace XA := Lib.hid (XA.out.below hb)
      replace XR := Lib.hid (XR.out.below hb)
      replace XF := Lib.hid (XF.out.below hb)
      clear hb
      obtain ⟨gk, ga, gn, gc, rfl, HG⟩ := ty_parts ht
      have HF := Lib.hid hf
      clear ht hf
      have r0 := XR.out.2 0
      have r1 := XR.out.2 1
      have q0 := XF.out.2 0
      have q1 := XF.out.2 1
      have hr := XR.out.1
      go_wp2_with fail
      have g0 : ((w5.setCell ⟨w.heap.size + 1, 0, none⟩ (.int .i64 gk)).setCell ⟨w.heap.size + 1, 1, none⟩ (.slice ga gn gc)).cell? ⟨w.heap.size + 1, 0, none⟩ = some (.int .i64 gk) := by simp [go_sem, r0]
      have g1 : ((w5.setCell ⟨w.heap.size + 1, 0, none⟩ (.int .i64 gk)).setCell ⟨w.heap.size + 1, 1, none⟩ (.slice ga gn gc)).cell? ⟨w.heap.size + 1, 1, none⟩ = some (.slice ga gn gc) := by simp [go_sem, r1]
      refine bodyPost_ret (v := .agg #[.int .i64 gk, .slice ga gn gc]) (by simp [results, Tryd.results84, go_sem, g0, g1]) rfl ?_
      have e : Ty.ground (.node 4 [t1, t2]) = .node 4 [.node 1 [], .node 1 []] := by simp [Ty.ground, HV.out]
      rw [e]
      exact ⟨_, fp, rfl, HG.out.kept (by simp) fun b hb => (by rw [heap_setCell_other _ _ _ _ (by have := (HF.out.2 b hb).1; simp; omega), heap_setCell_other _ _ _ _ (by have := (HF.out.2 b hb).1; simp; omega)]), HF.out.mono (by omega) (by simp), (B.out.setCell (by simp) _).setCell (by simp) _⟩
    · have as0 := as_pair_num (.int .i64 k1) s1 (.int .i64 k2) s2
      have as1 := as_pair_bool (.int .i64 k1) s1 (.int .i64 k2) s2
      have as2 := as_pair_arrow (.int .i64 k1) s1 (.int .i64 k2) s2
      have as3 := as_pair_pair (.int .i64 k1) s1 (.int .i64 k2) s2
      go_wp2_with fail
      clear r0 r1 q0 q1 hr
      refine (implUnknownType _).mono ?_
      rintro e w3 ⟨rfl, hb⟩
      have hz3 := hb.size
      replace B := Lib.hid (below_thru B.out (Nat.le_refl _) hb)
      replace XA := Lib.hid (XA.out.below hb)
      replace XR := Lib.hid (XR.out.below hb)
      replace XF := Lib.hid (XF.out.below hb)
      clear hb
      go_wp2_with fail
      refine (implUnknownType _).mono ?_
      rintro e w4 ⟨rfl, hb⟩
      have hz4 := hb.size
      replace B := Lib.hid (below_thru B.out (Nat.le_refl _) hb)
      replace XA := Lib.hid (XA.out.below hb)
      replace XR := Lib.hid (XR.out.below hb)
      replace XF := Lib.hid (XF.out.below hb)
      clear hb
      go_wp2_with fail
      refine (implPairType 1 _ _ (.node 1 []) (.node 1 []) _ (by decide) (by decide) (own_zero _ 0 1 (by omega) (by omega)).at_ (own_zero _ 0 1 (by omega) (by omega)).at_).mono ?_
      rintro e w5 ⟨v5, fp, rfl, ht, hf, hb⟩
      have hz5 := hb.size
      replace B := Lib.hid (below_thru B.out (Nat.le_refl _) hb)
      replace XA := Lib.hid (XA.out.below hb)
      replace XR := Lib.hid (XR.out.below hb)
      replace XF := Lib.hid (XF.out.below hb)
      clear hb
      obtain ⟨gk, ga, gn, gc, rfl, HG⟩ := ty_parts ht
      have HF := Lib.hid hf
      clear ht hf
      have r0 := XR.out.2 0
      have r1 := XR.out.2 1
      have q0 := XF.out.2 0
      have q1 := XF.out.2 1
      have hr := XR.out.1
      go_wp2_with fail
      have g0 : ((w5.setCell ⟨w.heap.size + 1, 0, none⟩ (.int .i64 gk)).setCell ⟨w.heap.size + 1, 1, none⟩ (.slice ga gn gc)).cell? ⟨w.heap.size + 1, 0, none⟩ = some (.int .i64 gk) := by simp [go_sem, r0]
      have g1 : ((w5.setCell ⟨w.heap.size + 1, 0, none⟩ (.int .i64 gk)).setCell ⟨w.heap.size + 1, 1, none⟩ (.slice ga gn gc)).cell? ⟨w.heap.size + 1, 1, none⟩ = some (.slice ga gn gc) := by simp [go_sem, r1]
      refine bodyPost_ret (v := .agg #[.int .i64 gk, .slice ga gn gc]) (by simp [results, Tryd.results84, go_sem, g0, g1]) rfl ?_
      have e : Ty.ground (.node 5 [t1, t2]) = .node 5 [.node 1 [], .node 1 []] := by simp [Ty.ground, HV.out]
      rw [e]
      exact ⟨_, fp, rfl, HG.out.kept (by simp) fun b hb => (by rw [heap_setCell_other _ _ _ _ (by have := (HF.out.2 b hb).1; simp; omega), heap_setCell_other _ _ _ _ (by have := (HF.out.2 b hb).1; simp; omega)]), HF.out.mono (by omega) (by simp), (B.out.setCell (by simp) _).setCell (by simp) _⟩
end Go.Proofs.YtnggkcgifjfnfaaDoor
/-
  Proved: impl.EqualType says whether two trees are equal, and leaves the memory that was there as it was.
-/
namespace Go.Proofs.YtnggkcgifjfnfaaDoor
open Go.RowKit

set_option maxRecDepth 100000 in
set_option maxHeartbeats 2000000 in
theorem implEqual : ∀ (d : Nat) (v1 v2 : Value) (t1 t2 : Ty) (w : World), TyAt w d v1 t1 → TyAt w d v2 t2 →
    Calls Tryd.prog 83 #[v1, v2] w fun e w' => e = .returned (.bool (t1.beq t2)) ∧ Below w.heap.size w w'
  | 0, _, _, _, _, _, h, _ => h.elim
  | d + 1, v1, v2, .node k1 cs, .node k2 bs, w, h1, h2 => by
    have IH : Hid (∀ (v1 v2 : Value) (t1 t2 : Ty) (w : World), TyAt w d v1 t1 → TyAt w d v2 t2 → Calls Tryd.prog 83 #[v1, v2] w fun e w' => e = .returned (.bool (t1.beq t2)) ∧ Below w.heap.size w w') := implEqual d
    obtain ⟨s1, rfl, hk0, hk1, a1, cap1, rfl, hcap1, hm1, hat1⟩ := h1
    obtain ⟨s2, rfl, hk2, hk3, a2, cap2, rfl, hcap2, hm2, hat2⟩ := h2
    have HA1 := Lib.hid hat1; clear hat1
    have HA2 := Lib.hid hat2; clear hat2
    by_cases q1 : k1 = k2
    · subst q1
      by_cases q2 : bs.length = cs.length
      · have HFIN : Hid ((Ty.node k1 cs).beq (Ty.node k1 bs) = Ty.beqs cs bs) := by show _ = _; simp [Ty.beq]
        rw [q2]
        go_enter Tryd.func83, Tryd.ntmps83
        go_wp2_with fail
        go_loopw [23] (fun i wr => ∃ k : Nat, k ≤ cs.length ∧ i = .int .i64 k ∧ Ty.beqs (cs.take k) (bs.take k) = true ∧ Below (w.heap.size + 2) ((w.alloc (.cells #[.int .i64 k1, .slice a1 cs.length cap1] 33)).alloc (.cells #[.int .i64 k1, .slice a2 cs.length cap2] 33)) wr) (fun i _ => cs.length - (intOf i).toNat)
        case atStart => exact ⟨0, by omega, rfl, by simp [Ty.beqs], Below.refl _ _⟩
        case round =>
          obtain ⟨k, hk, rfl, hf, hb⟩ := hrel
          have HF := Lib.hid hf; clear hf
          have y1 := two_first hb 1
          have y2 := two_next hb 1
          have HB := Lib.hid (two_below hb)
          have HBX := Lib.hid hb; clear hb
          by_cases hlt : k < cs.length
          · have hlt2 : k < bs.length := by omega
            obtain ⟨b1, off1, x0, x1, rfl, hbl1, hc10, hc11, ht1⟩ := HA1.out k hlt
            obtain ⟨b2, off2, z0, z1, rfl, hbl2, hc20, hc21, ht2⟩ := HA2.out k hlt2
            have c10 : wr.cell? ⟨b1, off1 + k * 2, none⟩ = some x0 := by rw [HB.out.cell (p := ⟨b1, off1 + k * 2, none⟩) hbl1]; exact hc10
            have c11 : wr.cell? ⟨b1, off1 + k * 2 + 1, none⟩ = some x1 := by rw [HB.out.cell (p := ⟨b1, off1 + k * 2 + 1, none⟩) hbl1]; exact hc11
            have c20 : wr.cell? ⟨b2, off2 + k * 2, none⟩ = some z0 := by rw [HB.out.cell (p := ⟨b2, off2 + k * 2, none⟩) hbl2]; exact hc20
            have c21 : wr.cell? ⟨b2, off2 + k * 2 + 1, none⟩ = some z1 := by rw [HB.out.cell (p := ⟨b2, off2 + k * 2 + 1, none⟩) hbl2]; exact hc21
            have HT1 := Lib.hid (ht1.below HB.out.drew)
            have HT2 := Lib.hid (ht2.below HB.out.drew)
            clear ht1 ht2 hc10 hc11 hc20 hc21
            go_wp2_with fail
            go_still_tail 10, (by kernel_rfl)
            change wpList _ _ _ _ _ wr.drew
            go_wp2_with fail
            refine (IH.out _ _ _ _ wr.drew HT1.out HT2.out).mono ?_
            rintro e w' ⟨rfl, hb1⟩
            have HN := Lib.hid (two_on HBX.out.drew hb1); clear hb1
            have HTK := Lib.hid (Ty.beqs_take cs bs k hlt hlt2)
            cases hfk : cs[k].beq bs[k] with
            | true =>
              have HFK := Lib.hid hfk; clear hfk
              go_wp2_with fail
              exact ⟨⟨k + 1, by omega, by go_num, by rw [HTK.out, HF.out, HFK.out]; rfl, HN.out⟩, by simp [intOf]; omega⟩
            | false =>
              have HFK := Lib.hid hfk; clear hfk
              go_wp2_with fail
              go_ret
              have e : Ty.beqs cs bs = false := Ty.beqs_false cs bs (k + 1) (by rw [HTK.out, HF.out, HFK.out]; rfl) q2.symm
              exact ⟨by rw [HFIN.out, e]; rfl, two_below HN.out⟩
          · obtain rfl : k = cs.length := by omega
            have e : Hid (Ty.beqs cs bs = true) := by
              have := HF.out
              rw [List.take_length, ← q2, List.take_length] at this; exact this
            go_wp2_with fail
            go_ret
            exact ⟨by rw [HFIN.out, e.out]; rfl, HB.out⟩
      · have HFIN : Hid ((Ty.node k1 cs).beq (Ty.node k1 bs) = false) := by show _ = _; simp [Ty.beq, Ty.beqs_len cs bs (fun e => q2 e.symm)]
        have q3 : ¬ ((cs.length : Int) = (bs.length : Int)) := by omega
        go_enter Tryd.func83, Tryd.ntmps83
        go_wp2_with fail
        go_ret
        exact ⟨by rw [HFIN.out]; rfl, ((Below.refl _ _).alloc (Nat.le_refl _) _).alloc (by simp) _⟩
    · have HFIN : Hid ((Ty.node k1 cs).beq (Ty.node k2 bs) = false) := by show _ = _; simp [Ty.beq, q1]
      go_enter Tryd.func83, Tryd.ntmps83
      go_wp2_with fail
      go_ret
      exact ⟨by rw [HFIN.out]; rfl, ((Below.refl _ _).alloc (Nat.le_refl _) _).alloc (by simp) _⟩
end Go.Proofs.YtnggkcgifjfnfaaDoor
/-
  Proved: impl.IsGround says whether a type's tree is a ground type; the memory that was there stays as it was.
-/
namespace Go.Proofs.YtnggkcgifjfnfaaDoor
open Go.RowKit


set_option maxRecDepth 100000 in
set_option maxHeartbeats 2000000 in
theorem implIsGround (d : Nat) (v : Value) (t : Ty) (w : World) (h : TyAt w d v t) (hsz : t.size ≤ 1048577) :
    Calls Tryd.prog 64 #[v] w fun e w' => e = .returned (.bool (t.valid && t.beq t.ground)) ∧ Below w.heap.size w w' := by
  have HT := Lib.hid h
  obtain ⟨yk, ya, yn, yc, rfl⟩ := agg_parts h
  clear h
  have B : Hid (Below w.heap.size w (w.alloc (.cells #[.int .i64 yk, .slice ya yn yc] 33))) := below_alloc _ _
  have HA := Lib.hid (HT.out.below B.out)
  have XA : Hid (BoxAt (w.alloc (.cells #[.int .i64 yk, .slice ya yn yc] 33)) w.heap.size #[.int .i64 yk, .slice ya yn yc]) := BoxAt.new _ _ _
  clear HT
  go_enter Tryd.func64, Tryd.ntmps64
  go_wp2_with fail
  have hb := below_drew (w.alloc (.cells #[.int .i64 yk, .slice ya yn yc] 33))
  replace B := Lib.hid (below_thru B.out (Nat.le_refl _) hb)
  replace HA := Lib.hid (HA.out.below hb)
  replace XA := Lib.hid (XA.out.below hb)
  clear hb
  cases hv : t.valid with
  | false =>
    have a0 := XA.out.2 0
    have a1 := XA.out.2 1
    go_region_with
      (first
       | (go_at_call 68
          refine (implValid d _ t _ HA.out hsz).mono ?_
          rintro e w1 ⟨he, hb⟩
          rw [hv] at he
          subst he
          replace B := Lib.hid (below_thru B.out (Nat.le_refl _) hb)
          replace HA := Lib.hid (HA.out.below hb)
          replace XA := Lib.hid (XA.out.below hb)
          clear hb))
    all_goals go_wp2_with fail
    all_goals go_ret
    all_goals exact ⟨by rw [hv]; rfl, B.out⟩
  | true =>
    go_region_held3 (fun w' => w'.cell? ⟨w.heap.size, 0, none⟩ = some (.int .i64 yk) ∧ w'.cell? ⟨w.heap.size, 1, none⟩ = some (.slice ya yn yc)) (exact ⟨XA.out.2 0, XA.out.2 1⟩)
      (first
       | (go_at_call 68
          refine (implValid d _ t _ HA.out hsz).mono ?_
          rintro e w1 ⟨he, hb⟩
          rw [hv] at he
          subst he
          replace B := Lib.hid (below_thru B.out (Nat.le_refl _) hb)
          replace HA := Lib.hid (HA.out.below hb)
          replace XA := Lib.hid (XA.out.below hb)
          clear hb)
       | (go_at_call 84
          refine (implGround d _ t _ HA.out hsz).mono ?_
          rintro e w2 ⟨g, fp, rfl, ht, hf, hb⟩
          replace B := Lib.hid (below_thru B.out (Nat.le_refl _) hb)
          replace HA := Lib.hid (HA.out.below hb)
          replace XA := Lib.hid (XA.out.below hb)
          have HG := Lib.hid ht.at_
          clear ht hf hb)
       | (go_at_call 83
          refine (implEqual (d + 2) _ g t t.ground _ (HA.out.mono (by omega)) (HG.out.mono (by omega))).mono ?_
          rintro e w3 ⟨rfl, hb⟩
          replace B := Lib.hid (below_thru B.out (Nat.le_refl _) hb)
          replace HA := Lib.hid (HA.out.below hb)
          replace XA := Lib.hid (XA.out.below hb)
          clear hb HG))
    go_wp2_with fail
    go_ret
    exact ⟨by rw [hv]; rfl, B.out⟩
end Go.Proofs.YtnggkcgifjfnfaaDoor
namespace Go.Proofs.YtnggkcgifjfnfaaDoor
open Go.RowKit

/-- An operation of a region whose guard says no is passed over. -/
theorem skipImpl {P : Program} {ops : Array Oper} {Q : Exit → Act → World → Prop} {md : Region.Mode} {S : World → Prop} {i : Nat} {oi : Oper} {fuel : Nat} {listed : Array Bool} {a : Act} {w : World} (hi : ops[i]? = some oi)
    (hs : Region.noSelect ops = true) (hf : Region.free md ops listed i = true) (hr : (Region.ready md ops listed).contains i = true)
    (hQ : ∀ c a w, Q (.panic c) (a.put oi.dst undef) w → Q (.panic c) a w) (hw : Region.wanted oi (yielded ops a.tmps) = false) (hS : S w) (hput : a.put oi.dst undef = a)
    (h : wpAnyH P md ops Q S fuel (listed.setIfInBounds i true) a w) : wpAnyH P md ops Q S (fuel + 1) listed a w :=
  wpAnyH_take hi hs hf hr hQ (Or.inr ⟨hw, rfl⟩) hS (by rw [hput]; exact h)
theorem drewImpl {B : Nat} {a w : World} (h : Below B a w) (n : Nat) : Below B a (w.drewN n) := ⟨h.os, h.tape, h.output, h.size, h.block⟩
set_option maxRecDepth 100000 in
set_option maxHeartbeats 8000000 in
theorem implBoxed (d : Nat) (v : Value) (t : Co) (w : World) (h : CoAt w d v t) (hsz : t.bulk ≤ 1048576) :
    Calls Tryd.prog 65 #[v] w fun e w' => e = .returned (.bool t.boxB) ∧ Below w.heap.size w w' := by
  cases d with
  | zero => exact h.elim
  | succ d =>
  cases t with
  | node kd nm0 n0 fr ty es ns vs =>
    have HV := co_parts h
    obtain ⟨c3, c4, c5, c6, sl, el, rfl, hk0, hk1, hn0, hn1, hnm, hfr, hty, ⟨a, cap, rfl, hcap, hcap2, hat⟩, hln, a2, cap2, rfl, hcpe, hcpe2, hae⟩ := h
    obtain ⟨k, nm, n, fk, fa, fn, fc, tk, ta, tn, tc, sa, sn, sc, ea, en, ec, hv⟩ := HV
    injection hv with hv
    injection hv with hv
    simp at hv
    obtain ⟨rfl, rfl, rfl, rfl, rfl, rfl, rfl, hvr⟩ := hv
    clear hvr hat hae
    have hbk : (Co.node kd nm0 n0 fr ty es ns vs).bulk = nm0.size + (fr.size - 1) + (ty.size - 1) + Co.bulks es + (txs ns + Co.bulks vs) := rfl
    have hsz1 : fr.size ≤ 1048577 := by omega
    have HBX : Hid ((Co.node kd nm0 n0 fr ty es ns vs).boxB = (decide (kd = 14) && ((fr.valid && fr.beq fr.ground) && (ty.beq (.node 1 []) && decide (es.length = 1))))) := rfl
    clear hsz hbk
    have B : Hid (Below w.heap.size w (w.alloc (.cells #[.int .i64 kd, .string nm0, .int .i64 n0, .int .i64 fk, .slice fa fn fc, .int .i64 tk, .slice ta tn tc, .slice a es.length cap, .slice a2 vs.length cap2] 37))) := below_alloc _ _
    have HF := Lib.hid (hfr.below B.out)
    have HY := Lib.hid (hty.below B.out)
    have XA : Hid (BoxAt (w.alloc (.cells #[.int .i64 kd, .string nm0, .int .i64 n0, .int .i64 fk, .slice fa fn fc, .int .i64 tk, .slice ta tn tc, .slice a es.length cap, .slice a2 vs.length cap2] 37)) w.heap.size #[.int .i64 kd, .string nm0, .int .i64 n0, .int .i64 fk, .slice fa fn fc, .int .i64 tk, .slice ta tn tc, .slice a es.length cap, .slice a2 vs.length cap2]) := BoxAt.new _ _ _
    clear hfr hty
    by_cases q : kd = 14
    case neg =>
      have qb : (kd == 14) = false := by simp [q]
      have HR : Hid ((Co.node kd nm0 n0 fr ty es ns vs).boxB = false) := by show _ = _; rw [HBX.out, decide_eq_false q]; rfl
      have x0 := XA.out.2 0
      go_enter Tryd.func65, Tryd.ntmps65
      go_wp2_with fail
      go_quiet (fail)
      go_wp2_with fail
      go_ret
      exact ⟨by rw [HR.out]; rfl, drewImpl B.out nq⟩
    subst q
    go_enter Tryd.func65, Tryd.ntmps65
    go_wp2_with fail
    have hb := below_drew (w.alloc (.cells #[.int .i64 14, .string nm0, .int .i64 n0, .int .i64 fk, .slice fa fn fc, .int .i64 tk, .slice ta tn tc, .slice a es.length cap, .slice a2 vs.length cap2] 37))
    replace B := Lib.hid (below_thru B.out (Nat.le_refl _) hb)
    replace HF := Lib.hid (HF.out.below hb)
    replace HY := Lib.hid (HY.out.below hb)
    replace XA := Lib.hid (XA.out.below hb)
    clear hb
    cases hg : (fr.valid && fr.beq fr.ground) with
    | false =>
      have HG := Lib.hid hg
      have HR : Hid ((Co.node 14 nm0 n0 fr ty es ns vs).boxB = false) := by show _ = _; rw [HBX.out, hg]; rfl
      clear hg
      refine wp_region_held_drew (S := (fun w' => w'.cell? ⟨w.heap.size, 0, none⟩ = some (.int .i64 14) ∧ w'.cell? ⟨w.heap.size, 3, none⟩ = some (.int .i64 fk) ∧ w'.cell? ⟨w.heap.size, 4, none⟩ = some (.slice fa fn fc) ∧ w'.cell? ⟨w.heap.size, 5, none⟩ = some (.int .i64 tk) ∧ w'.cell? ⟨w.heap.size, 6, none⟩ = some (.slice ta tn tc) ∧ w'.cell? ⟨w.heap.size, 7, none⟩ = some (.slice a es.length cap))) (by kernel_rfl) (by exact ⟨XA.out.2 0, XA.out.2 3, XA.out.2 4, XA.out.2 5, XA.out.2 6, XA.out.2 7⟩) (fun hHeld => ?_)
      refine wpAnyH_take (i := 0) (v := ?v45_0) rfl (by kernel_rfl) (by kernel_rfl) (by kernel_rfl) (fun _ _ _ h => h) (Or.inl ⟨by rfl, ?hy45_0⟩) hHeld ?rest45_0
      case hy45_0 =>
        intro w hSw
        (try dsimp only at hSw)
        go_simp
        all_goals (first | done | with_reducible rfl)
      try simp only [Act.put]
      try simp only [List.setIfInBounds_toArray]
      try simp only [List.set_cons_succ]
      try simp only [List.set_cons_zero]
      refine wpAnyH_take (i := 1) (v := ?v46_1) rfl (by kernel_rfl) (by kernel_rfl) (by kernel_rfl) (fun _ _ _ h => h) (Or.inl ⟨by rfl, ?hy46_1⟩) hHeld ?rest46_1
      case hy46_1 =>
        intro w hSw
        (try dsimp only at hSw)
        go_simp
        all_goals (first | done | with_reducible rfl)
      try simp only [Act.put]
      try simp only [List.setIfInBounds_toArray]
      try simp only [List.set_cons_succ]
      try simp only [List.set_cons_zero]
      refine wpAnyH_take (i := 2) (v := ?v47_2) rfl (by kernel_rfl) (by kernel_rfl) (by kernel_rfl) (fun _ _ _ h => h) (Or.inl ⟨by rfl, ?hy47_2⟩) hHeld ?rest47_2
      case hy47_2 =>
        intro w hSw
        (try dsimp only at hSw)
        go_simp
        all_goals (first | done | with_reducible rfl)
      try simp only [Act.put]
      try simp only [List.setIfInBounds_toArray]
      try simp only [List.set_cons_succ]
      try simp only [List.set_cons_zero]
      refine wpAnyH_take (i := 3) (v := ?v48_3) rfl (by kernel_rfl) (by kernel_rfl) (by kernel_rfl) (fun _ _ _ h => h) (Or.inl ⟨by rfl, ?hy48_3⟩) hHeld ?rest48_3
      case hy48_3 =>
        intro w hSw
        (try dsimp only at hSw)
        go_simp
        all_goals (first | done | with_reducible rfl)
      try simp only [Act.put]
      try simp only [List.setIfInBounds_toArray]
      try simp only [List.set_cons_succ]
      try simp only [List.set_cons_zero]
      refine wpAnyH_take (i := 4) (v := ?v49_4) rfl (by kernel_rfl) (by kernel_rfl) (by kernel_rfl) (fun _ _ _ h => h) (Or.inl ⟨by rfl, ?hy49_4⟩) hHeld ?rest49_4
      case hy49_4 =>
        intro w hSw
        (try dsimp only at hSw)
        go_simp
        all_goals (first | done | with_reducible rfl)
      try simp only [Act.put]
      try simp only [List.setIfInBounds_toArray]
      try simp only [List.set_cons_succ]
      try simp only [List.set_cons_zero]
      refine wpAnyH_take (i := 5) (v := ?v50_5) rfl (by kernel_rfl) (by kernel_rfl) (by kernel_rfl) (fun _ _ _ h => h) (Or.inl ⟨by rfl, ?hy50_5⟩) hHeld ?rest50_5
      case hy50_5 =>
        intro w hSw
        (try dsimp only at hSw)
        go_simp
        all_goals (first | done | with_reducible rfl)
      try simp only [Act.put]
      try simp only [List.setIfInBounds_toArray]
      try simp only [List.set_cons_succ]
      try simp only [List.set_cons_zero]
      refine wpAnyH_ready (rs := [6]) (by kernel_rfl) (by simp) ?_
      refine AllReadyH.cons rfl (fun K hK => ?_) AllReadyH.nil
      go_simp
      go_at_call 64
      refine (implIsGround d _ fr _ HF.out hsz1).mono ?_
      rintro e w1 ⟨he, hb⟩
      rw [HG.out] at he
      subst he
      replace B := Lib.hid (below_thru B.out (Nat.le_refl _) hb)
      replace HF := Lib.hid (HF.out.below hb)
      replace HY := Lib.hid (HY.out.below hb)
      replace XA := Lib.hid (XA.out.below hb)
      clear hb
      clear hHeld
      try go_wp2_with fail
      refine hK.out _ _ (by exact ⟨XA.out.2 0, XA.out.2 3, XA.out.2 4, XA.out.2 5, XA.out.2 6, XA.out.2 7⟩) (fun hHeld => ?_)
      clear hK K
      try simp only [Act.put]
      try simp only [List.setIfInBounds_toArray]
      try simp only [List.set_cons_succ]
      try simp only [List.set_cons_zero]
      refine wpAnyH_take (i := 7) (v := ?v51_7) rfl (by kernel_rfl) (by kernel_rfl) (by kernel_rfl) (fun _ _ _ h => h) (Or.inl ⟨by rfl, ?hy51_7⟩) hHeld ?rest51_7
      case hy51_7 =>
        intro w hSw
        (try dsimp only at hSw)
        go_simp
        all_goals (first | done | with_reducible rfl)
      try simp only [Act.put]
      try simp only [List.setIfInBounds_toArray]
      try simp only [List.set_cons_succ]
      try simp only [List.set_cons_zero]
      refine wpAnyH_take (i := 8) (v := ?v52_8) rfl (by kernel_rfl) (by kernel_rfl) (by kernel_rfl) (fun _ _ _ h => h) (Or.inl ⟨by rfl, ?hy52_8⟩) hHeld ?rest52_8
      case hy52_8 =>
        intro w hSw
        (try dsimp only at hSw)
        go_simp
        all_goals (first | done | with_reducible rfl)
      try simp only [Act.put]
      try simp only [List.setIfInBounds_toArray]
      try simp only [List.set_cons_succ]
      try simp only [List.set_cons_zero]
      refine skipImpl (i := 9) rfl (by kernel_rfl) (by kernel_rfl) (by kernel_rfl) (fun _ _ _ h => h) (by kernel_rfl) hHeld (by kernel_rfl) ?_
      refine skipImpl (i := 10) rfl (by kernel_rfl) (by kernel_rfl) (by kernel_rfl) (fun _ _ _ h => h) (by kernel_rfl) hHeld (by kernel_rfl) ?_
      refine skipImpl (i := 11) rfl (by kernel_rfl) (by kernel_rfl) (by kernel_rfl) (fun _ _ _ h => h) (by kernel_rfl) hHeld (by kernel_rfl) ?_
      refine skipImpl (i := 12) rfl (by kernel_rfl) (by kernel_rfl) (by kernel_rfl) (fun _ _ _ h => h) (by kernel_rfl) hHeld (by kernel_rfl) ?_
      refine wpAnyH_take (i := 13) (v := ?v53_13) rfl (by kernel_rfl) (by kernel_rfl) (by kernel_rfl) (fun _ _ _ h => h) (Or.inl ⟨by rfl, ?hy53_13⟩) hHeld ?rest53_13
      case hy53_13 =>
        intro w hSw
        (try dsimp only at hSw)
        go_simp
        all_goals (first | done | with_reducible rfl)
      try simp only [Act.put]
      try simp only [List.setIfInBounds_toArray]
      try simp only [List.set_cons_succ]
      try simp only [List.set_cons_zero]
      refine wpAnyH_take (i := 14) (v := ?v54_14) rfl (by kernel_rfl) (by kernel_rfl) (by kernel_rfl) (fun _ _ _ h => h) (Or.inl ⟨by rfl, ?hy54_14⟩) hHeld ?rest54_14
      case hy54_14 =>
        intro w hSw
        (try dsimp only at hSw)
        go_simp
        all_goals (first | done | with_reducible rfl)
      try simp only [Act.put]
      try simp only [List.setIfInBounds_toArray]
      try simp only [List.set_cons_succ]
      try simp only [List.set_cons_zero]
      refine skipImpl (i := 15) rfl (by kernel_rfl) (by kernel_rfl) (by kernel_rfl) (fun _ _ _ h => h) (by kernel_rfl) hHeld (by kernel_rfl) ?_
      refine skipImpl (i := 16) rfl (by kernel_rfl) (by kernel_rfl) (by kernel_rfl) (fun _ _ _ h => h) (by kernel_rfl) hHeld (by kernel_rfl) ?_
      refine skipImpl (i := 17) rfl (by kernel_rfl) (by kernel_rfl) (by kernel_rfl) (fun _ _ _ h => h) (by kernel_rfl) hHeld (by kernel_rfl) ?_
      refine skipImpl (i := 18) rfl (by kernel_rfl) (by kernel_rfl) (by kernel_rfl) (fun _ _ _ h => h) (by kernel_rfl) hHeld (by kernel_rfl) ?_
      refine wpAnyH_take (i := 19) (v := ?v55_19) rfl (by kernel_rfl) (by kernel_rfl) (by kernel_rfl) (fun _ _ _ h => h) (Or.inl ⟨by rfl, ?hy55_19⟩) hHeld ?rest55_19
      case hy55_19 =>
        intro w hSw
        (try dsimp only at hSw)
        go_simp
        all_goals (first | done | with_reducible rfl)
      try simp only [Act.put]
      try simp only [List.setIfInBounds_toArray]
      try simp only [List.set_cons_succ]
      try simp only [List.set_cons_zero]
      refine wpAnyH_take (i := 20) (v := ?v56_20) rfl (by kernel_rfl) (by kernel_rfl) (by kernel_rfl) (fun _ _ _ h => h) (Or.inl ⟨by rfl, ?hy56_20⟩) hHeld ?rest56_20
      case hy56_20 =>
        intro w hSw
        (try dsimp only at hSw)
        go_simp
        all_goals (first | done | with_reducible rfl)
      try simp only [Act.put]
      try simp only [List.setIfInBounds_toArray]
      try simp only [List.set_cons_succ]
      try simp only [List.set_cons_zero]
      refine wpAnyH_done (by kernel_rfl) ?_ _
      try simp only [List.getElem_toArray]
      try simp only [List.getElem_cons_succ]
      try simp only [List.getElem_cons_zero]
      try simp only [Act.put]
      try simp only [List.setIfInBounds_toArray]
      try simp only [List.set_cons_succ]
      try simp only [List.set_cons_zero]
      go_wp2_with fail
      go_ret
      exact ⟨by rw [HR.out]; rfl, B.out⟩
    | true =>
    have HG := Lib.hid hg
    cases hq : ty.beq (.node 1 []) with
    | false =>
      have HQ := Lib.hid hq
      have HR : Hid ((Co.node 14 nm0 n0 fr ty es ns vs).boxB = false) := by show _ = _; rw [HBX.out, hg, hq]; rfl
      clear hg hq
      refine wp_region_held_drew (S := (fun w' => w'.cell? ⟨w.heap.size, 0, none⟩ = some (.int .i64 14) ∧ w'.cell? ⟨w.heap.size, 3, none⟩ = some (.int .i64 fk) ∧ w'.cell? ⟨w.heap.size, 4, none⟩ = some (.slice fa fn fc) ∧ w'.cell? ⟨w.heap.size, 5, none⟩ = some (.int .i64 tk) ∧ w'.cell? ⟨w.heap.size, 6, none⟩ = some (.slice ta tn tc) ∧ w'.cell? ⟨w.heap.size, 7, none⟩ = some (.slice a es.length cap))) (by kernel_rfl) (by exact ⟨XA.out.2 0, XA.out.2 3, XA.out.2 4, XA.out.2 5, XA.out.2 6, XA.out.2 7⟩) (fun hHeld => ?_)
      refine wpAnyH_take (i := 0) (v := ?v57_0) rfl (by kernel_rfl) (by kernel_rfl) (by kernel_rfl) (fun _ _ _ h => h) (Or.inl ⟨by rfl, ?hy57_0⟩) hHeld ?rest57_0
      case hy57_0 =>
        intro w hSw
        (try dsimp only at hSw)
        go_simp
        all_goals (first | done | with_reducible rfl)
      try simp only [Act.put]
      try simp only [List.setIfInBounds_toArray]
      try simp only [List.set_cons_succ]
      try simp only [List.set_cons_zero]
      refine wpAnyH_take (i := 1) (v := ?v58_1) rfl (by kernel_rfl) (by kernel_rfl) (by kernel_rfl) (fun _ _ _ h => h) (Or.inl ⟨by rfl, ?hy58_1⟩) hHeld ?rest58_1
      case hy58_1 =>
        intro w hSw
        (try dsimp only at hSw)
        go_simp
        all_goals (first | done | with_reducible rfl)
      try simp only [Act.put]
      try simp only [List.setIfInBounds_toArray]
      try simp only [List.set_cons_succ]
      try simp only [List.set_cons_zero]
      refine wpAnyH_take (i := 2) (v := ?v59_2) rfl (by kernel_rfl) (by kernel_rfl) (by kernel_rfl) (fun _ _ _ h => h) (Or.inl ⟨by rfl, ?hy59_2⟩) hHeld ?rest59_2
      case hy59_2 =>
        intro w hSw
        (try dsimp only at hSw)
        go_simp
        all_goals (first | done | with_reducible rfl)
      try simp only [Act.put]
      try simp only [List.setIfInBounds_toArray]
      try simp only [List.set_cons_succ]
      try simp only [List.set_cons_zero]
      refine wpAnyH_take (i := 3) (v := ?v60_3) rfl (by kernel_rfl) (by kernel_rfl) (by kernel_rfl) (fun _ _ _ h => h) (Or.inl ⟨by rfl, ?hy60_3⟩) hHeld ?rest60_3
      case hy60_3 =>
        intro w hSw
        (try dsimp only at hSw)
        go_simp
        all_goals (first | done | with_reducible rfl)
      try simp only [Act.put]
      try simp only [List.setIfInBounds_toArray]
      try simp only [List.set_cons_succ]
      try simp only [List.set_cons_zero]
      refine wpAnyH_take (i := 4) (v := ?v61_4) rfl (by kernel_rfl) (by kernel_rfl) (by kernel_rfl) (fun _ _ _ h => h) (Or.inl ⟨by rfl, ?hy61_4⟩) hHeld ?rest61_4
      case hy61_4 =>
        intro w hSw
        (try dsimp only at hSw)
        go_simp
        all_goals (first | done | with_reducible rfl)
      try simp only [Act.put]
      try simp only [List.setIfInBounds_toArray]
      try simp only [List.set_cons_succ]
      try simp only [List.set_cons_zero]
      refine wpAnyH_take (i := 5) (v := ?v62_5) rfl (by kernel_rfl) (by kernel_rfl) (by kernel_rfl) (fun _ _ _ h => h) (Or.inl ⟨by rfl, ?hy62_5⟩) hHeld ?rest62_5
      case hy62_5 =>
        intro w hSw
        (try dsimp only at hSw)
        go_simp
        all_goals (first | done | with_reducible rfl)
      try simp only [Act.put]
      try simp only [List.setIfInBounds_toArray]
      try simp only [List.set_cons_succ]
      try simp only [List.set_cons_zero]
      refine wpAnyH_ready (rs := [6]) (by kernel_rfl) (by simp) ?_
      refine AllReadyH.cons rfl (fun K hK => ?_) AllReadyH.nil
      go_simp
      go_at_call 64
      refine (implIsGround d _ fr _ HF.out hsz1).mono ?_
      rintro e w1 ⟨he, hb⟩
      rw [HG.out] at he
      subst he
      replace B := Lib.hid (below_thru B.out (Nat.le_refl _) hb)
      replace HF := Lib.hid (HF.out.below hb)
      replace HY := Lib.hid (HY.out.below hb)
      replace XA := Lib.hid (XA.out.below hb)
      clear hb
      clear hHeld
      try go_wp2_with fail
      refine hK.out _ _ (by exact ⟨XA.out.2 0, XA.out.2 3, XA.out.2 4, XA.out.2 5, XA.out.2 6, XA.out.2 7⟩) (fun hHeld => ?_)
      clear hK K
      try simp only [Act.put]
      try simp only [List.setIfInBounds_toArray]
      try simp only [List.set_cons_succ]
      try simp only [List.set_cons_zero]
      refine wpAnyH_take (i := 7) (v := ?v63_7) rfl (by kernel_rfl) (by kernel_rfl) (by kernel_rfl) (fun _ _ _ h => h) (Or.inl ⟨by rfl, ?hy63_7⟩) hHeld ?rest63_7
      case hy63_7 =>
        intro w hSw
        (try dsimp only at hSw)
        go_simp
        all_goals (first | done | with_reducible rfl)
      try simp only [Act.put]
      try simp only [List.setIfInBounds_toArray]
      try simp only [List.set_cons_succ]
      try simp only [List.set_cons_zero]
      refine wpAnyH_take (i := 8) (v := ?v64_8) rfl (by kernel_rfl) (by kernel_rfl) (by kernel_rfl) (fun _ _ _ h => h) (Or.inl ⟨by rfl, ?hy64_8⟩) hHeld ?rest64_8
      case hy64_8 =>
        intro w hSw
        (try dsimp only at hSw)
        go_simp
        all_goals (first | done | with_reducible rfl)
      try simp only [Act.put]
      try simp only [List.setIfInBounds_toArray]
      try simp only [List.set_cons_succ]
      try simp only [List.set_cons_zero]
      refine wpAnyH_take (i := 9) (v := ?v65_9) rfl (by kernel_rfl) (by kernel_rfl) (by kernel_rfl) (fun _ _ _ h => h) (Or.inl ⟨by rfl, ?hy65_9⟩) hHeld ?rest65_9
      case hy65_9 =>
        intro w hSw
        (try dsimp only at hSw)
        go_simp
        all_goals (first | done | with_reducible rfl)
      try simp only [Act.put]
      try simp only [List.setIfInBounds_toArray]
      try simp only [List.set_cons_succ]
      try simp only [List.set_cons_zero]
      refine wpAnyH_take (i := 10) (v := ?v66_10) rfl (by kernel_rfl) (by kernel_rfl) (by kernel_rfl) (fun _ _ _ h => h) (Or.inl ⟨by rfl, ?hy66_10⟩) hHeld ?rest66_10
      case hy66_10 =>
        intro w hSw
        (try dsimp only at hSw)
        go_simp
        all_goals (first | done | with_reducible rfl)
      try simp only [Act.put]
      try simp only [List.setIfInBounds_toArray]
      try simp only [List.set_cons_succ]
      try simp only [List.set_cons_zero]
      refine wpAnyH_ready (rs := [11]) (by kernel_rfl) (by simp) ?_
      refine AllReadyH.cons rfl (fun K hK => ?_) AllReadyH.nil
      go_simp
      go_at_call 85
      refine (implUnknownType _).mono ?_
      rintro e w2 ⟨rfl, hb⟩
      replace B := Lib.hid (below_thru B.out (Nat.le_refl _) hb)
      replace HF := Lib.hid (HF.out.below hb)
      replace HY := Lib.hid (HY.out.below hb)
      replace XA := Lib.hid (XA.out.below hb)
      clear hb
      clear hHeld
      try go_wp2_with fail
      refine hK.out _ _ (by exact ⟨XA.out.2 0, XA.out.2 3, XA.out.2 4, XA.out.2 5, XA.out.2 6, XA.out.2 7⟩) (fun hHeld => ?_)
      clear hK K
      try simp only [Act.put]
      try simp only [List.setIfInBounds_toArray]
      try simp only [List.set_cons_succ]
      try simp only [List.set_cons_zero]
      refine wpAnyH_ready (rs := [12]) (by kernel_rfl) (by simp) ?_
      refine AllReadyH.cons rfl (fun K hK => ?_) AllReadyH.nil
      go_simp
      go_at_call 83
      refine (implEqual (d + 1) _ _ ty (.node 1 []) _ HY.out.succ (own_zero _ d 1 (by omega) (by omega)).at_).mono ?_
      rintro e w3 ⟨he, hb⟩
      rw [HQ.out] at he
      subst he
      replace B := Lib.hid (below_thru B.out (Nat.le_refl _) hb)
      replace HF := Lib.hid (HF.out.below hb)
      replace HY := Lib.hid (HY.out.below hb)
      replace XA := Lib.hid (XA.out.below hb)
      clear hb
      clear hHeld
      try go_wp2_with fail
      refine hK.out _ _ (by exact ⟨XA.out.2 0, XA.out.2 3, XA.out.2 4, XA.out.2 5, XA.out.2 6, XA.out.2 7⟩) (fun hHeld => ?_)
      clear hK K
      try simp only [Act.put]
      try simp only [List.setIfInBounds_toArray]
      try simp only [List.set_cons_succ]
      try simp only [List.set_cons_zero]
      refine wpAnyH_take (i := 13) (v := ?v67_13) rfl (by kernel_rfl) (by kernel_rfl) (by kernel_rfl) (fun _ _ _ h => h) (Or.inl ⟨by rfl, ?hy67_13⟩) hHeld ?rest67_13
      case hy67_13 =>
        intro w hSw
        (try dsimp only at hSw)
        go_simp
        all_goals (first | done | with_reducible rfl)
      try simp only [Act.put]
      try simp only [List.setIfInBounds_toArray]
      try simp only [List.set_cons_succ]
      try simp only [List.set_cons_zero]
      refine wpAnyH_take (i := 14) (v := ?v68_14) rfl (by kernel_rfl) (by kernel_rfl) (by kernel_rfl) (fun _ _ _ h => h) (Or.inl ⟨by rfl, ?hy68_14⟩) hHeld ?rest68_14
      case hy68_14 =>
        intro w hSw
        (try dsimp only at hSw)
        go_simp
        all_goals (first | done | with_reducible rfl)
      try simp only [Act.put]
      try simp only [List.setIfInBounds_toArray]
      try simp only [List.set_cons_succ]
      try simp only [List.set_cons_zero]
      refine skipImpl (i := 15) rfl (by kernel_rfl) (by kernel_rfl) (by kernel_rfl) (fun _ _ _ h => h) (by kernel_rfl) hHeld (by kernel_rfl) ?_
      refine skipImpl (i := 16) rfl (by kernel_rfl) (by kernel_rfl) (by kernel_rfl) (fun _ _ _ h => h) (by kernel_rfl) hHeld (by kernel_rfl) ?_
      refine skipImpl (i := 17) rfl (by kernel_rfl) (by kernel_rfl) (by kernel_rfl) (fun _ _ _ h => h) (by kernel_rfl) hHeld (by kernel_rfl) ?_
      refine skipImpl (i := 18) rfl (by kernel_rfl) (by kernel_rfl) (by kernel_rfl) (fun _ _ _ h => h) (by kernel_rfl) hHeld (by kernel_rfl) ?_
      refine wpAnyH_take (i := 19) (v := ?v69_19) rfl (by kernel_rfl) (by kernel_rfl) (by kernel_rfl) (fun _ _ _ h => h) (Or.inl ⟨by rfl, ?hy69_19⟩) hHeld ?rest69_19
      case hy69_19 =>
        intro w hSw
        (try dsimp only at hSw)
        go_simp
        all_goals (first | done | with_reducible rfl)
      try simp only [Act.put]
      try simp only [List.setIfInBounds_toArray]
      try simp only [List.set_cons_succ]
      try simp only [List.set_cons_zero]
      refine wpAnyH_take (i := 20) (v := ?v70_20) rfl (by kernel_rfl) (by kernel_rfl) (by kernel_rfl) (fun _ _ _ h => h) (Or.inl ⟨by rfl, ?hy70_20⟩) hHeld ?rest70_20
      case hy70_20 =>
        intro w hSw
        (try dsimp only at hSw)
        go_simp
        all_goals (first | done | with_reducible rfl)
      try simp only [Act.put]
      try simp only [List.setIfInBounds_toArray]
      try simp only [List.set_cons_succ]
      try simp only [List.set_cons_zero]
      refine wpAnyH_done (by kernel_rfl) ?_ _
      try simp only [List.getElem_toArray]
      try simp only [List.getElem_cons_succ]
      try simp only [List.getElem_cons_zero]
      try simp only [Act.put]
      try simp only [List.setIfInBounds_toArray]
      try simp only [List.set_cons_succ]
      try simp only [List.set_cons_zero]
      go_wp2_with fail
      go_ret
      exact ⟨by rw [HR.out]; rfl, B.out⟩
    | true =>
    have HQ := Lib.hid hq
    have HR : Hid ((Co.node 14 nm0 n0 fr ty es ns vs).boxB = decide (es.length = 1)) := by show _ = _; rw [HBX.out, hg, hq]; simp
    clear hg hq
    by_cases ql : es.length = 1
    · have lb : ((es.length : Int) == 1) = true := by simp; omega
      have HL : Hid (decide (es.length = 1) = true) := by show _ = _; simp [ql]
      clear ql
      refine wp_region_held_drew (S := (fun w' => w'.cell? ⟨w.heap.size, 0, none⟩ = some (.int .i64 14) ∧ w'.cell? ⟨w.heap.size, 3, none⟩ = some (.int .i64 fk) ∧ w'.cell? ⟨w.heap.size, 4, none⟩ = some (.slice fa fn fc) ∧ w'.cell? ⟨w.heap.size, 5, none⟩ = some (.int .i64 tk) ∧ w'.cell? ⟨w.heap.size, 6, none⟩ = some (.slice ta tn tc) ∧ w'.cell? ⟨w.heap.size, 7, none⟩ = some (.slice a es.length cap))) (by kernel_rfl) (by exact ⟨XA.out.2 0, XA.out.2 3, XA.out.2 4, XA.out.2 5, XA.out.2 6, XA.out.2 7⟩) (fun hHeld => ?_)
      refine wpAnyH_take (i := 0) (v := ?v71_0) rfl (by kernel_rfl) (by kernel_rfl) (by kernel_rfl) (fun _ _ _ h => h) (Or.inl ⟨by rfl, ?hy71_0⟩) hHeld ?rest71_0
      case hy71_0 =>
        intro w hSw
        (try dsimp only at hSw)
        go_simp
        all_goals (first | done | with_reducible rfl)
      try simp only [Act.put]
      try simp only [List.setIfInBounds_toArray]
      try simp only [List.set_cons_succ]
      try simp only [List.set_cons_zero]
      refine wpAnyH_take (i := 1) (v := ?v72_1) rfl (by kernel_rfl) (by kernel_rfl) (by kernel_rfl) (fun _ _ _ h => h) (Or.inl ⟨by rfl, ?hy72_1⟩) hHeld ?rest72_1
      case hy72_1 =>
        intro w hSw
        (try dsimp only at hSw)
        go_simp
        all_goals (first | done | with_reducible rfl)
      try simp only [Act.put]
      try simp only [List.setIfInBounds_toArray]
      try simp only [List.set_cons_succ]
      try simp only [List.set_cons_zero]
      refine wpAnyH_take (i := 2) (v := ?v73_2) rfl (by kernel_rfl) (by kernel_rfl) (by kernel_rfl) (fun _ _ _ h => h) (Or.inl ⟨by rfl, ?hy73_2⟩) hHeld ?rest73_2
      case hy73_2 =>
        intro w hSw
        (try dsimp only at hSw)
        go_simp
        all_goals (first | done | with_reducible rfl)
      try simp only [Act.put]
      try simp only [List.setIfInBounds_toArray]
      try simp only [List.set_cons_succ]
      try simp only [List.set_cons_zero]
      refine wpAnyH_take (i := 3) (v := ?v74_3) rfl (by kernel_rfl) (by kernel_rfl) (by kernel_rfl) (fun _ _ _ h => h) (Or.inl ⟨by rfl, ?hy74_3⟩) hHeld ?rest74_3
      case hy74_3 =>
        intro w hSw
        (try dsimp only at hSw)
        go_simp
        all_goals (first | done | with_reducible rfl)
      try simp only [Act.put]
      try simp only [List.setIfInBounds_toArray]
      try simp only [List.set_cons_succ]
      try simp only [List.set_cons_zero]
      refine wpAnyH_take (i := 4) (v := ?v75_4) rfl (by kernel_rfl) (by kernel_rfl) (by kernel_rfl) (fun _ _ _ h => h) (Or.inl ⟨by rfl, ?hy75_4⟩) hHeld ?rest75_4
      case hy75_4 =>
        intro w hSw
        (try dsimp only at hSw)
        go_simp
        all_goals (first | done | with_reducible rfl)
      try simp only [Act.put]
      try simp only [List.setIfInBounds_toArray]
      try simp only [List.set_cons_succ]
      try simp only [List.set_cons_zero]
      refine wpAnyH_take (i := 5) (v := ?v76_5) rfl (by kernel_rfl) (by kernel_rfl) (by kernel_rfl) (fun _ _ _ h => h) (Or.inl ⟨by rfl, ?hy76_5⟩) hHeld ?rest76_5
      case hy76_5 =>
        intro w hSw
        (try dsimp only at hSw)
        go_simp
        all_goals (first | done | with_reducible rfl)
      try simp only [Act.put]
      try simp only [List.setIfInBounds_toArray]
      try simp only [List.set_cons_succ]
      try simp only [List.set_cons_zero]
      refine wpAnyH_ready (rs := [6]) (by kernel_rfl) (by simp) ?_
      refine AllReadyH.cons rfl (fun K hK => ?_) AllReadyH.nil
      go_simp
      go_at_call 64
      refine (implIsGround d _ fr _ HF.out hsz1).mono ?_
      rintro e w1 ⟨he, hb⟩
      rw [HG.out] at he
      subst he
      replace B := Lib.hid (below_thru B.out (Nat.le_refl _) hb)
      replace HF := Lib.hid (HF.out.below hb)
      replace HY := Lib.hid (HY.out.below hb)
      replace XA := Lib.hid (XA.out.below hb)
      clear hb
      clear hHeld
      try go_wp2_with fail
      refine hK.out _ _ (by exact ⟨XA.out.2 0, XA.out.2 3, XA.out.2 4, XA.out.2 5, XA.out.2 6, XA.out.2 7⟩) (fun hHeld => ?_)
      clear hK K
      try simp only [Act.put]
      try simp only [List.setIfInBounds_toArray]
      try simp only [List.set_cons_succ]
      try simp only [List.set_cons_zero]
      refine wpAnyH_take (i := 7) (v := ?v77_7) rfl (by kernel_rfl) (by kernel_rfl) (by kernel_rfl) (fun _ _ _ h => h) (Or.inl ⟨by rfl, ?hy77_7⟩) hHeld ?rest77_7
      case hy77_7 =>
        intro w hSw
        (try dsimp only at hSw)
        go_simp
        all_goals (first | done | with_reducible rfl)
      try simp only [Act.put]
      try simp only [List.setIfInBounds_toArray]
      try simp only [List.set_cons_succ]
      try simp only [List.set_cons_zero]
      refine wpAnyH_take (i := 8) (v := ?v78_8) rfl (by kernel_rfl) (by kernel_rfl) (by kernel_rfl) (fun _ _ _ h => h) (Or.inl ⟨by rfl, ?hy78_8⟩) hHeld ?rest78_8
      case hy78_8 =>
        intro w hSw
        (try dsimp only at hSw)
        go_simp
        all_goals (first | done | with_reducible rfl)
      try simp only [Act.put]
      try simp only [List.setIfInBounds_toArray]
      try simp only [List.set_cons_succ]
      try simp only [List.set_cons_zero]
      refine wpAnyH_take (i := 9) (v := ?v79_9) rfl (by kernel_rfl) (by kernel_rfl) (by kernel_rfl) (fun _ _ _ h => h) (Or.inl ⟨by rfl, ?hy79_9⟩) hHeld ?rest79_9
      case hy79_9 =>
        intro w hSw
        (try dsimp only at hSw)
        go_simp
        all_goals (first | done | with_reducible rfl)
      try simp only [Act.put]
      try simp only [List.setIfInBounds_toArray]
      try simp only [List.set_cons_succ]
      try simp only [List.set_cons_zero]
      refine wpAnyH_take (i := 10) (v := ?v80_10) rfl (by kernel_rfl) (by kernel_rfl) (by kernel_rfl) (fun _ _ _ h => h) (Or.inl ⟨by rfl, ?hy80_10⟩) hHeld ?rest80_10
      case hy80_10 =>
        intro w hSw
        (try dsimp only at hSw)
        go_simp
        all_goals (first | done | with_reducible rfl)
      try simp only [Act.put]
      try simp only [List.setIfInBounds_toArray]
      try simp only [List.set_cons_succ]
      try simp only [List.set_cons_zero]
      refine wpAnyH_ready (rs := [11]) (by kernel_rfl) (by simp) ?_
      refine AllReadyH.cons rfl (fun K hK => ?_) AllReadyH.nil
      go_simp
      go_at_call 85
      refine (implUnknownType _).mono ?_
      rintro e w2 ⟨rfl, hb⟩
      replace B := Lib.hid (below_thru B.out (Nat.le_refl _) hb)
      replace HF := Lib.hid (HF.out.below hb)
      replace HY := Lib.hid (HY.out.below hb)
      replace XA := Lib.hid (XA.out.below hb)
      clear hb
      clear hHeld
      try go_wp2_with fail
      refine hK.out _ _ (by exact ⟨XA.out.2 0, XA.out.2 3, XA.out.2 4, XA.out.2 5, XA.out.2 6, XA.out.2 7⟩) (fun hHeld => ?_)
      clear hK K
      try simp only [Act.put]
      try simp only [List.setIfInBounds_toArray]
      try simp only [List.set_cons_succ]
      try simp only [List.set_cons_zero]
      refine wpAnyH_ready (rs := [12]) (by kernel_rfl) (by simp) ?_
      refine AllReadyH.cons rfl (fun K hK => ?_) AllReadyH.nil
      go_simp
      go_at_call 83
      refine (implEqual (d + 1) _ _ ty (.node 1 []) _ HY.out.succ (own_zero _ d 1 (by omega) (by omega)).at_).mono ?_
      rintro e w3 ⟨he, hb⟩
      rw [HQ.out] at he
      subst he
      replace B := Lib.hid (below_thru B.out (Nat.le_refl _) hb)
      replace HF := Lib.hid (HF.out.below hb)
      replace HY := Lib.hid (HY.out.below hb)
      replace XA := Lib.hid (XA.out.below hb)
      clear hb
      clear hHeld
      try go_wp2_with fail
      refine hK.out _ _ (by exact ⟨XA.out.2 0, XA.out.2 3, XA.out.2 4, XA.out.2 5, XA.out.2 6, XA.out.2 7⟩) (fun hHeld => ?_)
      clear hK K
      try simp only [Act.put]
      try simp only [List.setIfInBounds_toArray]
      try simp only [List.set_cons_succ]
      try simp only [List.set_cons_zero]
      refine wpAnyH_take (i := 13) (v := ?v81_13) rfl (by kernel_rfl) (by kernel_rfl) (by kernel_rfl) (fun _ _ _ h => h) (Or.inl ⟨by rfl, ?hy81_13⟩) hHeld ?rest81_13
      case hy81_13 =>
        intro w hSw
        (try dsimp only at hSw)
        go_simp
        all_goals (first | done | with_reducible rfl)
      try simp only [Act.put]
      try simp only [List.setIfInBounds_toArray]
      try simp only [List.set_cons_succ]
      try simp only [List.set_cons_zero]
      refine wpAnyH_take (i := 14) (v := ?v82_14) rfl (by kernel_rfl) (by kernel_rfl) (by kernel_rfl) (fun _ _ _ h => h) (Or.inl ⟨by rfl, ?hy82_14⟩) hHeld ?rest82_14
      case hy82_14 =>
        intro w hSw
        (try dsimp only at hSw)
        go_simp
        all_goals (first | done | with_reducible rfl)
      try simp only [Act.put]
      try simp only [List.setIfInBounds_toArray]
      try simp only [List.set_cons_succ]
      try simp only [List.set_cons_zero]
      refine wpAnyH_take (i := 15) (v := ?v83_15) rfl (by kernel_rfl) (by kernel_rfl) (by kernel_rfl) (fun _ _ _ h => h) (Or.inl ⟨by rfl, ?hy83_15⟩) hHeld ?rest83_15
      case hy83_15 =>
        intro w hSw
        (try dsimp only at hSw)
        go_simp
        all_goals (first | done | with_reducible rfl)
      try simp only [Act.put]
      try simp only [List.setIfInBounds_toArray]
      try simp only [List.set_cons_succ]
      try simp only [List.set_cons_zero]
      refine wpAnyH_take (i := 16) (v := ?v84_16) rfl (by kernel_rfl) (by kernel_rfl) (by kernel_rfl) (fun _ _ _ h => h) (Or.inl ⟨by rfl, ?hy84_16⟩) hHeld ?rest84_16
      case hy84_16 =>
        intro w hSw
        (try dsimp only at hSw)
        go_simp
        all_goals (first | done | with_reducible rfl)
      try simp only [Act.put]
      try simp only [List.setIfInBounds_toArray]
      try simp only [List.set_cons_succ]
      try simp only [List.set_cons_zero]
      refine wpAnyH_take (i := 17) (v := ?v85_17) rfl (by kernel_rfl) (by kernel_rfl) (by kernel_rfl) (fun _ _ _ h => h) (Or.inl ⟨by rfl, ?hy85_17⟩) hHeld ?rest85_17
      case hy85_17 =>
        intro w hSw
        (try dsimp only at hSw)
        go_simp
        all_goals (first | done | with_reducible rfl)
      try simp only [Act.put]
      try simp only [List.setIfInBounds_toArray]
      try simp only [List.set_cons_succ]
      try simp only [List.set_cons_zero]
      refine wpAnyH_take (i := 18) (v := ?v86_18) rfl (by kernel_rfl) (by kernel_rfl) (by kernel_rfl) (fun _ _ _ h => h) (Or.inl ⟨by rfl, ?hy86_18⟩) hHeld ?rest86_18
      case hy86_18 =>
        intro w hSw
        (try dsimp only at hSw)
        go_simp
        all_goals (first | done | with_reducible rfl)
      try simp only [Act.put]
      try simp only [List.setIfInBounds_toArray]
      try simp only [List.set_cons_succ]
      try simp only [List.set_cons_zero]
      refine wpAnyH_take (i := 19) (v := ?v87_19) rfl (by kernel_rfl) (by kernel_rfl) (by kernel_rfl) (fun _ _ _ h => h) (Or.inl ⟨by rfl, ?hy87_19⟩) hHeld ?rest87_19
      case hy87_19 =>
        intro w hSw
        (try dsimp only at hSw)
        go_simp
        all_goals (first | done | with_reducible rfl)
      try simp only [Act.put]
      try simp only [List.setIfInBounds_toArray]
      try simp only [List.set_cons_succ]
      try simp only [List.set_cons_zero]
      refine wpAnyH_take (i := 20) (v := ?v88_20) rfl (by kernel_rfl) (by kernel_rfl) (by kernel_rfl) (fun _ _ _ h => h) (Or.inl ⟨by rfl, ?hy88_20⟩) hHeld ?rest88_20
      case hy88_20 =>
        intro w hSw
        (try dsimp only at hSw)
        go_simp
        all_goals (first | done | with_reducible rfl)
      try simp only [Act.put]
      try simp only [List.setIfInBounds_toArray]
      try simp only [List.set_cons_succ]
      try simp only [List.set_cons_zero]
      refine wpAnyH_done (by kernel_rfl) ?_ _
      try simp only [List.getElem_toArray]
      try simp only [List.getElem_cons_succ]
      try simp only [List.getElem_cons_zero]
      try simp only [Act.put]
      try simp only [List.setIfInBounds_toArray]
      try simp only [List.set_cons_succ]
      try simp only [List.set_cons_zero]
      go_wp2_with fail
      go_ret
      exact ⟨by rw [HR.out, HL.out]; rfl, B.out⟩
    · have lb : ((es.length : Int) == 1) = false := by simp; omega
      have HL : Hid (decide (es.length = 1) = false) := by show _ = _; simp [ql]
      clear ql
      refine wp_region_held_drew (S := (fun w' => w'.cell? ⟨w.heap.size, 0, none⟩ = some (.int .i64 14) ∧ w'.cell? ⟨w.heap.size, 3, none⟩ = some (.int .i64 fk) ∧ w'.cell? ⟨w.heap.size, 4, none⟩ = some (.slice fa fn fc) ∧ w'.cell? ⟨w.heap.size, 5, none⟩ = some (.int .i64 tk) ∧ w'.cell? ⟨w.heap.size, 6, none⟩ = some (.slice ta tn tc) ∧ w'.cell? ⟨w.heap.size, 7, none⟩ = some (.slice a es.length cap))) (by kernel_rfl) (by exact ⟨XA.out.2 0, XA.out.2 3, XA.out.2 4, XA.out.2 5, XA.out.2 6, XA.out.2 7⟩) (fun hHeld => ?_)
      refine wpAnyH_take (i := 0) (v := ?z71_0) rfl (by kernel_rfl) (by kernel_rfl) (by kernel_rfl) (fun _ _ _ h => h) (Or.inl ⟨by rfl, ?jy71_0⟩) hHeld ?sest71_0
      case jy71_0 =>
        intro w hSw
        (try dsimp only at hSw)
        go_simp
        all_goals (first | done | with_reducible rfl)
      try simp only [Act.put]
      try simp only [List.setIfInBounds_toArray]
      try simp only [List.set_cons_succ]
      try simp only [List.set_cons_zero]
      refine wpAnyH_take (i := 1) (v := ?z72_1) rfl (by kernel_rfl) (by kernel_rfl) (by kernel_rfl) (fun _ _ _ h => h) (Or.inl ⟨by rfl, ?jy72_1⟩) hHeld ?sest72_1
      case jy72_1 =>
        intro w hSw
        (try dsimp only at hSw)
        go_simp
        all_goals (first | done | with_reducible rfl)
      try simp only [Act.put]
      try simp only [List.setIfInBounds_toArray]
      try simp only [List.set_cons_succ]
      try simp only [List.set_cons_zero]
      refine wpAnyH_take (i := 2) (v := ?z73_2) rfl (by kernel_rfl) (by kernel_rfl) (by kernel_rfl) (fun _ _ _ h => h) (Or.inl ⟨by rfl, ?jy73_2⟩) hHeld ?sest73_2
      case jy73_2 =>
        intro w hSw
        (try dsimp only at hSw)
        go_simp
        all_goals (first | done | with_reducible rfl)
      try simp only [Act.put]
      try simp only [List.setIfInBounds_toArray]
      try simp only [List.set_cons_succ]
      try simp only [List.set_cons_zero]
      refine wpAnyH_take (i := 3) (v := ?z74_3) rfl (by kernel_rfl) (by kernel_rfl) (by kernel_rfl) (fun _ _ _ h => h) (Or.inl ⟨by rfl, ?jy74_3⟩) hHeld ?sest74_3
      case jy74_3 =>
        intro w hSw
        (try dsimp only at hSw)
        go_simp
        all_goals (first | done | with_reducible rfl)
      try simp only [Act.put]
      try simp only [List.setIfInBounds_toArray]
      try simp only [List.set_cons_succ]
      try simp only [List.set_cons_zero]
      refine wpAnyH_take (i := 4) (v := ?z75_4) rfl (by kernel_rfl) (by kernel_rfl) (by kernel_rfl) (fun _ _ _ h => h) (Or.inl ⟨by rfl, ?jy75_4⟩) hHeld ?sest75_4
      case jy75_4 =>
        intro w hSw
        (try dsimp only at hSw)
        go_simp
        all_goals (first | done | with_reducible rfl)
      try simp only [Act.put]
      try simp only [List.setIfInBounds_toArray]
      try simp only [List.set_cons_succ]
      try simp only [List.set_cons_zero]
      refine wpAnyH_take (i := 5) (v := ?z76_5) rfl (by kernel_rfl) (by kernel_rfl) (by kernel_rfl) (fun _ _ _ h => h) (Or.inl ⟨by rfl, ?jy76_5⟩) hHeld ?sest76_5
      case jy76_5 =>
        intro w hSw
        (try dsimp only at hSw)
        go_simp
        all_goals (first | done | with_reducible rfl)
      try simp only [Act.put]
      try simp only [List.setIfInBounds_toArray]
      try simp only [List.set_cons_succ]
      try simp only [List.set_cons_zero]
      refine wpAnyH_ready (rs := [6]) (by kernel_rfl) (by simp) ?_
      refine AllReadyH.cons rfl (fun K hK => ?_) AllReadyH.nil
      go_simp
      go_at_call 64
      refine (implIsGround d _ fr _ HF.out hsz1).mono ?_
      rintro e w1 ⟨he, hb⟩
      rw [HG.out] at he
      subst he
      replace B := Lib.hid (below_thru B.out (Nat.le_refl _) hb)
      replace HF := Lib.hid (HF.out.below hb)
      replace HY := Lib.hid (HY.out.below hb)
      replace XA := Lib.hid (XA.out.below hb)
      clear hb
      clear hHeld
      try go_wp2_with fail
      refine hK.out _ _ (by exact ⟨XA.out.2 0, XA.out.2 3, XA.out.2 4, XA.out.2 5, XA.out.2 6, XA.out.2 7⟩) (fun hHeld => ?_)
      clear hK K
      try simp only [Act.put]
      try simp only [List.setIfInBounds_toArray]
      try simp only [List.set_cons_succ]
      try simp only [List.set_cons_zero]
      refine wpAnyH_take (i := 7) (v := ?z77_7) rfl (by kernel_rfl) (by kernel_rfl) (by kernel_rfl) (fun _ _ _ h => h) (Or.inl ⟨by rfl, ?jy77_7⟩) hHeld ?sest77_7
      case jy77_7 =>
        intro w hSw
        (try dsimp only at hSw)
        go_simp
        all_goals (first | done | with_reducible rfl)
      try simp only [Act.put]
      try simp only [List.setIfInBounds_toArray]
      try simp only [List.set_cons_succ]
      try simp only [List.set_cons_zero]
      refine wpAnyH_take (i := 8) (v := ?z78_8) rfl (by kernel_rfl) (by kernel_rfl) (by kernel_rfl) (fun _ _ _ h => h) (Or.inl ⟨by rfl, ?jy78_8⟩) hHeld ?sest78_8
      case jy78_8 =>
        intro w hSw
        (try dsimp only at hSw)
        go_simp
        all_goals (first | done | with_reducible rfl)
      try simp only [Act.put]
      try simp only [List.setIfInBounds_toArray]
      try simp only [List.set_cons_succ]
      try simp only [List.set_cons_zero]
      refine wpAnyH_take (i := 9) (v := ?z79_9) rfl (by kernel_rfl) (by kernel_rfl) (by kernel_rfl) (fun _ _ _ h => h) (Or.inl ⟨by rfl, ?jy79_9⟩) hHeld ?sest79_9
      case jy79_9 =>
        intro w hSw
        (try dsimp only at hSw)
        go_simp
        all_goals (first | done | with_reducible rfl)
      try simp only [Act.put]
      try simp only [List.setIfInBounds_toArray]
      try simp only [List.set_cons_succ]
      try simp only [List.set_cons_zero]
      refine wpAnyH_take (i := 10) (v := ?z80_10) rfl (by kernel_rfl) (by kernel_rfl) (by kernel_rfl) (fun _ _ _ h => h) (Or.inl ⟨by rfl, ?jy80_10⟩) hHeld ?sest80_10
      case jy80_10 =>
        intro w hSw
        (try dsimp only at hSw)
        go_simp
        all_goals (first | done | with_reducible rfl)
      try simp only [Act.put]
      try simp only [List.setIfInBounds_toArray]
      try simp only [List.set_cons_succ]
      try simp only [List.set_cons_zero]
      refine wpAnyH_ready (rs := [11]) (by kernel_rfl) (by simp) ?_
      refine AllReadyH.cons rfl (fun K hK => ?_) AllReadyH.nil
      go_simp
      go_at_call 85
      refine (implUnknownType _).mono ?_
      rintro e w2 ⟨rfl, hb⟩
      replace B := Lib.hid (below_thru B.out (Nat.le_refl _) hb)
      replace HF := Lib.hid (HF.out.below hb)
      replace HY := Lib.hid (HY.out.below hb)
      replace XA := Lib.hid (XA.out.below hb)
      clear hb
      clear hHeld
      try go_wp2_with fail
      refine hK.out _ _ (by exact ⟨XA.out.2 0, XA.out.2 3, XA.out.2 4, XA.out.2 5, XA.out.2 6, XA.out.2 7⟩) (fun hHeld => ?_)
      clear hK K
      try simp only [Act.put]
      try simp only [List.setIfInBounds_toArray]
      try simp only [List.set_cons_succ]
      try simp only [List.set_cons_zero]
      refine wpAnyH_ready (rs := [12]) (by kernel_rfl) (by simp) ?_
      refine AllReadyH.cons rfl (fun K hK => ?_) AllReadyH.nil
      go_simp
      go_at_call 83
      refine (implEqual (d + 1) _ _ ty (.node 1 []) _ HY.out.succ (own_zero _ d 1 (by omega) (by omega)).at_).mono ?_
      rintro e w3 ⟨he, hb⟩
      rw [HQ.out] at he
      subst he
      replace B := Lib.hid (below_thru B.out (Nat.le_refl _) hb)
      replace HF := Lib.hid (HF.out.below hb)
      replace HY := Lib.hid (HY.out.below hb)
      replace XA := Lib.hid (XA.out.below hb)
      clear hb
      clear hHeld
      try go_wp2_with fail
      refine hK.out _ _ (by exact ⟨XA.out.2 0, XA.out.2 3, XA.out.2 4, XA.out.2 5, XA.out.2 6, XA.out.2 7⟩) (fun hHeld => ?_)
      clear hK K
      try simp only [Act.put]
      try simp only [List.setIfInBounds_toArray]
      try simp only [List.set_cons_succ]
      try simp only [List.set_cons_zero]
      refine wpAnyH_take (i := 13) (v := ?z81_13) rfl (by kernel_rfl) (by kernel_rfl) (by kernel_rfl) (fun _ _ _ h => h) (Or.inl ⟨by rfl, ?jy81_13⟩) hHeld ?sest81_13
      case jy81_13 =>
        intro w hSw
        (try dsimp only at hSw)
        go_simp
        all_goals (first | done | with_reducible rfl)
      try simp only [Act.put]
      try simp only [List.setIfInBounds_toArray]
      try simp only [List.set_cons_succ]
      try simp only [List.set_cons_zero]
      refine wpAnyH_take (i := 14) (v := ?z82_14) rfl (by kernel_rfl) (by kernel_rfl) (by kernel_rfl) (fun _ _ _ h => h) (Or.inl ⟨by rfl, ?jy82_14⟩) hHeld ?sest82_14
      case jy82_14 =>
        intro w hSw
        (try dsimp only at hSw)
        go_simp
        all_goals (first | done | with_reducible rfl)
      try simp only [Act.put]
      try simp only [List.setIfInBounds_toArray]
      try simp only [List.set_cons_succ]
      try simp only [List.set_cons_zero]
      refine wpAnyH_take (i := 15) (v := ?z83_15) rfl (by kernel_rfl) (by kernel_rfl) (by kernel_rfl) (fun _ _ _ h => h) (Or.inl ⟨by rfl, ?jy83_15⟩) hHeld ?sest83_15
      case jy83_15 =>
        intro w hSw
        (try dsimp only at hSw)
        go_simp
        all_goals (first | done | with_reducible rfl)
      try simp only [Act.put]
      try simp only [List.setIfInBounds_toArray]
      try simp only [List.set_cons_succ]
      try simp only [List.set_cons_zero]
      refine wpAnyH_take (i := 16) (v := ?z84_16) rfl (by kernel_rfl) (by kernel_rfl) (by kernel_rfl) (fun _ _ _ h => h) (Or.inl ⟨by rfl, ?jy84_16⟩) hHeld ?sest84_16
      case jy84_16 =>
        intro w hSw
        (try dsimp only at hSw)
        go_simp
        all_goals (first | done | with_reducible rfl)
      try simp only [Act.put]
      try simp only [List.setIfInBounds_toArray]
      try simp only [List.set_cons_succ]
      try simp only [List.set_cons_zero]
      refine wpAnyH_take (i := 17) (v := ?z85_17) rfl (by kernel_rfl) (by kernel_rfl) (by kernel_rfl) (fun _ _ _ h => h) (Or.inl ⟨by rfl, ?jy85_17⟩) hHeld ?sest85_17
      case jy85_17 =>
        intro w hSw
        (try dsimp only at hSw)
        go_simp
        all_goals (first | done | with_reducible rfl)
      try simp only [Act.put]
      try simp only [List.setIfInBounds_toArray]
      try simp only [List.set_cons_succ]
      try simp only [List.set_cons_zero]
      refine wpAnyH_take (i := 18) (v := ?z86_18) rfl (by kernel_rfl) (by kernel_rfl) (by kernel_rfl) (fun _ _ _ h => h) (Or.inl ⟨by rfl, ?jy86_18⟩) hHeld ?sest86_18
      case jy86_18 =>
        intro w hSw
        (try dsimp only at hSw)
        go_simp
        all_goals (first | done | with_reducible rfl)
      try simp only [Act.put]
      try simp only [List.setIfInBounds_toArray]
      try simp only [List.set_cons_succ]
      try simp only [List.set_cons_zero]
      refine wpAnyH_take (i := 19) (v := ?z87_19) rfl (by kernel_rfl) (by kernel_rfl) (by kernel_rfl) (fun _ _ _ h => h) (Or.inl ⟨by rfl, ?jy87_19⟩) hHeld ?sest87_19
      case jy87_19 =>
        intro w hSw
        (try dsimp only at hSw)
        go_simp
        all_goals (first | done | with_reducible rfl)
      try simp only [Act.put]
      try simp only [List.setIfInBounds_toArray]
      try simp only [List.set_cons_succ]
      try simp only [List.set_cons_zero]
      refine wpAnyH_take (i := 20) (v := ?z88_20) rfl (by kernel_rfl) (by kernel_rfl) (by kernel_rfl) (fun _ _ _ h => h) (Or.inl ⟨by rfl, ?jy88_20⟩) hHeld ?sest88_20
      case jy88_20 =>
        intro w hSw
        (try dsimp only at hSw)
        go_simp
        all_goals (first | done | with_reducible rfl)
      try simp only [Act.put]
      try simp only [List.setIfInBounds_toArray]
      try simp only [List.set_cons_succ]
      try simp only [List.set_cons_zero]
      refine wpAnyH_done (by kernel_rfl) ?_ _
      try simp only [List.getElem_toArray]
      try simp only [List.getElem_cons_succ]
      try simp only [List.getElem_cons_zero]
      try simp only [Act.put]
      try simp only [List.setIfInBounds_toArray]
      try simp only [List.set_cons_succ]
      try simp only [List.set_cons_zero]
      go_wp2_with fail
      go_ret
      exact ⟨by rw [HR.out, HL.out]; rfl, B.out⟩
end Go.Proofs.YtnggkcgifjfnfaaDoor
