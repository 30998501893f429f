/-
  Proved: plain facts on equal core expressions and environments; no program.
-/
import Derived.Test.YtefoenkmppeidaaCoTree
import Derived.Test.YtefoenkmppeidaaExEq
namespace Go.Proofs.Ytefoenkmppeidaa
open Go.RowKit

def nbeqs : List ByteArray → List ByteArray → Bool
  | [], [] => true
  | a :: r, b :: s => decide (a = b) && nbeqs r s
  | _, _ => false
mutual
def Co.beq : Co → Co → Bool
  | .node k nm n fr ty es ns vs, .node l nl m gr tz fs ms us => (decide (k = l) && (decide (nm = nl) && (decide (n = m) && (fr.beq gr && ty.beq tz)))) && (Co.beqs es fs && (nbeqs ns ms && Co.beqs vs us))
def Co.beqs : List Co → List Co → Bool
  | [], [] => true
  | a :: r, b :: s => a.beq b && Co.beqs r s
  | _, _ => false
end
theorem nbeqs_len : ∀ (cs bs : List ByteArray), cs.length ≠ bs.length → nbeqs cs bs = false
  | [], [], h => (h rfl).elim
  | [], _ :: _, _ => rfl
  | _ :: _, [], _ => rfl
  | a :: r, b :: s, h => by
    simp only [nbeqs, nbeqs_len r s (by simpa using h), Bool.and_false]
theorem nbeqs_take : ∀ (cs bs : List ByteArray) (k : Nat) (h : k < cs.length) (h' : k < bs.length), nbeqs (cs.take (k + 1)) (bs.take (k + 1)) = (nbeqs (cs.take k) (bs.take k) && decide (cs[k] = bs[k]))
  | [], _, _, h, _ => by simp at h
  | _ :: _, [], _, _, h => by simp at h
  | a :: r, b :: s, 0, _, _ => by simp [nbeqs]
  | a :: r, b :: s, k + 1, h, h' => by
    simp only [List.take_succ_cons, nbeqs, List.getElem_cons_succ]
    rw [nbeqs_take r s k (by simpa using h) (by simpa using h'), Bool.and_assoc]
theorem nbeqs_false : ∀ (cs bs : List ByteArray) (k : Nat), nbeqs (cs.take k) (bs.take k) = false → cs.length = bs.length → nbeqs cs bs = false
  | [], [], k, h, _ => by simp [nbeqs] at h
  | [], _ :: _, _, _, e => by simp at e
  | _ :: _, [], _, _, e => by simp at e
  | a :: r, b :: s, 0, h, _ => by simp [nbeqs] at h
  | a :: r, b :: s, k + 1, h, e => by
    simp only [List.take_succ_cons, nbeqs, Bool.and_eq_false_iff] at h ⊢
    rcases h with h | h
    · exact Or.inl h
    · exact Or.inr (nbeqs_false r s k h (by simpa using e))
theorem Co.beqs_len : ∀ (cs bs : List Co), cs.length ≠ bs.length → Co.beqs cs bs = false
  | [], [], h => (h rfl).elim
  | [], _ :: _, _ => rfl
  | _ :: _, [], _ => rfl
  | a :: r, b :: s, h => by
    simp only [Co.beqs, Co.beqs_len r s (by simpa using h), Bool.and_false]
theorem Co.beqs_take : ∀ (cs bs : List Co) (k : Nat) (h : k < cs.length) (h' : k < bs.length), Co.beqs (cs.take (k + 1)) (bs.take (k + 1)) = (Co.beqs (cs.take k) (bs.take k) && cs[k].beq bs[k])
  | [], _, _, h, _ => by simp at h
  | _ :: _, [], _, _, h => by simp at h
  | a :: r, b :: s, 0, _, _ => by simp [Co.beqs]
  | a :: r, b :: s, k + 1, h, h' => by
    simp only [List.take_succ_cons, Co.beqs, List.getElem_cons_succ]
    rw [Co.beqs_take r s k (by simpa using h) (by simpa using h'), Bool.and_assoc]
theorem Co.beqs_false : ∀ (cs bs : List Co) (k : Nat), Co.beqs (cs.take k) (bs.take k) = false → cs.length = bs.length → Co.beqs cs bs = false
  | [], [], k, h, _ => by simp [Co.beqs] at h
  | [], _ :: _, _, _, e => by simp at e
  | _ :: _, [], _, _, e => by simp at e
  | a :: r, b :: s, 0, h, _ => by simp [Co.beqs] at h
  | a :: r, b :: s, k + 1, h, e => by
    simp only [List.take_succ_cons, Co.beqs, Bool.and_eq_false_iff] at h ⊢
    rcases h with h | h
    · exact Or.inl h
    · exact Or.inr (Co.beqs_false r s k h (by simpa using e))
/-- Two environments are equal: their names and their values. -/
def ebeq (ns : List ByteArray) (vs : List Co) (ms : List ByteArray) (us : List Co) : Bool := nbeqs ns ms && Co.beqs vs us
theorem ebeq_len (ns : List ByteArray) (vs : List Co) (ms : List ByteArray) (us : List Co) (h : vs.length ≠ us.length) : ebeq ns vs ms us = false := by
  unfold ebeq
  rw [Co.beqs_len vs us h, Bool.and_false]
theorem ebeq_take (ns : List ByteArray) (vs : List Co) (ms : List ByteArray) (us : List Co) (k : Nat) (h1 : k < ns.length) (h2 : k < vs.length) (h3 : k < ms.length) (h4 : k < us.length) :
    ebeq (ns.take (k + 1)) (vs.take (k + 1)) (ms.take (k + 1)) (us.take (k + 1)) = (ebeq (ns.take k) (vs.take k) (ms.take k) (us.take k) && (decide (ns[k] = ms[k]) && vs[k].beq us[k])) := by
  unfold ebeq
  rw [nbeqs_take ns ms k h1 h3, Co.beqs_take vs us k h2 h4]
  cases nbeqs (ns.take k) (ms.take k) <;> cases decide (ns[k] = ms[k]) <;> cases Co.beqs (vs.take k) (us.take k) <;> rfl
theorem ebeq_bad (ns : List ByteArray) (vs : List Co) (ms : List ByteArray) (us : List Co) (k : Nat) (h1 : k < ns.length) (h2 : k < vs.length) (h3 : k < ms.length) (h4 : k < us.length) (e1 : ns.length = ms.length) (e2 : vs.length = us.length)
    (hb : (decide (ns[k] = ms[k]) && vs[k].beq us[k]) = false) : ebeq ns vs ms us = false := by
  unfold ebeq
  cases hd : decide (ns[k] = ms[k]) with
  | false => rw [nbeqs_false ns ms (k + 1) (by rw [nbeqs_take ns ms k h1 h3, hd, Bool.and_false]) e1, Bool.false_and]
  | true =>
    rw [hd, Bool.true_and] at hb
    rw [Co.beqs_false vs us (k + 1) (by rw [Co.beqs_take vs us k h2 h4, hb, Bool.and_false]) e2, Bool.and_false]
/-- In the world w the pointer v leads to the core expression t. -/
def PtrCo (w : World) (d : Nat) (v : Value) (t : Co) : Prop :=
  ∃ b off c0 c1 c2 c3 c4 c5 c6 c7 c8, v = .pointer (some ⟨b, off, none⟩) ∧ b < w.heap.size ∧ w.cell? ⟨b, off, none⟩ = some c0 ∧ w.cell? ⟨b, off + 1, none⟩ = some c1 ∧ w.cell? ⟨b, off + 2, none⟩ = some c2 ∧ w.cell? ⟨b, off + 3, none⟩ = some c3 ∧ w.cell? ⟨b, off + 4, none⟩ = some c4 ∧ w.cell? ⟨b, off + 5, none⟩ = some c5 ∧ w.cell? ⟨b, off + 6, none⟩ = some c6 ∧ w.cell? ⟨b, off + 7, none⟩ = some c7 ∧ w.cell? ⟨b, off + 8, none⟩ = some c8 ∧ CoAt w d (.agg #[c0, c1, c2, c3, c4, c5, c6, c7, c8]) t
theorem PtrCo.below {w w' : World} {d : Nat} {v : Value} {t : Co} (h : PtrCo w d v t) (hb : Below w.heap.size w w') : PtrCo w' d v t := by
  obtain ⟨b, off, c0, c1, c2, c3, c4, c5, c6, c7, c8, hv, hlt, h0, h1, h2, h3, h4, h5, h6, h7, h8, ht⟩ := h
  have hk : ∀ o, w'.cell? ⟨b, o, none⟩ = w.cell? ⟨b, o, none⟩ := fun o => hb.cell (p := ⟨b, o, none⟩) hlt
  exact ⟨b, off, c0, c1, c2, c3, c4, c5, c6, c7, c8, hv, Nat.lt_of_lt_of_le hlt hb.size, (hk _).trans h0, (hk _).trans h1, (hk _).trans h2, (hk _).trans h3, (hk _).trans h4, (hk _).trans h5, (hk _).trans h6, (hk _).trans h7, (hk _).trans h8, ht.below hb⟩
end Go.Proofs.Ytefoenkmppeidaa
