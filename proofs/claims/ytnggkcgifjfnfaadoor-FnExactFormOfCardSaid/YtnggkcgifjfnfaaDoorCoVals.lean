/-
  Proved: plain facts on a row of core expressions, cell by cell.
-/
import Derived.Test.YtnggkcgifjfnfaaDoorCoTree
import Derived.Test.YtnggkcgifjfnfaaDoorStrs
import Derived.Maps.AppendAt
namespace Go.Proofs.YtnggkcgifjfnfaaDoor
open Go.RowKit

/-- Cells, nine for each core expression. -/
def CoVals (w : World) (d : Nat) : List Value → List Co → Prop
  | [], [] => True
  | c0 :: c1 :: c2 :: c3 :: c4 :: c5 :: c6 :: c7 :: c8 :: r, e :: l => CoAt w d (.agg #[c0, c1, c2, c3, c4, c5, c6, c7, c8]) e ∧ CoVals w d r l
  | _, _ => False
theorem CoVals.append {w : World} {d : Nat} : ∀ {cs : List Value} {l : List Co} {cs' : List Value} {l' : List Co}, CoVals w d cs l → CoVals w d cs' l' → CoVals w d (cs ++ cs') (l ++ l')
  | [], [], _, _, _, h' => h'
  | _ :: _ :: _ :: _ :: _ :: _ :: _ :: _ :: _ :: _, _ :: _, _, _, h, h' => ⟨h.1, h.2.append h'⟩
theorem CoVals.below {w w' : World} {d : Nat} (hb : Below w.heap.size w w') : ∀ {cs : List Value} {l : List Co}, CoVals w d cs l → CoVals w' d cs l
  | [], [], h => h
  | _ :: _ :: _ :: _ :: _ :: _ :: _ :: _ :: _ :: _, _ :: _, h => ⟨h.1.below hb, h.2.below hb⟩
theorem CoVals.len {w : World} {d : Nat} : ∀ {cs : List Value} {l : List Co}, CoVals w d cs l → cs.length = l.length * 9
  | [], [], _ => rfl
  | _ :: _ :: _ :: _ :: _ :: _ :: _ :: _ :: _ :: _, _ :: _, h => by have := h.2.len; simp only [List.length_cons]; omega
theorem CoVals.get {w : World} {d : Nat} : ∀ {cs : List Value} {l : List Co}, CoVals w d cs l → ∀ j (h : j < l.length), ∃ c0 c1 c2 c3 c4 c5 c6 c7 c8, cs[j * 9]? = some c0 ∧ cs[j * 9 + 1]? = some c1 ∧ cs[j * 9 + 2]? = some c2 ∧ cs[j * 9 + 3]? = some c3 ∧ cs[j * 9 + 4]? = some c4 ∧ cs[j * 9 + 5]? = some c5 ∧ cs[j * 9 + 6]? = some c6 ∧ cs[j * 9 + 7]? = some c7 ∧ cs[j * 9 + 8]? = some c8 ∧ CoAt w d (.agg #[c0, c1, c2, c3, c4, c5, c6, c7, c8]) l[j]
  | [], [], _, j, hj => by simp at hj
  | c0 :: c1 :: c2 :: c3 :: c4 :: c5 :: c6 :: c7 :: c8 :: r, e :: l, h, j, hj => by
    cases j with
    | zero => exact ⟨c0, c1, c2, c3, c4, c5, c6, c7, c8, rfl, rfl, rfl, rfl, rfl, rfl, rfl, rfl, rfl, h.1⟩
    | succ j =>
      obtain ⟨x0, x1, x2, x3, x4, x5, x6, x7, x8, h0, h1, h2, h3, h4, h5, h6, h7, h8, ht⟩ := CoVals.get h.2 j (by simpa using hj)
      have e : ∀ q, (j + 1) * 9 + q = (j * 9 + q) + 9 := fun q => by omega
      refine ⟨x0, x1, x2, x3, x4, x5, x6, x7, x8, ?_, ?_, ?_, ?_, ?_, ?_, ?_, ?_, ?_, ht⟩
      · have := e 0; simp only [Nat.add_zero] at this; rw [this]; exact h0
      · rw [e 1]; exact h1
      · rw [e 2]; exact h2
      · rw [e 3]; exact h3
      · rw [e 4]; exact h4
      · rw [e 5]; exact h5
      · rw [e 6]; exact h6
      · rw [e 7]; exact h7
      · rw [e 8]; exact h8
theorem CoVals.ones {w : World} {d : Nat} : ∀ {cs : List Value} {l : List Co}, CoVals w d cs l → ∀ u ∈ cs, u.oneCell' = true
  | [], [], _ => fun u hu => by simp at hu
  | c0 :: c1 :: c2 :: c3 :: c4 :: c5 :: c6 :: c7 :: c8 :: r, e :: l, h => fun u hu => by
    obtain ⟨k, nm, n, fk, fa, fn, fc, tk, ta, tn, tc, sa, sn, sc, ea, en, ec, rfl, rfl, rfl, rfl, rfl, rfl, rfl, rfl, rfl⟩ := co_cells h.1
    simp only [List.mem_cons] at hu
    rcases hu with rfl | rfl | rfl | rfl | rfl | rfl | rfl | rfl | rfl | hu
    all_goals first | rfl | exact h.2.ones u hu
/-- The cells of a row that reads as core expressions. -/
theorem CosAt.vals {w : World} {d : Nat} {a : Option Addr} {n cap : Nat} {es : List Co} (h : CosAt w d (.slice a n cap) es) : n = es.length ∧
    ∀ k, k ≤ es.length → ∃ cs, CoVals w d cs (es.take k) ∧ ∀ j u, cs[j]? = some u → ∃ b off, a = some ⟨b, off, none⟩ ∧ b < w.heap.size ∧ w.cell? ⟨b, off + j, none⟩ = some u := by
  obtain ⟨a', cap', hv, hcap, hcap2, hat⟩ := h
  injection hv with h1 h2 h3
  subst h1 h2 h3
  refine ⟨rfl, fun k => ?_⟩
  induction k with
  | zero => intro _; exact ⟨[], by simp [CoVals], fun j u hj => by simp at hj⟩
  | succ k ih =>
    intro hk
    obtain ⟨cs, hcs, hc⟩ := ih (by omega)
    obtain ⟨b, off, c0, c1, c2, c3, c4, c5, c6, c7, c8, ha, hlt, h0, h1, h2, h3, h4, h5, h6, h7, h8, ht⟩ := hat k (by omega)
    refine ⟨cs ++ [c0, c1, c2, c3, c4, c5, c6, c7, c8], ?_, fun j u hj => ?_⟩
    · rw [List.take_succ_eq_append_getElem (by omega)]
      exact hcs.append ⟨ht, trivial⟩
    · have hl := hcs.len
      rw [List.length_take, Nat.min_eq_left (by omega)] at hl
      by_cases hlt2 : j < cs.length
      · rw [List.getElem?_append_left hlt2] at hj
        exact hc j u hj
      · rw [List.getElem?_append_right (by omega)] at hj
        have hj9 : j - cs.length < 9 := by
          have := (List.getElem?_eq_some_iff.1 hj).1
          simpa using this
        refine ⟨b, off, ha, hlt, ?_⟩
        obtain ⟨r, hr⟩ : ∃ r, r = j - cs.length := ⟨_, rfl⟩
        have hjr : j = k * 9 + r := by omega
        rw [← hr] at hj hj9
        subst hjr
        match r, hj9 with
        | 0, _ => simp at hj; subst hj; exact h0
        | 1, _ => simp at hj; subst hj; rw [← Nat.add_assoc]; exact h1
        | 2, _ => simp at hj; subst hj; rw [← Nat.add_assoc]; exact h2
        | 3, _ => simp at hj; subst hj; rw [← Nat.add_assoc]; exact h3
        | 4, _ => simp at hj; subst hj; rw [← Nat.add_assoc]; exact h4
        | 5, _ => simp at hj; subst hj; rw [← Nat.add_assoc]; exact h5
        | 6, _ => simp at hj; subst hj; rw [← Nat.add_assoc]; exact h6
        | 7, _ => simp at hj; subst hj; rw [← Nat.add_assoc]; exact h7
        | 8, _ => simp at hj; subst hj; rw [← Nat.add_assoc]; exact h8
/-- A row of a call's own of such cells reads as core expressions. -/
theorem CosAt.of_own {w : World} {base d : Nat} {v : Value} {n : Nat} {cs : List Value} {l : List Co} {e : TypeId} (h : w.ownsRow base e 9 v n cs) (hc : CoVals w d cs l) (hn : n = l.length) : CosAt w d v l := by
  subst hn
  have hlt := h.lt
  have hcells := fun g (hg : v.ownBlock = some g) => h.cells hg
  rcases h.2 with ⟨rfl, hz⟩ | ⟨g, cap, cur, rfl, hb, hg, hnc, hcm, _⟩
  · exact ⟨none, 0, by rw [hz], by omega, by omega, fun j hj => by omega⟩
  · refine ⟨_, cap, rfl, hnc, by unfold maxLen at hcm; omega, fun j hj => ?_⟩
    obtain ⟨c0, c1, c2, c3, c4, c5, c6, c7, c8, h0, h1, h2, h3, h4, h5, h6, h7, h8, ht⟩ := hc.get j hj
    have hk : ∀ q u, cs[q]? = some u → w.cell? ⟨g, q, none⟩ = some u := fun q u hq => by
      have := hcells g rfl q u hq
      rw [addr_add] at this; simpa using this
    refine ⟨g, 0, c0, c1, c2, c3, c4, c5, c6, c7, c8, rfl, (hlt g rfl).2, ?_, ?_, ?_, ?_, ?_, ?_, ?_, ?_, ?_, ht⟩
    all_goals (rw [Nat.zero_add]; exact hk _ _ (by assumption))
end Go.Proofs.YtnggkcgifjfnfaaDoor
