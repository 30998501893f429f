/-
  Proved: the pieces of a text between the places of one byte: what the library's cut gives, and what a loop that looks for the byte gives. Plain mathematics, no program.
-/
import Derived.Lib.Split
import Derived.Lib.CountLaws
namespace Go.Proofs.YtpoafjbndipfeaaDoor.Num

/-- The pieces of l between the bytes c. -/
def pieces (c : UInt8) : List UInt8 → List (List UInt8)
  | [] => [[]]
  | b :: r => if b = c then [] :: pieces c r else match pieces c r with
    | [] => []
    | p :: q => (b :: p) :: q
theorem pieces_ne (c : UInt8) : ∀ l, pieces c l ≠ []
  | [] => by simp [pieces]
  | b :: r => by
    unfold pieces
    split
    · simp
    · split
      · exact fun _ => pieces_ne c r ‹_›
      · simp
theorem pieces_free (c : UInt8) : ∀ l : List UInt8, (∀ b ∈ l, b ≠ c) → pieces c l = [l]
  | [], _ => rfl
  | b :: r, h => by
    unfold pieces
    rw [if_neg (h b (by simp)), pieces_free c r (fun x hx => h x (by simp [hx]))]
theorem pieces_hit (c : UInt8) : ∀ (l r : List UInt8), (∀ b ∈ l, b ≠ c) → pieces c (l ++ c :: r) = l :: pieces c r
  | [], r, _ => by simp [pieces]
  | b :: l, r, h => by
    rw [List.cons_append, pieces, if_neg (h b (by simp)), pieces_hit c l r (fun x hx => h x (by simp [hx]))]
theorem index_free (c : UInt8) : ∀ l : List UInt8, (∀ b ∈ l, b ≠ c) → Lib.index l [c] = -1
  | [], _ => by simp [Lib.index]
  | b :: r, h => by
    have hb : c ≠ b := fun e => h b (by simp) e.symm
    rw [Lib.index, index_free c r (fun x hx => h x (by simp [hx]))]
    simp [List.isPrefixOf, hb]
theorem index_hit (c : UInt8) : ∀ (l r : List UInt8), (∀ b ∈ l, b ≠ c) → Lib.index (l ++ c :: r) [c] = l.length
  | [], r, _ => by simp [Lib.index, List.isPrefixOf]
  | b :: l, r, h => by
    have hb : c ≠ b := fun e => h b (by simp) e.symm
    have ih := index_hit c l r (fun x hx => h x (by simp [hx]))
    rw [List.cons_append, Lib.index, ih]
    have h1 : ((l.length : Int) == -1) = false := by rw [beq_eq_false_iff_ne]; omega
    simp [List.isPrefixOf, hb, h1]
/-- A text is free of the byte, or it is cut at the first one. -/
theorem first (c : UInt8) : ∀ l : List UInt8, (∀ b ∈ l, b ≠ c) ∨ ∃ a r, l = a ++ c :: r ∧ ∀ b ∈ a, b ≠ c
  | [] => Or.inl (by simp)
  | b :: l => by
    by_cases hb : b = c
    · exact Or.inr ⟨[], l, by simp [hb], by simp⟩
    · rcases first c l with h | ⟨a, r, rfl, h⟩
      · refine Or.inl fun x hx => ?_
        rcases List.mem_cons.1 hx with rfl | hx
        · exact hb
        · exact h x hx
      · refine Or.inr ⟨b :: a, r, rfl, fun x hx => ?_⟩
        rcases List.mem_cons.1 hx with rfl | hx
        · exact hb
        · exact h x hx
theorem split_pieces (c : UInt8) (l : List UInt8) : Lib.splitK [c] 0 (Lib.count l [c]) l = pieces c l ∧ Lib.count l [c] + 1 = (pieces c l).length := by
  induction hn : l.length using Nat.strongRecOn generalizing l with
  | ind n ih =>
    rcases first c l with h | ⟨a, r, rfl, h⟩
    · have hi := index_free c l h
      rw [Lib.count_miss hi, pieces_free c l h]
      exact ⟨rfl, rfl⟩
    · have hi := index_hit c a r h
      have hd : (a ++ c :: r).drop (a.length + [c].length) = r := by
        rw [← List.drop_drop]; simp
      obtain ⟨h1, h2⟩ := ih r.length (by subst hn; simp; omega) r rfl
      have hc := Lib.count_hit (by simp) hi
      rw [hd] at hc
      have hm : ((a.length : Int) == -1) = false := by rw [beq_eq_false_iff_ne]; omega
      rw [hc, pieces_hit c a r h, Nat.add_comm 1, Lib.splitK, hi, hm]
      simp only [Int.toNat_natCast, Nat.add_zero]
      rw [hd, h1]
      exact ⟨by simp, by rw [List.length_cons]; omega⟩

/-- The bytes from 'from' up to i. -/
def seg (l : List UInt8) (a b : Nat) : List UInt8 := (l.drop a).take (b - a)
theorem drop_seg (l : List UInt8) (a b : Nat) (h : a ≤ b) : l.drop a = seg l a b ++ l.drop b := by
  unfold seg
  have := List.take_append_drop (b - a) (l.drop a)
  rw [List.drop_drop, show a + (b - a) = b from by omega] at this
  exact this.symm
theorem free_seg (c : UInt8) (l : List UInt8) (a b : Nat) (h : ∀ j x, a ≤ j → j < b → l[j]? = some x → x ≠ c) : ∀ x ∈ seg l a b, x ≠ c := by
  intro x hx
  obtain ⟨i, hi, rfl⟩ := List.getElem_of_mem hx
  unfold seg at hi ⊢
  rw [List.getElem_take, List.getElem_drop]
  simp at hi
  exact h (a + i) _ (by omega) (by omega) (List.getElem?_eq_getElem _)
theorem step_hit (c : UInt8) (l : List UInt8) (D : List (List UInt8)) (a i : Nat) (ha : a ≤ i) (h : D ++ pieces c (l.drop a) = pieces c l) (hf : ∀ j x, a ≤ j → j < i → l[j]? = some x → x ≠ c) (hi : l[i]? = some c) :
    (D ++ [seg l a i]) ++ pieces c (l.drop (i + 1)) = pieces c l := by
  rw [← h, drop_seg l a i ha]
  have hlt : i < l.length := (List.getElem?_eq_some_iff.1 hi).1
  rw [List.drop_eq_getElem_cons hlt, show l[i] = c from by rw [List.getElem?_eq_getElem hlt] at hi; exact Option.some.inj hi, pieces_hit c _ _ (free_seg c l a i hf)]
  simp
theorem step_end (c : UInt8) (l : List UInt8) (D : List (List UInt8)) (a : Nat) (ha : a ≤ l.length) (h : D ++ pieces c (l.drop a) = pieces c l) (hf : ∀ j x, a ≤ j → j < l.length → l[j]? = some x → x ≠ c) :
    D ++ [seg l a l.length] = pieces c l := by
  have e : l.drop a = seg l a l.length := by rw [drop_seg l a l.length ha]; simp
  rw [← h, e, pieces_free c _ (free_seg c l a l.length hf)]
theorem extract_seg (s : ByteArray) (a b : Nat) : (s.extract a b).data.toList = seg s.data.toList a b := by
  unfold seg; simp
/-- Where the loop stands: the pieces that are laid, the place behind the last byte c, the place that is looked at next. -/
def Cut (c : UInt8) (l : List UInt8) (D : List (List UInt8)) (a i : Nat) : Prop :=
  (i ≤ l.length ∧ a ≤ i ∧ D ++ pieces c (l.drop a) = pieces c l ∧ ∀ j x, a ≤ j → j < i → l[j]? = some x → x ≠ c) ∨ (i = l.length + 1 ∧ a = i ∧ D = pieces c l)
theorem Cut.start (c : UInt8) (l : List UInt8) : Cut c l [] 0 0 := Or.inl ⟨by omega, by omega, by simp, fun j x _ h => by omega⟩
theorem Cut.pass {c : UInt8} {l : List UInt8} {D : List (List UInt8)} {a i : Nat} (h : Cut c l D a i) (hi : i < l.length) (hne : l[i]? ≠ some c) : Cut c l D a (i + 1) := by
  rcases h with ⟨_, h2, h3, h4⟩ | ⟨h1, _⟩
  · refine Or.inl ⟨by omega, by omega, h3, fun j x hj hlt hx => ?_⟩
    by_cases e : j = i
    · subst e; intro ex; subst ex; exact hne hx
    · exact h4 j x hj (by omega) hx
  · omega
theorem Cut.hit {c : UInt8} {l : List UInt8} {D : List (List UInt8)} {a i : Nat} (h : Cut c l D a i) (hi : i < l.length) (he : l[i]? = some c) : Cut c l (D ++ [seg l a i]) (i + 1) (i + 1) := by
  rcases h with ⟨h1, h2, h3, h4⟩ | ⟨h1, _⟩
  · exact Or.inl ⟨by omega, by omega, step_hit c l D a i h2 h3 h4 he, fun j x _ h => by omega⟩
  · omega
theorem Cut.last {c : UInt8} {l : List UInt8} {D : List (List UInt8)} {a : Nat} (h : Cut c l D a l.length) : Cut c l (D ++ [seg l a l.length]) (l.length + 1) (l.length + 1) := by
  rcases h with ⟨_, h2, h3, h4⟩ | ⟨h1, _⟩
  · exact Or.inr ⟨rfl, rfl, step_end c l D a h2 h3 h4⟩
  · omega
theorem Cut.from_le {c : UInt8} {l : List UInt8} {D : List (List UInt8)} {a i : Nat} (h : Cut c l D a i) : a ≤ i := by
  rcases h with ⟨_, h2, _⟩ | ⟨_, h2, _⟩ <;> omega
theorem Cut.done {c : UInt8} {l : List UInt8} {D : List (List UInt8)} {a i : Nat} (h : Cut c l D a i) (hi : ¬ i ≤ l.length) : D = pieces c l := by
  rcases h with ⟨h1, _⟩ | ⟨_, _, h3⟩
  · omega
  · exact h3
end Go.Proofs.YtpoafjbndipfeaaDoor.Num
