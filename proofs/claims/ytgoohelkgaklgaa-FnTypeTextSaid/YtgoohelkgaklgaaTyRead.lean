/-
  Proved: plain facts on reading a type from its text, as the reference reads and as the program reads; no program.
-/
import Derived.Test.YtgoohelkgaklgaaFormatText
namespace Go.Proofs.Ytgoohelkgaklgaa
open Go.RowKit

/-- The text of a type as a list of bytes. -/
def Ty.tl (t : Ty) : List UInt8 := t.text.data.toList
def leafOf (c : UInt8) : Option Int := if c = 63 then some 1 else if c = 78 then some 2 else if c = 66 then some 3 else none
def signOf (c : UInt8) : Option Int := if c = 62 then some 4 else if c = 42 then some 5 else none
theorem Ty.tl_unknown : (Ty.node 1 []).tl = [63] := rfl
theorem Ty.tl_num : (Ty.node 2 []).tl = [78] := rfl
theorem Ty.tl_bool : (Ty.node 3 []).tl = [66] := rfl
theorem Ty.tl_arrow (a b : Ty) : (Ty.node 4 [a, b]).tl = 40 :: (a.tl ++ 62 :: (b.tl ++ [41])) := by
  simp [Ty.tl, Ty.text_arrow, ByteArray.data_append]
theorem Ty.tl_pair (a b : Ty) : (Ty.node 5 [a, b]).tl = 40 :: (a.tl ++ 42 :: (b.tl ++ [41])) := by
  simp [Ty.tl, Ty.text_pair, ByteArray.data_append]
/-- Reading as the reference does: n says how many brackets may still be opened. -/
def rdS : Nat → List UInt8 → Option (Ty × List UInt8)
  | _, [] => none
  | 0, c :: r => (leafOf c).map fun k => (.node k [], r)
  | n + 1, c :: r => match leafOf c with
    | some k => some (.node k [], r)
    | none => if c = 40 then
        match rdS n r with
        | some (a, d :: r1) => match signOf d with
          | some k => match rdS n r1 with
            | some (b, e :: r2) => if e = 41 then some (.node k [a, b], r2) else none
            | _ => none
          | none => none
        | _ => none
      else none
/-- Reading as the program does: n says how deep, R how many nodes. -/
def rdI : Nat → Nat → List UInt8 → Option (Ty × List UInt8 × Nat)
  | 0, _, _ => none
  | _ + 1, 0, _ => none
  | _ + 1, _ + 1, [] => none
  | n + 1, R + 1, c :: r => match leafOf c with
    | some k => some (.node k [], r, R)
    | none => if c = 40 then
        match rdI n R r with
        | some (a, d :: r1, R1) => match rdI n R1 r1 with
          | some (b, e :: r2, R2) => if e = 41 then
              match signOf d with
              | some k => some (.node k [a, b], r2, R2)
              | none => none
            else none
          | _ => none
        | _ => none
      else none
theorem leafOf_some {c : UInt8} {k : Int} (h : leafOf c = some k) : (Ty.node k []).form = true ∧ (Ty.node k []).tl = [c] ∧ (Ty.node k []).depth = 1 ∧ (Ty.node k []).size = 1 := by
  unfold leafOf at h
  split at h
  · rename_i hc; injection h with h; subst h; subst hc; exact ⟨rfl, rfl, rfl, rfl⟩
  · split at h
    · rename_i hc; injection h with h; subst h; subst hc; exact ⟨rfl, rfl, rfl, rfl⟩
    · split at h
      · rename_i hc; injection h with h; subst h; subst hc; exact ⟨rfl, rfl, rfl, rfl⟩
      · cases h
theorem signOf_some {c : UInt8} {k : Int} (h : signOf c = some k) : (k = 4 ∨ k = 5) ∧ ∀ a b : Ty, (Ty.node k [a, b]).tl = 40 :: (a.tl ++ c :: (b.tl ++ [41])) := by
  unfold signOf at h
  split at h
  · rename_i hc; injection h with h; subst h; subst hc; exact ⟨Or.inl rfl, Ty.tl_arrow⟩
  · split at h
    · rename_i hc; injection h with h; subst h; subst hc; exact ⟨Or.inr rfl, Ty.tl_pair⟩
    · cases h
theorem form_node {k : Int} {a b : Ty} (hk : k = 4 ∨ k = 5) (ha : a.form = true) (hb : b.form = true) : (Ty.node k [a, b]).form = true := by
  rcases hk with rfl | rfl <;> simp [Ty.form, Ty.forms, ha, hb, kindOk]
theorem depth_node (k : Int) (a b : Ty) : (Ty.node k [a, b]).depth = 1 + max a.depth b.depth := by
  simp [Ty.depth, Ty.depths]
theorem size_node (k : Int) (a b : Ty) : (Ty.node k [a, b]).size = 1 + (a.size + b.size) := by
  simp [Ty.size, Ty.sizes]
theorem rdS_sound : ∀ (n : Nat) (l : List UInt8) (t : Ty) (r : List UInt8), rdS n l = some (t, r) → t.form = true ∧ l = t.tl ++ r ∧ t.depth ≤ n + 1
  | 0, [], _, _, h => by cases h
  | _ + 1, [], _, _, h => by cases h
  | 0, c :: l, t, r, h => by
    simp only [rdS, Option.map_eq_some_iff] at h
    obtain ⟨k, hk, h⟩ := h
    injection h with h1 h2; subst h1; subst h2
    obtain ⟨f1, f2, f3, _⟩ := leafOf_some hk
    exact ⟨f1, by rw [f2]; rfl, by omega⟩
  | n + 1, c :: l, t, r, h => by
    unfold rdS at h
    split at h
    · rename_i k hk
      injection h with h; injection h with h1 h2; subst h1; subst h2
      obtain ⟨f1, f2, f3, _⟩ := leafOf_some hk
      exact ⟨f1, by rw [f2]; rfl, by omega⟩
    · split at h
      · rename_i hc; subst hc
        split at h
        · rename_i a d r1 ha
          split at h
          · rename_i k hk
            split at h
            · rename_i b e r2 hb
              split at h
              · rename_i he; subst he
                injection h with h; injection h with h1 h2; subst h1; subst h2
                obtain ⟨f1, f2, f3⟩ := rdS_sound n _ _ _ ha
                obtain ⟨g1, g2, g3⟩ := rdS_sound n _ _ _ hb
                obtain ⟨hk4, htl⟩ := signOf_some hk
                refine ⟨form_node hk4 f1 g1, ?_, by rw [depth_node]; omega⟩
                rw [htl, f2, g2]; simp
              · cases h
            · cases h
          · cases h
        · cases h
      · cases h
theorem rdI_sound : ∀ (n R : Nat) (l : List UInt8) (t : Ty) (r : List UInt8) (Q : Nat), rdI n R l = some (t, r, Q) → t.form = true ∧ l = t.tl ++ r ∧ t.depth ≤ n ∧ R = t.size + Q
  | 0, _, _, _, _, _, h => by cases h
  | _ + 1, 0, _, _, _, _, h => by cases h
  | _ + 1, _ + 1, [], _, _, _, h => by cases h
  | n + 1, R + 1, c :: l, t, r, Q, h => by
    unfold rdI at h
    split at h
    · rename_i k hk
      injection h with h; injection h with h1 h2; injection h2 with h2 h3; subst h1; subst h2; subst h3
      obtain ⟨f1, f2, f3, f4⟩ := leafOf_some hk
      exact ⟨f1, by rw [f2]; rfl, by omega, by omega⟩
    · split at h
      · rename_i hc; subst hc
        split at h
        · rename_i a d r1 R1 ha
          split at h
          · rename_i b e r2 R2 hb
            split at h
            · rename_i he; subst he
              split at h
              · rename_i k hk
                injection h with h; injection h with h1 h2; injection h2 with h2 h3; subst h1; subst h2; subst h3
                obtain ⟨f1, f2, f3, f4⟩ := rdI_sound n R _ _ _ _ ha
                obtain ⟨g1, g2, g3, g4⟩ := rdI_sound n R1 _ _ _ _ hb
                obtain ⟨hk4, htl⟩ := signOf_some hk
                refine ⟨form_node hk4 f1 g1, ?_, by rw [depth_node]; omega, by rw [size_node]; omega⟩
                rw [htl, f2, g2]; simp
              · cases h
            · cases h
          · cases h
        · cases h
      · cases h
theorem Ty.depth_one (t : Ty) : 1 ≤ t.depth := by cases t; simp [Ty.depth]
theorem leaf_or {t : Ty} (h : t.form = true) : (∃ c k, t = .node k [] ∧ leafOf c = some k ∧ t.tl = [c]) ∨ (∃ c k a b, t = .node k [a, b] ∧ signOf c = some k ∧ a.form = true ∧ b.form = true ∧ t.tl = 40 :: (a.tl ++ c :: (b.tl ++ [41]))) := by
  cases t with
  | node k ts =>
    have hk : kindOk k ts.length = true := by simp only [Ty.form, Bool.and_eq_true] at h; exact h.2
    unfold kindOk at hk
    split at hk
    · rename_i hl
      have h0 : ts = [] := List.length_eq_zero_iff.1 (of_decide_eq_true hk)
      subst h0
      rcases hl with rfl | rfl | rfl
      · exact Or.inl ⟨63, 1, rfl, rfl, rfl⟩
      · exact Or.inl ⟨78, 2, rfl, rfl, rfl⟩
      · exact Or.inl ⟨66, 3, rfl, rfl, rfl⟩
    · split at hk
      · rename_i hl
        have h2 : ts.length = 2 := of_decide_eq_true hk
        match ts, h2 with
        | [a, b], _ =>
          have hf := form_two h
          rcases hl with rfl | rfl
          · exact Or.inr ⟨62, 4, a, b, rfl, rfl, hf.1, hf.2, Ty.tl_arrow a b⟩
          · exact Or.inr ⟨42, 5, a, b, rfl, rfl, hf.1, hf.2, Ty.tl_pair a b⟩
      · cases hk
theorem leafOf_open : leafOf 40 = none := rfl
theorem rdS_full : ∀ (n : Nat) (t : Ty) (r : List UInt8), t.form = true → t.depth ≤ n + 1 → rdS n (t.tl ++ r) = some (t, r)
  | n, t, r, hf, hd => by
    rcases leaf_or hf with ⟨c, k, rfl, hk, htl⟩ | ⟨c, k, a, b, rfl, hk, ha, hb, htl⟩
    · rw [htl]
      cases n with
      | zero => simp [rdS, hk]
      | succ n => simp [rdS, hk]
    · rw [depth_node] at hd
      have h1 : 1 ≤ a.depth := a.depth_one
      cases n with
      | zero => omega
      | succ n =>
        have ea := rdS_full n a (c :: (b.tl ++ 41 :: r)) ha (by omega)
        have eb := rdS_full n b (41 :: r) hb (by omega)
        have e : (Ty.node k [a, b]).tl ++ r = 40 :: (a.tl ++ c :: (b.tl ++ 41 :: r)) := by rw [htl]; simp
        rw [e]
        simp only [rdS, leafOf_open, if_pos, ea, hk, eb]
theorem rdI_full : ∀ (n R : Nat) (t : Ty) (r : List UInt8), t.form = true → t.depth ≤ n → t.size ≤ R → rdI n R (t.tl ++ r) = some (t, r, R - t.size)
  | n, R, t, r, hf, hd, hs => by
    have h1 := t.depth_one
    have h2 := t.size_pos
    obtain ⟨n, rfl⟩ : ∃ m, n = m + 1 := ⟨n - 1, by omega⟩
    obtain ⟨R, rfl⟩ : ∃ m, R = m + 1 := ⟨R - 1, by omega⟩
    rcases leaf_or hf with ⟨c, k, rfl, hk, htl⟩ | ⟨c, k, a, b, rfl, hk, ha, hb, htl⟩
    · rw [htl]
      have hs1 : (Ty.node k []).size = 1 := rfl
      rw [hs1]
      simp [rdI, hk]
    · rw [depth_node] at hd
      rw [size_node] at hs
      have ea := rdI_full n R a (c :: (b.tl ++ 41 :: r)) ha (by omega) (by omega)
      have eb := rdI_full n (R - a.size) b (41 :: r) hb (by omega) (by omega)
      have e : (Ty.node k [a, b]).tl ++ r = 40 :: (a.tl ++ c :: (b.tl ++ 41 :: r)) := by rw [htl]; simp
      have e2 : R + 1 - (Ty.node k [a, b]).size = R - a.size - b.size := by rw [size_node]; omega
      rw [e, e2]
      simp only [rdI, leafOf_open, if_pos, ea, hk, eb]
/-- A text is the text of at most one well-formed type. -/
theorem Ty.text_inj {t u : Ty} (ht : t.form = true) (hu : u.form = true) (h : t.text = u.text) : t = u := by
  have e1 := rdS_full (t.depth + u.depth) t [] ht (by omega)
  have e2 := rdS_full (t.depth + u.depth) u [] hu (by omega)
  have : t.tl = u.tl := by unfold Ty.tl; rw [h]
  rw [this] at e1
  rw [e1] at e2
  injection e2 with e2
  injection e2
theorem tl_text {s : ByteArray} {t : Ty} (h : s.data.toList = t.tl) : s = t.text := by
  have : s.data = t.text.data := Array.toList_inj.1 h
  cases s; cases ht : t.text; rw [ht] at this; simp at this; rw [this]
theorem valid_form {t : Ty} (h : t.valid = true) : t.form = true := by simp only [Ty.valid, Bool.and_eq_true] at h; exact h.2
theorem valid_size {t : Ty} (h : t.valid = true) : t.size ≤ 800 := by simp only [Ty.valid, Bool.and_eq_true, decide_eq_true_eq] at h; exact h.1.1
theorem valid_depth {t : Ty} (h : t.valid = true) : t.depth ≤ 24 := by simp only [Ty.valid, Bool.and_eq_true, decide_eq_true_eq] at h; exact h.1.2
theorem valid_of {t : Ty} (h1 : t.form = true) (h2 : t.size ≤ 800) (h3 : t.depth ≤ 24) : t.valid = true := by simp [Ty.valid, h1, h2, h3]
/-- What a text reads as: a valid type with that text. -/
def TyReads (s : ByteArray) (t : Ty) : Prop := t.valid = true ∧ t.text = s
theorem TyReads.inj {s : ByteArray} {t u : Ty} (h : TyReads s t) (g : TyReads s u) : t = u := Ty.text_inj (valid_form h.1) (valid_form g.1) (by rw [h.2, g.2])
theorem reads_S {s : ByteArray} {t : Ty} (hf : formatText t = s) (hs : s ≠ ⟨#[]⟩) : TyReads s t := by
  cases hv : t.valid with
  | false => rw [format_bad hv] at hf; exact absurd hf.symm hs
  | true => exact ⟨hv, by rw [← format_good hv]; exact hf⟩
theorem S_reads {s : ByteArray} {t : Ty} (h : TyReads s t) : rdS 24 s.data.toList = some (t, []) ∧ formatText t = s := by
  have e := rdS_full 24 t [] (valid_form h.1) (by have := valid_depth h.1; omega)
  rw [List.append_nil] at e
  refine ⟨?_, by rw [format_good h.1, h.2]⟩
  rw [← h.2]; exact e
theorem I_reads {s : ByteArray} {t : Ty} (h : TyReads s t) : rdI 24 800 s.data.toList = some (t, [], 800 - t.size) := by
  have e := rdI_full 24 800 t [] (valid_form h.1) (valid_depth h.1) (valid_size h.1)
  rw [List.append_nil] at e
  rw [← h.2]; exact e
theorem reads_I {s : ByteArray} {t : Ty} {Q : Nat} (h : rdI 24 800 s.data.toList = some (t, [], Q)) : TyReads s t := by
  obtain ⟨h1, h2, h3, h4⟩ := rdI_sound 24 800 _ _ _ _ h
  rw [List.append_nil] at h2
  exact ⟨valid_of h1 (by omega) h3, (tl_text h2).symm⟩
end Go.Proofs.Ytgoohelkgaklgaa
