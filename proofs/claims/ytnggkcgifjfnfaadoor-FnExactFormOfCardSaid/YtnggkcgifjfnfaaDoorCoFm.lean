/-
  Proved: plain facts on the form of a result: none (0), value (1), open (2); no program.
-/
import Derived.Test.YtnggkcgifjfnfaaDoorCoForm
import Derived.Test.YtnggkcgifjfnfaaDoorCoBoxed
namespace Go.Proofs.YtnggkcgifjfnfaaDoor
open Go.RowKit

def Ty.kd : Ty → Int
  | .node k _ => k
def Co.kd : Co → Int
  | .node k _ _ _ _ _ _ _ => k
/-- A cast from a type of kind k to another one of that kind. -/
def Co.btw (k : Int) : Co → Bool
  | .node kd _ _ fr ty _ _ _ => decide (kd = 14) && (decide (fr.kd = k) && decide (ty.kd = k))
def hasF (v : Int) : List Int → Bool
  | [] => false
  | x :: r => decide (x = v) || hasF v r
def opn (b : Bool) : Int := if b then 2 else 0
/-- The form of several parts together. -/
def allF (l : List Int) : Int := if hasF 0 l then 0 else if hasF 2 l then 2 else 1
def btwT (fr ty : Ty) : Bool := (decide (fr.kd = 4) && decide (ty.kd = 4)) || (decide (fr.kd = 5) && decide (ty.kd = 5))
def boxT (fr ty : Ty) : Bool := (fr.valid && fr.beq fr.ground) && ty.beq (.node 1 [])
def grdT (t : Ty) : Bool := t.valid && t.beq t.ground
def castF (fr ty : Ty) (box0 : Bool) (own : Int) : Int :=
  if (btwT fr ty && !fr.beq ty) || boxT fr ty then own else opn (decide (own = 2) && (decide (fr.kd = 1) && (grdT ty && !box0)))
def fmNode (k : Int) (fr ty : Ty) (es : List Co) (fs gs : List Int) : Int :=
  if k = 6 ∨ k = 9 ∨ k = 4 then 1
  else if k = 1 ∨ k = 2 ∨ k = 15 then opn (!hasF 0 (fs ++ gs))
  else if k = 11 then allF fs
  else match es, fs with
    | [a], [f] => if k = 14 then castF fr ty a.boxB f else if k = 12 ∨ k = 13 then opn (decide (f = 2) && (!decide (a.kd = 11) && !a.btw 5)) else 0
    | [a, b], fs => if k = 7 ∨ k = 8 then opn (!hasF 0 fs && !(decide (a.kd = 6) && decide (b.kd = 6))) else if k = 5 then opn (!hasF 0 fs && (!decide (a.kd = 4) && !a.btw 4)) else 0
    | [_, _, _], f :: _ => if k = 10 then opn (decide (f = 2)) else 0
    | _, _ => 0
mutual
def Co.fm : Co → Int
  | .node k _ _ fr ty es _ vs => fmNode k fr ty es (Co.fms es) (Co.fms vs)
def Co.fms : List Co → List Int
  | [] => []
  | e :: r => e.fm :: Co.fms r
end
theorem Co.fms_length (es : List Co) : (Co.fms es).length = es.length := by
  induction es with
  | nil => simp [Co.fms]
  | cons a r ih => simp [Co.fms, ih]
theorem Co.fms_get (es : List Co) : ∀ (k : Nat) (h : k < es.length), (Co.fms es)[k]? = some es[k].fm := by
  induction es with
  | nil => intro k h; simp at h
  | cons a r ih =>
    intro k h
    cases k with
    | zero => simp [Co.fms]
    | succ k => simp only [Co.fms, List.getElem?_cons_succ, List.getElem_cons_succ]; exact ih k (by simpa using h)
theorem Co.fms_append (es fs : List Co) : Co.fms (es ++ fs) = Co.fms es ++ Co.fms fs := by
  induction es with
  | nil => simp [Co.fms]
  | cons a r ih => simp [Co.fms, ih]
theorem hasF_append (v : Int) (l m : List Int) : hasF v (l ++ m) = (hasF v l || hasF v m) := by
  induction l with
  | nil => rfl
  | cons a r ih => simp only [List.cons_append, hasF, ih, Bool.or_assoc]
theorem Co.fms_take (es : List Co) (v : Int) : ∀ k (h : k < es.length), hasF v (Co.fms (es.take (k + 1))) = (hasF v (Co.fms (es.take k)) || decide (es[k].fm = v)) := by
  induction es with
  | nil => intro k h; simp at h
  | cons s r ih =>
    intro k h
    cases k with
    | zero => simp [Co.fms, hasF]
    | succ k =>
      simp only [List.take_succ_cons, Co.fms, hasF, List.getElem_cons_succ]
      rw [ih k (by simpa using h), Bool.or_assoc]
theorem Co.fms_hit (es : List Co) (k : Nat) (h : k < es.length) (v : Int) (hv : es[k].fm = v) : hasF v (Co.fms es) = true := by
  induction es generalizing k with
  | nil => simp at h
  | cons s r ih =>
    cases k with
    | zero => simp only [List.getElem_cons_zero] at hv; simp [Co.fms, hasF, hv]
    | succ k => simp only [List.getElem_cons_succ] at hv; simp only [Co.fms, hasF]; rw [ih k (by simpa using h) hv, Bool.or_true]
theorem opn_range (b : Bool) : opn b = 0 ∨ opn b = 1 ∨ opn b = 2 := by cases b <;> simp [opn]
theorem allF_range (l : List Int) : allF l = 0 ∨ allF l = 1 ∨ allF l = 2 := by
  unfold allF
  cases hasF 0 l <;> cases hasF 2 l <;> simp
theorem castF_range (fr ty : Ty) (b : Bool) {f : Int} (h : f = 0 ∨ f = 1 ∨ f = 2) : castF fr ty b f = 0 ∨ castF fr ty b f = 1 ∨ castF fr ty b f = 2 := by
  unfold castF
  split
  · exact h
  · exact opn_range _
mutual
theorem Co.fm_range : ∀ t : Co, t.fm = 0 ∨ t.fm = 1 ∨ t.fm = 2
  | .node k _ _ fr ty es _ vs => by
    have ih := Co.fms_range es
    simp only [Co.fm]
    unfold fmNode
    split
    · exact Or.inr (Or.inl rfl)
    · split
      · exact opn_range _
      · split
        · exact allF_range _
        · split
          · rename_i a f hfs
            rw [hfs] at ih
            split
            · exact castF_range _ _ _ (ih f (by simp))
            · split
              · exact opn_range _
              · exact Or.inl rfl
          · split
            · exact opn_range _
            · split
              · exact opn_range _
              · exact Or.inl rfl
          · split
            · exact opn_range _
            · exact Or.inl rfl
          · exact Or.inl rfl
theorem Co.fms_range : ∀ (es : List Co) (f : Int), f ∈ Co.fms es → f = 0 ∨ f = 1 ∨ f = 2
  | [], f, h => by simp [Co.fms] at h
  | e :: r, f, h => by
    simp only [Co.fms, List.mem_cons] at h
    rcases h with h | h
    · rw [h]; exact Co.fm_range e
    · exact Co.fms_range r f h
end
theorem allF_of {l : List Int} {a c : Bool} (ha : hasF 0 l = a) (hc : hasF 2 l = c) : allF l = if a then 0 else if c then 2 else 1 := by
  unfold allF; rw [ha, hc]
/-- Which Args a kind has. -/
theorem co_arity {k : Int} {nm : ByteArray} {n : Int} {fr ty : Ty} {es : List Co} {ns : List ByteArray} {vs : List Co} (h : (Co.node k nm n fr ty es ns vs).form = true) : (es.length : Int) = coArity k := by
  simp only [Co.form, Bool.and_eq_true, decide_eq_true_eq] at h
  exact h.2.2.2
theorem co_forms {k : Int} {nm : ByteArray} {n : Int} {fr ty : Ty} {es : List Co} {ns : List ByteArray} {vs : List Co} (h : (Co.node k nm n fr ty es ns vs).form = true) : Co.forms es = true ∧ Co.forms vs = true := by
  simp only [Co.form, Bool.and_eq_true] at h
  exact ⟨h.1, h.2.2.1.2.1⟩
theorem co_env {k : Int} {nm : ByteArray} {n : Int} {fr ty : Ty} {es : List Co} {ns : List ByteArray} {vs : List Co} (h : (Co.node k nm n fr ty es ns vs).form = true) (h1 : k ≠ 1) (h2 : k ≠ 2) : ns.length = 0 := by
  simp only [Co.form, Bool.and_eq_true, envK, boundB, Bool.or_eq_true, decide_eq_true_eq] at h
  rcases h.2.2.1.2.2 with h | h | h
  · exact h
  · exact absurd h h1
  · exact absurd h h2
theorem co_kind {k : Int} {nm : ByteArray} {n : Int} {fr ty : Ty} {es : List Co} {ns : List ByteArray} {vs : List Co} (h : (Co.node k nm n fr ty es ns vs).form = true) : 1 ≤ k ∧ k ≤ 15 := by
  have e := co_arity h
  by_cases hk : 1 ≤ k ∧ k ≤ 15
  · exact hk
  · rw [coArity_out hk] at e; omega
theorem co_types {k : Int} {nm : ByteArray} {n : Int} {fr ty : Ty} {es : List Co} {ns : List ByteArray} {vs : List Co} (h : (Co.node k nm n fr ty es ns vs).form = true) (hk : k = 14) : fr.valid = true ∧ ty.valid = true := by
  subst hk
  simp only [Co.form, coFieldsB, coTypesB, coTyFor, srcB, tgtB, Bool.and_eq_true] at h
  have h2 := h.2.1.2.1
  simpa using h2
theorem xlen_one {α : Type} {l : List α} (h : l.length = 1) : ∃ a, l = [a] := by
  match l, h with
  | [a], _ => exact ⟨a, rfl⟩
theorem xlen_two {α : Type} {l : List α} (h : l.length = 2) : ∃ a b, l = [a, b] := by
  match l, h with
  | [a, b], _ => exact ⟨a, b, rfl⟩
theorem xlen_three {α : Type} {l : List α} (h : l.length = 3) : ∃ a b c, l = [a, b, c] := by
  match l, h with
  | [a, b, c], _ => exact ⟨a, b, c, rfl⟩
/-- A type of kind 1 is just the unknown type if it is valid. -/
theorem beq_unknown {t : Ty} (h : t.valid = true) : t.beq (.node 1 []) = decide (t.kd = 1) := by
  cases t with
  | node k ts =>
    simp only [Ty.valid, Ty.form, Bool.and_eq_true] at h
    have hk := h.2.2
    simp only [Ty.kd]
    by_cases q : k = 1
    · subst q
      have hl : ts = [] := by
        simp [kindOk] at hk
        exact hk
      subst hl
      simp [Ty.beq, Ty.beqs]
    · simp [Ty.beq, q]
theorem grd_unknown {t : Ty} (h : t.kd = 1) : grdT t = false := by
  cases t with
  | node k ts =>
    simp only [Ty.kd] at h
    subst h
    have h1 : (Ty.node 1 ts).ground = .node 0 [] := by
      cases hv : (Ty.node 1 ts).valid <;> simp [Ty.ground]
    have h2 : (Ty.node 1 ts).beq (.node 0 []) = false := by
      unfold Ty.beq
      rfl
    unfold grdT
    rw [h1, h2, Bool.and_false]
end Go.Proofs.YtnggkcgifjfnfaaDoor
