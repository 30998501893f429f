/-
  Proved: plain facts on the free variables of an expression: as the reference unites them and as the program collects them.
-/
import Derived.Test.YtefoenkmppeidaaExTree
import Derived.Test.YtefoenkmppeidaaSeen
import Derived.Test.YtefoenkmppeidaaWithoutS
namespace Go.Proofs.Ytefoenkmppeidaa
open Go.RowKit

mutual
/-- The free variables, as the reference has them. -/
def Ex.free : Ex → List ByteArray
  | .node k nm _ _ es => if k = 2 then [nm] else if k = 3 then without (Ex.frees [] es) nm else Ex.frees [] es
def Ex.frees : List ByteArray → List Ex → List ByteArray
  | acc, [] => acc
  | acc, e :: r => Ex.frees (addAll (addAll [] acc) e.free) r
end
/-- A function around with this parameter more. -/
def bump (c : ByteArray → Int) (nm : ByteArray) : ByteArray → Int := fun x => if x = nm then c x + 1 else c x
mutual
/-- The free variables, as the program collects them. -/
def Ex.coll (acc : List ByteArray) (c : ByteArray → Int) : Ex → List ByteArray
  | .node k nm _ _ es => if k = 2 then (if 0 < c nm then acc else addN acc nm) else Ex.colls acc (if k = 3 then bump c nm else c) es
def Ex.colls (acc : List ByteArray) (c : ByteArray → Int) : List Ex → List ByteArray
  | [] => acc
  | e :: r => Ex.colls (e.coll acc c) c r
end
theorem addN_mem (L : List ByteArray) (x : ByteArray) : x ∈ addN L x := by
  unfold addN
  split
  · rename_i h; exact (seenB_mem L x).1 h
  · simp
theorem addN_old {L : List ByteArray} {x : ByteArray} (h : x ∈ L) : addN L x = L := by
  unfold addN
  rw [if_pos ((seenB_mem L x).2 h)]
theorem addN_new {L : List ByteArray} {x : ByteArray} (h : x ∉ L) : addN L x = L ++ [x] := by
  unfold addN
  rw [if_neg (fun e => h ((seenB_mem L x).1 e))]
theorem addAll_sub : ∀ (l L : List ByteArray) (y : ByteArray), y ∈ L → y ∈ addAll L l
  | [], _, _, h => h
  | x :: r, L, y, h => by
    refine addAll_sub r (addN L x) y ?_
    by_cases hx : x ∈ L
    · rw [addN_old hx]; exact h
    · rw [addN_new hx]; simp [h]
theorem addAll_has : ∀ (l L : List ByteArray) (y : ByteArray), y ∈ l → y ∈ addAll L l
  | [], _, _, h => by cases h
  | x :: r, L, y, h => by
    rcases List.mem_cons.1 h with rfl | h
    · exact addAll_sub r _ _ (addN_mem L _)
    · exact addAll_has r _ y h
theorem addAll_append : ∀ (a b L : List ByteArray), addAll L (a ++ b) = addAll (addAll L a) b
  | [], _, _ => rfl
  | x :: r, b, L => by
    show addAll (addN L x) (r ++ b) = _
    rw [addAll_append r b (addN L x)]; rfl
theorem addAll_addN (acc L : List ByteArray) (x : ByteArray) : addAll acc (addN L x) = addN (addAll acc L) x := by
  by_cases h : x ∈ L
  · rw [addN_old h, addN_old (addAll_has L acc x h)]
  · rw [addN_new h, addAll_append]; rfl
theorem addAll_addAll : ∀ (l acc L : List ByteArray), addAll acc (addAll L l) = addAll (addAll acc L) l
  | [], _, _ => rfl
  | x :: r, acc, L => by
    show addAll acc (addAll (addN L x) r) = addAll (addN (addAll acc L) x) r
    rw [addAll_addAll r acc (addN L x), addAll_addN]
theorem filter_addN (p : ByteArray → Bool) (L : List ByteArray) (x : ByteArray) : (addN L x).filter p = if p x then addN (L.filter p) x else L.filter p := by
  by_cases h : x ∈ L
  · rw [addN_old h]
    split
    · rename_i hp; rw [addN_old (List.mem_filter.2 ⟨h, hp⟩)]
    · rfl
  · rw [addN_new h, List.filter_append]
    split
    · rename_i hp; rw [addN_new (fun e => h (List.mem_filter.1 e).1)]; simp [hp]
    · rename_i hp; simp [hp]
theorem filter_addAll (p : ByteArray → Bool) : ∀ (l L : List ByteArray), (addAll L l).filter p = addAll (L.filter p) (l.filter p)
  | [], _ => rfl
  | x :: r, L => by
    show (addAll (addN L x) r).filter p = _
    rw [filter_addAll p r (addN L x), filter_addN]
    cases hp : p x with
    | true => rw [List.filter_cons_of_pos hp]; rfl
    | false => rw [List.filter_cons_of_neg (by simp [hp])]; rfl
theorem without_filter (s : ByteArray) : ∀ l : List ByteArray, without l s = l.filter (fun x => decide (x ≠ s))
  | [] => rfl
  | x :: r => by
    by_cases h : x = s
    · subst h
      simp [without, without_filter x r]
    · have h2 : (x.toList == s.toList) = false := by
        rw [beq_eq_false_iff_ne]; intro e; exact h (list_inj e)
      simp [without, h2, h, without_filter s r]
def unbound (c : ByteArray → Int) : ByteArray → Bool := fun x => decide (c x ≤ 0)
theorem unbound_bump {c : ByteArray → Int} (hc : ∀ x, 0 ≤ c x) (nm : ByteArray) (l : List ByteArray) : l.filter (unbound (bump c nm)) = (without l nm).filter (unbound c) := by
  rw [without_filter, List.filter_filter]
  congr 1
  funext x
  have := hc x
  show decide (bump c nm x ≤ 0) = (decide (c x ≤ 0) && decide (x ≠ nm))
  rw [Bool.eq_iff_iff]
  simp only [decide_eq_true_eq, Bool.and_eq_true]
  by_cases h : x = nm
  · have e : bump c nm x = c x + 1 := if_pos h
    rw [e]
    exact ⟨fun h2 => by omega, fun h2 => absurd h h2.2⟩
  · have e : bump c nm x = c x := if_neg h
    rw [e]
    exact ⟨fun h2 => ⟨h2, h⟩, fun h2 => h2.1⟩
theorem bump_pos {c : ByteArray → Int} (hc : ∀ x, 0 ≤ c x) (nm : ByteArray) : ∀ x, 0 ≤ bump c nm x := fun x => by
  have := hc x
  unfold bump; split <;> omega
mutual
theorem Ex.coll_free : ∀ (t : Ex) (acc : List ByteArray) (c : ByteArray → Int), (∀ x, 0 ≤ c x) → t.coll acc c = addAll acc (t.free.filter (unbound c))
  | .node k nm n ty es, acc, c, hc => by
    by_cases h2 : k = 2
    · simp only [Ex.coll, Ex.free, if_pos h2]
      by_cases h : 0 < c nm
      · rw [if_pos h, List.filter_cons_of_neg (by simp [unbound]; omega)]; rfl
      · rw [if_neg h, List.filter_cons_of_pos (by simp [unbound]; omega)]; rfl
    · simp only [Ex.coll, Ex.free, if_neg h2]
      by_cases h3 : k = 3
      · rw [if_pos h3, if_pos h3, ← unbound_bump hc, Ex.colls_frees es [] acc _ (bump_pos hc nm)]; rfl
      · rw [if_neg h3, if_neg h3, Ex.colls_frees es [] acc c hc]; rfl
theorem Ex.colls_frees : ∀ (es : List Ex) (L acc : List ByteArray) (c : ByteArray → Int), (∀ x, 0 ≤ c x) → addAll acc ((Ex.frees L es).filter (unbound c)) = Ex.colls (addAll acc (L.filter (unbound c))) c es
  | [], _, _, _, _ => rfl
  | e :: r, L, acc, c, hc => by
    simp only [Ex.frees, Ex.colls]
    rw [Ex.colls_frees r _ acc c hc, Ex.coll_free e _ c hc, filter_addAll, filter_addAll, addAll_addAll, addAll_addAll]
    rfl
end
/-- What has been united already stays. -/
theorem Ex.frees_made : ∀ (es : List Ex) (L : List ByteArray), (∃ X, L = addAll [] X) → ∃ X, Ex.frees L es = addAll [] X
  | [], L, h => h
  | e :: r, L, _ => by
    simp only [Ex.frees]
    exact Ex.frees_made r _ ⟨L ++ e.free, by rw [addAll_append]⟩
theorem Ex.free_made (t : Ex) : addAll [] t.free = t.free := by
  cases t with
  | node k nm n ty es =>
    obtain ⟨X, hX⟩ := Ex.frees_made es [] ⟨[], rfl⟩
    have hid : addAll [] (addAll [] X) = addAll [] X := addAll_addAll X [] []
    simp only [Ex.free]
    split
    · show addN [] nm = _
      rw [addN_new (by simp)]; rfl
    · split
      · rw [hX, without_filter]
        have h := filter_addAll (fun x => decide (x ≠ nm)) (addAll [] X) []
        rw [hid] at h
        exact h.symm
      · rw [hX, hid]
theorem Ex.coll_start (t : Ex) : t.coll [] (fun _ => 0) = t.free := by
  rw [t.coll_free [] _ (fun _ => Int.le_refl 0)]
  have e : t.free.filter (unbound fun _ => 0) = t.free := List.filter_eq_self.2 (fun x _ => by simp [unbound])
  rw [e, t.free_made]
end Go.Proofs.Ytefoenkmppeidaa
