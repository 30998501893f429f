/-
  Proved: plain facts on the free variables of a core expression: as the reference unites them and as the program collects them; how many there can be.
-/
import Derived.Test.YtefoenkmppeidaaCoTree
import Derived.Test.YtefoenkmppeidaaFreeTake
namespace Go.Proofs.Ytefoenkmppeidaa
open Go.RowKit

mutual
/-- The free variables, as the reference has them. -/
def Co.free : Co → List ByteArray
  | .node k nm _ _ _ es _ vs => if k = 3 then [nm] else if k = 4 then without (Co.frees (Co.frees [] es) vs) nm else Co.frees (Co.frees [] es) vs
def Co.frees : List ByteArray → List Co → List ByteArray
  | acc, [] => acc
  | acc, e :: r => Co.frees (addAll (addAll [] acc) e.free) r
end
mutual
/-- The free variables, as the program collects them. -/
def Co.coll (acc : List ByteArray) (c : ByteArray → Int) : Co → List ByteArray
  | .node k nm _ _ _ es _ vs => if k = 3 then (if 0 < c nm then acc else addN acc nm) else Co.colls (Co.colls acc (if k = 4 then bump c nm else c) es) (if k = 4 then bump c nm else c) vs
def Co.colls (acc : List ByteArray) (c : ByteArray → Int) : List Co → List ByteArray
  | [] => acc
  | e :: r => Co.colls (e.coll acc c) c r
end
mutual
theorem Co.coll_free : ∀ (t : Co) (acc : List ByteArray) (c : ByteArray → Int), (∀ x, 0 ≤ c x) → t.coll acc c = addAll acc (t.free.filter (unbound c))
  | .node k nm n fr ty es ns vs, acc, c, hc => by
    by_cases h2 : k = 3
    · simp only [Co.coll, Co.free, if_pos h2]
      by_cases h : 0 < c nm
      · rw [if_pos h, List.filter_cons_of_neg (by simp [unbound]; omega)]; rfl
      · rw [if_neg h, List.filter_cons_of_pos (by simp [unbound]; omega)]; rfl
    · simp only [Co.coll, Co.free, if_neg h2]
      by_cases h3 : k = 4
      · rw [if_pos h3, if_pos h3, ← unbound_bump hc, Co.colls_frees vs (Co.frees [] es) acc _ (bump_pos hc nm), Co.colls_frees es [] acc _ (bump_pos hc nm)]; rfl
      · rw [if_neg h3, if_neg h3, Co.colls_frees vs (Co.frees [] es) acc c hc, Co.colls_frees es [] acc c hc]; rfl
theorem Co.colls_frees : ∀ (es : List Co) (L acc : List ByteArray) (c : ByteArray → Int), (∀ x, 0 ≤ c x) → addAll acc ((Co.frees L es).filter (unbound c)) = Co.colls (addAll acc (L.filter (unbound c))) c es
  | [], _, _, _, _ => rfl
  | e :: r, L, acc, c, hc => by
    simp only [Co.frees, Co.colls]
    rw [Co.colls_frees r _ acc c hc, Co.coll_free e _ c hc, filter_addAll, filter_addAll, addAll_addAll, addAll_addAll]
    rfl
end
theorem Co.frees_made : ∀ (es : List Co) (L : List ByteArray), (∃ X, L = addAll [] X) → ∃ X, Co.frees L es = addAll [] X
  | [], L, h => h
  | e :: r, L, _ => by
    simp only [Co.frees]
    exact Co.frees_made r _ ⟨L ++ e.free, by rw [addAll_append]⟩
theorem Co.free_made (t : Co) : addAll [] t.free = t.free := by
  cases t with
  | node k nm n fr ty es ns vs =>
    obtain ⟨X, hX⟩ := Co.frees_made vs (Co.frees [] es) (Co.frees_made es [] ⟨[], rfl⟩)
    have hid : addAll [] (addAll [] X) = addAll [] X := addAll_addAll X [] []
    simp only [Co.free]
    split
    · show addN [] nm = _
      rw [addN_new (by simp)]; rfl
    · split
      · rw [hX, without_filter]
        have h := filter_addAll (fun x => decide (x ≠ nm)) (addAll [] X) []
        rw [hid] at h
        exact h.symm
      · rw [hX, hid]
theorem Co.coll_start (t : Co) : t.coll [] (fun _ => 0) = t.free := by
  rw [t.coll_free [] _ (fun _ => Int.le_refl 0)]
  have e : t.free.filter (unbound fun _ => 0) = t.free := List.filter_eq_self.2 (fun x _ => by simp [unbound])
  rw [e, t.free_made]
theorem Co.frees_take : ∀ (es : List Co) (L : List ByteArray) (k : Nat) (h : k < es.length), Co.frees L (es.take (k + 1)) = addAll (addAll [] (Co.frees L (es.take k))) es[k].free
  | [], _, _, h => by simp at h
  | e :: r, L, 0, _ => by simp [Co.frees]
  | e :: r, L, k + 1, h => by
    simp only [List.take_succ_cons, Co.frees, List.getElem_cons_succ]
    exact Co.frees_take r _ k (by simpa using h)
theorem Co.colls_take : ∀ (es : List Co) (acc : List ByteArray) (c : ByteArray → Int) (k : Nat) (h : k < es.length), Co.colls acc c (es.take (k + 1)) = es[k].coll (Co.colls acc c (es.take k)) c
  | [], _, _, _, h => by simp at h
  | e :: r, acc, c, 0, _ => by simp [Co.colls]
  | e :: r, acc, c, k + 1, h => by
    simp only [List.take_succ_cons, Co.colls, List.getElem_cons_succ]
    exact Co.colls_take r _ c k (by simpa using h)
mutual
theorem Co.free_few : ∀ t : Co, t.free.length ≤ 1 + t.bulk
  | .node k nm n fr ty es ns vs => by
    have h := Co.frees_few es []
    have h1 := Co.frees_few vs (Co.frees [] es)
    have hb : (Co.node k nm n fr ty es ns vs).bulk = nm.size + (fr.size - 1) + (ty.size - 1) + Co.bulks es + (txs ns + Co.bulks vs) := rfl
    have h2 : (Co.frees [] es).length ≤ Co.bulks es := by simpa using h
    simp only [Co.free]
    split
    · simp
    · split
      · have := without_few nm (Co.frees (Co.frees [] es) vs); omega
      · omega
theorem Co.frees_few : ∀ (es : List Co) (L : List ByteArray), (Co.frees L es).length ≤ L.length + Co.bulks es
  | [], L => by simp [Co.frees, Co.bulks]
  | e :: r, L => by
    simp only [Co.frees, Co.bulks]
    have h1 := Co.frees_few r (addAll (addAll [] L) e.free)
    have h2 := addAll_few e.free (addAll [] L)
    have h3 := addAll_few L []
    have h4 := Co.free_few e
    simp only [List.length_nil] at h3
    omega
end
mutual
theorem Co.coll_few : ∀ (t : Co) (acc : List ByteArray) (c : ByteArray → Int), (t.coll acc c).length ≤ acc.length + (1 + t.bulk)
  | .node k nm n fr ty es ns vs, acc, c => by
    have hb : (Co.node k nm n fr ty es ns vs).bulk = nm.size + (fr.size - 1) + (ty.size - 1) + Co.bulks es + (txs ns + Co.bulks vs) := rfl
    simp only [Co.coll]
    split
    · split
      · omega
      · have := addN_few acc nm; omega
    · have h1 := Co.colls_few es acc (if k = 4 then bump c nm else c)
      have h2 := Co.colls_few vs (Co.colls acc (if k = 4 then bump c nm else c) es) (if k = 4 then bump c nm else c)
      omega
theorem Co.colls_few : ∀ (es : List Co) (acc : List ByteArray) (c : ByteArray → Int), (Co.colls acc c es).length ≤ acc.length + Co.bulks es
  | [], acc, c => by simp [Co.colls, Co.bulks]
  | e :: r, acc, c => by
    simp only [Co.colls, Co.bulks]
    have h1 := Co.colls_few r (e.coll acc c) c
    have h2 := Co.coll_few e acc c
    omega
end
end Go.Proofs.Ytefoenkmppeidaa
