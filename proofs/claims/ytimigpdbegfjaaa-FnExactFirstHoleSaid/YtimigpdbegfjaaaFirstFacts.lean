/-
  Proved: plain facts on the first hole of an expression and its path; no program.
-/
import Derived.Test.YtimigpdbegfjaaaExPaths
import Derived.Test.YtimigpdbegfjaaaSubEx
namespace Go.Proofs.Ytimigpdbegfjaaa
open Go.RowKit

def Ex.kd : Ex → Int
  | .node k _ _ _ _ => k
mutual
/-- All nodes, each with its path. -/
def Ex.pn : Ex → List Int → List (List Int × Ex)
  | .node k nm n ty es, ps => (ps, .node k nm n ty es) :: Ex.pns es ps 0
def Ex.pns : List Ex → List Int → Nat → List (List Int × Ex)
  | [], _, _ => []
  | e :: r, ps, k => e.pn (ps ++ [(k : Int)]) ++ Ex.pns r ps (k + 1)
end
theorem Ex.pns_append : ∀ (a b : List Ex) (ps : List Int) (n : Nat), Ex.pns (a ++ b) ps n = Ex.pns a ps n ++ Ex.pns b ps (n + a.length)
  | [], b, ps, n => by simp [Ex.pns]
  | e :: r, b, ps, n => by
    simp only [List.cons_append, Ex.pns, List.length_cons, List.append_assoc]
    rw [Ex.pns_append r b ps (n + 1), show n + 1 + r.length = n + (r.length + 1) from by omega]
theorem Ex.pns_take (es : List Ex) (ps : List Int) (k : Nat) (h : k < es.length) : Ex.pns (es.take (k + 1)) ps 0 = Ex.pns (es.take k) ps 0 ++ es[k].pn (ps ++ [(k : Int)]) := by
  rw [List.take_succ_eq_append_getElem h, Ex.pns_append]
  simp only [Ex.pns, List.append_nil, List.length_take, Nat.zero_add, Nat.min_eq_left (Nat.le_of_lt h)]
theorem Ex.pns_whole (es : List Ex) (ps : List Int) (k : Nat) : ∃ r, Ex.pns es ps 0 = Ex.pns (es.take k) ps 0 ++ r := by
  refine ⟨Ex.pns (es.drop k) ps (0 + (es.take k).length), ?_⟩
  rw [← Ex.pns_append, List.take_append_drop]
mutual
theorem Ex.pn_paths : ∀ (e : Ex) (ps : List Int), (e.pn ps).map Prod.fst = e.paths ps
  | .node k nm n ty es, ps => by
    simp only [Ex.pn, Ex.paths, List.map_cons, Ex.pns_paths es ps 0]
theorem Ex.pns_paths : ∀ (es : List Ex) (ps : List Int) (k : Nat), (Ex.pns es ps k).map Prod.fst = Ex.pathss es ps k
  | [], _, _ => by simp [Ex.pns, Ex.pathss]
  | e :: r, ps, k => by
    simp only [Ex.pns, Ex.pathss, List.map_append, Ex.pn_paths e, Ex.pns_paths r]
end
theorem Ex.sub_snoc : ∀ (ps : List Int) (r e x : Ex) (k : Nat), r.sub ps = some e → e.parts[k]? = some x → r.sub (ps ++ [(k : Int)]) = some x
  | [], r, e, x, k, h, hx => by
    rw [sub_nil] at h
    injection h with h
    subst h
    obtain ⟨hk, rfl⟩ := List.getElem?_eq_some_iff.1 hx
    rw [List.nil_append, sub_step (by omega) (by simpa using hk), sub_nil]
    simp
  | p :: q, r, e, x, k, h, hx => by
    rw [List.cons_append]
    unfold Ex.sub at h ⊢
    split at h
    · rename_i h0
      rw [if_pos h0]
      split at h
      · rename_i y hy
        exact Ex.sub_snoc q y e x k h hx
      · cases h
    · cases h
mutual
theorem Ex.pn_sub : ∀ (e r : Ex) (ps : List Int), r.sub ps = some e → ∀ x, x ∈ e.pn ps → r.sub x.1 = some x.2
  | .node k nm n ty es, r, ps, h, x, hx => by
    simp only [Ex.pn, List.mem_cons] at hx
    rcases hx with rfl | hx
    · exact h
    · exact Ex.pns_sub es r ps 0 (fun j hj => Ex.sub_snoc ps r _ _ (0 + j) h (by show es[0 + j]? = _; rw [Nat.zero_add]; exact List.getElem?_eq_getElem hj)) x hx
theorem Ex.pns_sub : ∀ (es : List Ex) (r : Ex) (ps : List Int) (n : Nat), (∀ j (h : j < es.length), r.sub (ps ++ [((n + j : Nat) : Int)]) = some es[j]) → ∀ x, x ∈ Ex.pns es ps n → r.sub x.1 = some x.2
  | [], _, _, _, _, x, hx => by simp [Ex.pns] at hx
  | e :: q, r, ps, n, h, x, hx => by
    simp only [Ex.pns, List.mem_append] at hx
    rcases hx with hx | hx
    · exact Ex.pn_sub e r _ (h 0 (by simp)) x hx
    · exact Ex.pns_sub q r ps (n + 1) (fun j hj => by have := h (j + 1) (by simpa using hj); rw [show n + 1 + j = n + (j + 1) from by omega]; simpa using this) x hx
end
def holeP (x : List Int × Ex) : Bool := decide (x.2.kd = 1)
/-- The path of the first hole. -/
def Ex.first (e : Ex) (ps : List Int) : Option (List Int) := ((e.pn ps).find? holeP).map Prod.fst
theorem Ex.first_len (e : Ex) (ps q : List Int) (h : e.first ps = some q) : q.length ≤ ps.length + e.bulk := by
  unfold Ex.first at h
  obtain ⟨x, hx, rfl⟩ := Option.map_eq_some_iff.1 h
  exact Ex.paths_each e ps _ (by rw [← Ex.pn_paths]; exact List.mem_map_of_mem (List.mem_of_find?_eq_some hx))
theorem Ex.first_hole {nm : ByteArray} {n : Int} {ty : Ty} {es : List Ex} {ps : List Int} : (Ex.node 1 nm n ty es).first ps = some ps := by
  simp [Ex.first, Ex.pn, holeP, Ex.kd]
theorem Ex.first_at {kd : Int} {nm : ByteArray} {n : Int} {ty : Ty} {es : List Ex} {ps q : List Int} {k : Nat} (h1 : kd ≠ 1) (hk : k < es.length) (h2 : (Ex.pns (es.take k) ps 0).find? holeP = none) (h3 : es[k].first (ps ++ [(k : Int)]) = some q) : (Ex.node kd nm n ty es).first ps = some q := by
  obtain ⟨r, hr⟩ := Ex.pns_whole es ps (k + 1)
  unfold Ex.first at h3 ⊢
  obtain ⟨x, hx, hq⟩ := Option.map_eq_some_iff.1 h3
  rw [Ex.pns_take es ps k hk] at hr
  simp only [Ex.pn]
  rw [List.find?_cons_of_neg (by simp [holeP, Ex.kd, h1]), hr, List.find?_append, List.find?_append, h2, hx]
  simp [hq]
theorem Ex.first_on {es : List Ex} {ps : List Int} {k : Nat} (hk : k < es.length) (h2 : (Ex.pns (es.take k) ps 0).find? holeP = none) (h3 : es[k].first (ps ++ [(k : Int)]) = none) : (Ex.pns (es.take (k + 1)) ps 0).find? holeP = none := by
  unfold Ex.first at h3
  rw [Option.map_eq_none_iff] at h3
  rw [Ex.pns_take es ps k hk, List.find?_append, h2, h3]
  rfl
theorem Ex.first_none {kd : Int} {nm : ByteArray} {n : Int} {ty : Ty} {es : List Ex} {ps : List Int} (h1 : kd ≠ 1) (h2 : (Ex.pns (es.take es.length) ps 0).find? holeP = none) : (Ex.node kd nm n ty es).first ps = none := by
  rw [List.take_length] at h2
  unfold Ex.first
  simp only [Ex.pn]
  rw [List.find?_cons_of_neg (by simp [holeP, Ex.kd, h1]), h2]
  rfl
end Go.Proofs.Ytimigpdbegfjaaa
