/-
  Proved: plain facts on the paths of all nodes of an expression; no program.
-/
import Derived.Test.YtimigpdbegfjaaaExTree
import Derived.Test.YtimigpdbegfjaaaPathsAt
namespace Go.Proofs.Ytimigpdbegfjaaa
open Go.RowKit

mutual
/-- The paths of all nodes, each before those of its parts. -/
def Ex.paths : Ex → List Int → List (List Int)
  | .node _ _ _ _ es, ps => ps :: Ex.pathss es ps 0
def Ex.pathss : List Ex → List Int → Nat → List (List Int)
  | [], _, _ => []
  | e :: r, ps, k => e.paths (ps ++ [(k : Int)]) ++ Ex.pathss r ps (k + 1)
end
theorem Ex.pathss_take : ∀ (es : List Ex) (ps : List Int) (n k : Nat) (h : k < es.length), Ex.pathss (es.take (k + 1)) ps n = Ex.pathss (es.take k) ps n ++ es[k].paths (ps ++ [((n + k : Nat) : Int)])
  | [], _, _, _, h => by simp at h
  | e :: r, ps, n, 0, _ => by simp [Ex.pathss]
  | e :: r, ps, n, k + 1, h => by
    simp only [List.take_succ_cons, Ex.pathss, List.getElem_cons_succ, List.append_assoc]
    rw [Ex.pathss_take r ps (n + 1) k (by simpa using h), show n + 1 + k = n + (k + 1) from by omega]
mutual
theorem Ex.paths_length : ∀ (e : Ex) (ps : List Int), (e.paths ps).length ≤ 1 + e.bulk
  | .node _ nm _ ty es, ps => by
    have h := Ex.pathss_length es ps 0
    simp only [Ex.paths, List.length_cons, Ex.bulk]; omega
theorem Ex.pathss_length : ∀ (es : List Ex) (ps : List Int) (k : Nat), (Ex.pathss es ps k).length ≤ Ex.bulks es
  | [], _, _ => by simp [Ex.pathss]
  | e :: r, ps, k => by
    have h1 := Ex.paths_length e (ps ++ [(k : Int)])
    have h2 := Ex.pathss_length r ps (k + 1)
    simp only [Ex.pathss, List.length_append, Ex.bulks]; omega
end
mutual
theorem Ex.paths_each : ∀ (e : Ex) (ps : List Int) (q : List Int), q ∈ e.paths ps → q.length ≤ ps.length + e.bulk
  | .node _ nm _ ty es, ps, q, h => by
    simp only [Ex.paths, List.mem_cons] at h
    rcases h with rfl | h
    · omega
    · have := Ex.pathss_each es ps 0 q h
      simp only [Ex.bulk]; omega
theorem Ex.pathss_each : ∀ (es : List Ex) (ps : List Int) (k : Nat) (q : List Int), q ∈ Ex.pathss es ps k → q.length ≤ ps.length + Ex.bulks es
  | [], _, _, _, h => by simp [Ex.pathss] at h
  | e :: r, ps, k, q, h => by
    simp only [Ex.pathss, List.mem_append] at h
    simp only [Ex.bulks]
    rcases h with h | h
    · have := Ex.paths_each e _ q h
      simp only [List.length_append, List.length_cons, List.length_nil] at this
      omega
    · have := Ex.pathss_each r ps (k + 1) q h
      omega
end
theorem plen_append : ∀ (a b : List (List Int)), plen (a ++ b) = plen a + plen b
  | [], b => by simp [plen]
  | p :: r, b => by simp only [List.cons_append, plen, plen_append r b]; omega
theorem sq_add (n R : Nat) : n * (n + 1) + R * (R + 1) ≤ (n + R) * (n + R + 1) := by
  have : (n + R) * (n + R + 1) = n * (n + 1) + R * (R + 1) + (n * R + R * n) := by
    simp only [Nat.add_mul, Nat.mul_add, Nat.mul_one]
    omega
  omega
mutual
theorem Ex.paths_plen : ∀ (e : Ex) (ps : List Int), 2 * plen (e.paths ps) ≤ 2 * ((1 + e.bulk) * ps.length) + e.bulk * (e.bulk + 1)
  | .node _ nm _ ty es, ps => by
    have h := Ex.pathss_plen es ps 0
    have hb : Ex.bulks es ≤ nm.size + (ty.size - 1) + Ex.bulks es := by omega
    simp only [Ex.paths, plen, Ex.bulk]
    generalize nm.size + (ty.size - 1) + Ex.bulks es = B at hb ⊢
    have h1 : Ex.bulks es * (Ex.bulks es + 1) ≤ B * (B + 1) := Nat.mul_le_mul hb (by omega)
    have h2 : Ex.bulks es * ps.length ≤ B * ps.length := Nat.mul_le_mul_right _ hb
    rw [Nat.add_mul 1 B, Nat.one_mul]
    omega
theorem Ex.pathss_plen : ∀ (es : List Ex) (ps : List Int) (k : Nat), 2 * plen (Ex.pathss es ps k) ≤ 2 * (Ex.bulks es * ps.length) + Ex.bulks es * (Ex.bulks es + 1)
  | [], _, _ => by simp [Ex.pathss, plen]
  | e :: r, ps, k => by
    have h1 := Ex.paths_plen e (ps ++ [(k : Int)])
    have h2 := Ex.pathss_plen r ps (k + 1)
    simp only [Ex.pathss, plen_append, Ex.bulks]
    simp only [List.length_append, List.length_cons, List.length_nil, Nat.zero_add] at h1
    have h3 := sq_add (1 + e.bulk) (Ex.bulks r)
    have h4 : (1 + e.bulk) * (1 + e.bulk + 1) = e.bulk * (e.bulk + 1) + 2 * (1 + e.bulk) := by
      simp only [Nat.add_mul, Nat.mul_add, Nat.mul_one, Nat.one_mul]
      omega
    rw [Nat.mul_add (1 + e.bulk) ps.length 1] at h1
    rw [Nat.add_mul (1 + e.bulk) (Ex.bulks r) ps.length]
    omega
end
end Go.Proofs.Ytimigpdbegfjaaa
