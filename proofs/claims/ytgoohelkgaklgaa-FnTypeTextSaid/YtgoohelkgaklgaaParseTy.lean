/-
  Proved: what parsing a type ends in; plain facts.
-/
import Derived.Test.YtgoohelkgaklgaaTyRead
import Derived.Test.YtgoohelkgaklgaaOwnTree
import Derived.Test.YtgoohelkgaklgaaGround
import Derived.Test.YtgoohelkgaklgaaHold
namespace Go.Proofs.Ytgoohelkgaklgaa
open Go.RowKit

theorem tl_size : ∀ (n : Nat) (t : Ty), t.depth ≤ n → t.form = true → t.size ≤ t.tl.length
  | n, t, hd, hf => by
    rcases leaf_or hf with ⟨c, k, rfl, hk, htl⟩ | ⟨c, k, a, b, rfl, hk, ha, hb, htl⟩
    · rw [htl, (leafOf_some hk).2.2.2]; simp
    · rw [depth_node] at hd
      have h1 := a.depth_one
      cases n with
      | zero => omega
      | succ n =>
        have h2 := tl_size n a (by omega) ha
        have h3 := tl_size n b (by omega) hb
        rw [htl, size_node]
        simp only [List.length_cons, List.length_append, List.length_nil]
        omega
/-- What parsing a type ends in. -/
def ParseTyEnd (s : ByteArray) (w : World) (e : Ending) (w' : World) : Prop :=
  ∃ (ok : Bool) (t : Ty) (k : Int) (a : Option Addr) (m c : Nat) (fp : List Nat), e = .returned (.tuple #[.agg #[.int .i64 k, .slice a m c], .bool ok]) ∧ TyOwn w' 25 (.agg #[.int .i64 k, .slice a m c]) t fp ∧ Fp w.heap.size w'.heap.size fp ∧ Below w.heap.size w w' ∧
    (ok = true → TyReads s t) ∧ (ok = false → t = .node 0 [] ∧ ∀ u, ¬ TyReads s u)
theorem parse_no {s : ByteArray} {w w' : World} (h : ∀ u, ¬ TyReads s u) (hb : Below w.heap.size w w') : ParseTyEnd s w (.returned (.tuple #[.agg #[.int .i64 0, .slice none 0 0], .bool false])) w' :=
  ⟨false, .node 0 [], 0, none, 0, 0, [], rfl, own_zero _ _ _ (by omega) (by omega), Fp.nil _ _, hb, fun h => (by cases h), fun _ => ⟨rfl, h⟩⟩
theorem ParseTyEnd.agree {s : ByteArray} {ok ok' : Bool} {t t' : Ty} (h1 : ok = true → TyReads s t) (h2 : ok = false → t = .node 0 [] ∧ ∀ u, ¬ TyReads s u) (g1 : ok' = true → TyReads s t') (g2 : ok' = false → t' = .node 0 [] ∧ ∀ u, ¬ TyReads s u) : ok = ok' ∧ t = t' := by
  cases ok with
  | true =>
    cases ok' with
    | true => exact ⟨rfl, (h1 rfl).inj (g1 rfl)⟩
    | false => exact absurd (h1 rfl) ((g2 rfl).2 t)
  | false =>
    cases ok' with
    | true => exact absurd (g1 rfl) ((h2 rfl).2 t')
    | false => exact ⟨rfl, by rw [(h2 rfl).1, (g2 rfl).1]⟩
end Go.Proofs.Ytgoohelkgaklgaa
