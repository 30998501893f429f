/-
  Proved: plain facts on a type of two parts that a call builds.
-/
import Derived.Test.YtefoenkmppeidaaHold
import Derived.Test.YtefoenkmppeidaaToTyD
namespace Go.Proofs.Ytefoenkmppeidaa
open Go.RowKit

theorem box_at {w : World} {p q : Nat} {cs : Array Value} (h : BoxAt w p cs) (e : p = q) : BoxAt w q cs := e ▸ h
theorem BoxAt.stored {w : World} {p q j : Nat} {u : Value} {cs : Array Value} (h : BoxAt w p cs) (hne : p ≠ q) : BoxAt (w.setCell ⟨q, j, none⟩ u) p cs :=
  h.kept (by simp) (heap_setCell_other _ _ _ _ hne)
/-- Block p is there and free to be written. -/
def FreeAt (w : World) (p : Nat) : Prop := p < w.heap.size ∧ ∀ j, w.frozen? ⟨p, j, none⟩ = false
theorem FreeAt.below {w w' : World} {p : Nat} (h : FreeAt w p) (hb : Below w.heap.size w w') : FreeAt w' p :=
  ⟨Nat.lt_of_lt_of_le h.1 hb.size, fun j => (hb.frozen (p := ⟨p, j, none⟩) h.1).trans (h.2 j)⟩
theorem FreeAt.new (w : World) (cs : Array Value) (T : TypeId) : FreeAt (w.alloc (.cells cs T)) w.heap.size := ⟨by simp, fun j => by simp [go_sem]⟩
/-- Two parts in blocks of their own, laid side by side in a new block: a type with blocks of its own. -/
theorem own_two {X : World} {d lo mid hi : Nat} {k : Int} {c0 c1 d0 d1 : Value} {t1 t2 : Ty} {f1 f2 : List Nat} (hk0 : -9223372036854775808 ≤ k) (hk1 : k ≤ 9223372036854775807) (hX : hi = X.heap.size)
    (HC : TyOwn X d (.agg #[c0, c1]) t1 f1) (HD : TyOwn X d (.agg #[d0, d1]) t2 f2) (F1 : Fp lo mid f1) (F2 : Fp mid hi f2) (h1 : lo ≤ mid) (h2 : mid ≤ hi) :
    ∃ fp, TyOwn (X.alloc (.cells #[c0, c1, d0, d1] 31)) (d + 1) (.agg #[.int .i64 k, .slice (some ⟨hi, 0, none⟩) 2 2]) (.node k [t1, t2]) fp ∧ Fp lo (hi + 1) fp := by
  subst hX
  have hb := below_alloc X (.cells #[c0, c1, d0, d1] 31)
  have hx := BoxAt.new X #[c0, c1, d0, d1] 31
  have hf := FreeAt.new X #[c0, c1, d0, d1] 31
  refine ⟨[X.heap.size] ++ List.flatten [f1, f2], ⟨_, rfl, hk0, hk1, some ⟨X.heap.size, 0, none⟩, 2, [X.heap.size], [f1, f2], rfl, by simp, by omega, rfl, rfl, fun b hb => by cases List.mem_singleton.1 hb; exact hx.1, fun j hj => ?_⟩, ?_, ?_⟩
  · match j, hj with
    | 0, _ => exact ⟨X.heap.size, 0, _, _, f1, rfl, rfl, hx.1, hx.2 0, hf.2 0, hx.2 1, rfl, HC.below hb⟩
    | 1, _ => exact ⟨X.heap.size, 0, _, _, f2, rfl, rfl, hx.1, hx.2 2, hf.2 2, hx.2 3, rfl, HD.below hb⟩
  · have hj := F1.join F2 h1 h2
    simp only [List.flatten_cons, List.flatten_nil, List.append_nil]
    rw [List.singleton_append, List.nodup_cons]
    exact ⟨fun hm => by have := (hj.2 _ hm).2; omega, hj.1⟩
  · have hj := F1.join F2 h1 h2
    simp only [List.flatten_cons, List.flatten_nil, List.append_nil]
    intro b hb
    rcases List.mem_append.1 hb with hb | hb
    · cases List.mem_singleton.1 hb; omega
    · have := hj.2 b hb; omega
theorem free_at {w : World} {p q : Nat} (h : FreeAt w p) (e : p = q) : FreeAt w q := e ▸ h
end Go.Proofs.Ytefoenkmppeidaa
