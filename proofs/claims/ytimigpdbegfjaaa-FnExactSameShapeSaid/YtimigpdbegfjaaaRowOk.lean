/-
  Proved: plain facts on a row of expressions that a call builds by append out of an empty slice or none.
-/
import Derived.Test.YtimigpdbegfjaaaExRow
import Derived.Test.YtimigpdbegfjaaaSpecExCopy
import Derived.Test.YtimigpdbegfjaaaAppStep
namespace Go.Proofs.Ytimigpdbegfjaaa
open Go.RowKit

/-- A row that a call builds; or the empty slice that it begins with. -/
def RowOk (w : World) (mid d : Nat) (v : Value) (ts : List Ex) : Prop :=
  ExRow w mid d v ts ∨ (ts = [] ∧ ∃ g0, v = .slice (some ⟨g0, 0, none⟩) 0 0 ∧ g0 < mid ∧ mid ≤ w.heap.size ∧ w.heap[g0]? = some (.cells #[] 37 (0, 0)))
theorem RowOk.form {w : World} {mid d : Nat} {v : Value} {ts : List Ex} (h : RowOk w mid d v ts) : ∃ a c, v = .slice a ts.length c := by
  rcases h with h | ⟨rfl, g0, rfl, _⟩
  · exact h.form
  · exact ⟨_, _, rfl⟩
theorem RowOk.below {w w' : World} {mid d : Nat} {v : Value} {ts : List Ex} (h : RowOk w mid d v ts) (hb : Below w.heap.size w w') : RowOk w' mid d v ts := by
  rcases h with h | ⟨rfl, g0, rfl, h1, h2, h3⟩
  · exact Or.inl (h.below hb)
  · exact Or.inr ⟨rfl, g0, rfl, h1, Nat.le_trans h2 hb.size, (hb.block g0 (by omega)).trans h3⟩
theorem RowOk.stored {w : World} {mid d : Nat} {v : Value} {ts : List Ex} (h : RowOk w mid d v ts) {p o : Nat} (hp : p < mid) (hne : v.ownBlock ≠ some p) (u : Value) : RowOk (w.setCell ⟨p, o, none⟩ u) mid d v ts := by
  rcases h with h | ⟨rfl, g0, rfl, h1, h2, h3⟩
  · exact Or.inl (h.stored hp u)
  · exact Or.inr ⟨rfl, g0, rfl, h1, by simpa using h2, by rw [heap_setCell_other _ _ _ _ (fun e => hne (by show some g0 = some p; have e2 : g0 = p := e; rw [e2]))]; exact h3⟩
theorem RowOk.new (w : World) (d : Nat) {mid : Nat} {w' : World} (h1 : w.heap.size < mid) (h2 : mid ≤ w'.heap.size) (hb : Below (w.heap.size + 1) (w.alloc (.cells #[] 37)) w') : RowOk w' mid d (.slice (some ⟨w.heap.size, 0, none⟩) 0 0) [] :=
  Or.inr ⟨rfl, w.heap.size, rfl, h1, h2, (hb.block w.heap.size (by omega)).trans (heap_alloc_new w _)⟩
/-- An element more. -/
def Pushed1 (mid d : Nat) (ts : List Ex) (t : Ex) (W : World) (v' : Value) (w1 : World) : Prop :=
  ∃ g c, v' = .slice (some ⟨g, 0, none⟩) (ts.length + 1) c ∧ mid ≤ g ∧ ExRow w1 mid d v' (ts ++ [t]) ∧ Below mid W w1
set_option maxRecDepth 100000 in
theorem run_ex_push (wr wa : World) (mid d : Nat) (ty : TypeId) (v : Value) (ts : List Ex) (t : Ex) (f : List Nat) (z0 z1 z2 z3 z4 z5 : Value) (h : RowOk wr mid d v ts) (hb : Below wr.heap.size wr wa) (hbase : mid ≤ wr.heap.size)
    (ht : ExOwn wa d (.agg #[z0, z1, z2, z3, z4, z5]) t f) (hft : Fp wr.heap.size wa.heap.size f) (hz : ∀ z, z ∈ [z0, z1, z2, z3, z4, z5] → z.oneCell' = true) (hn : ts.length ≤ 1048576) :
    ∃ v' w1, (Builtin.append_ #[35, 35] ty #[v, .slice (some ⟨wa.heap.size, 0, none⟩) 1 1]).run Try.prog (wa.alloc (.cells #[z0, z1, z2, z3, z4, z5] 37)) = .ok v' w1 ∧ Pushed1 mid d ts t (wa.alloc (.cells #[z0, z1, z2, z3, z4, z5] 37)) v' w1 := by
  obtain ⟨i0, hi, hz0, hz1, hz2⟩ := info_parts info_ex
  have hnews : ∀ j u, [z0, z1, z2, z3, z4, z5][j]? = some u → (wa.alloc (.cells #[z0, z1, z2, z3, z4, z5] 37)).cell? ((⟨wa.heap.size, 0, none⟩ : Addr).add j) = some u :=
    World.news_of_block (cs := #[z0, z1, z2, z3, z4, z5]) (t := 37) (fr := (0, 0)) (heap_alloc_new wa _)
  have hbs := hb.size
  rcases h with h | ⟨rfl, g0, rfl, h1, h2, h3⟩
  · obtain ⟨cs, hown, happ⟩ := h.append hb hbase ht hft
    have hown2 : (wa.alloc (.cells #[z0, z1, z2, z3, z4, z5] 37)).ownsRow mid 37 6 v ts.length cs := hown.alloc _
    obtain ⟨g, cap, w1, hr, h5, h6, h7, h8⟩ := run_append_lies (P := Try.prog) (wa.alloc (.cells #[z0, z1, z2, z3, z4, z5] 37)) 35 ty mid 37 i0 (.agg #[.int .i64 0, .string ⟨#[]⟩, .int .i64 0, .int .i64 0, .slice none 0 0, .slice none 0 0]) 6 88 Try.underlying35 hi hz0 hz1 hz2 rfl (by omega) v ts.length cs hown2 ⟨wa.heap.size, 0, none⟩ 1 1 [z0, z1, z2, z3, z4, z5] rfl hnews hz (by omega) (by unfold maxLen; omega) (by omega) (by simp; omega) (wa.heap.size + 1) (by simp)
    refine ⟨_, w1, hr, g, cap, rfl, ?_, happ _ g cap w1 h5 h6 h7, (Below.refl _ _).grown h6 (by simp; omega) (fun k hk => (hown2.lt k hk).1)⟩
    rcases h7 with h7 | h7
    · exact (hown.lt g h7).1
    · omega
  · have hg0 : (wa.alloc (.cells #[z0, z1, z2, z3, z4, z5] 37)).heap[g0]? = some (.cells #[] 37 (0, 0)) := by
      rw [heap_alloc_old _ _ (by omega), hb.block g0 (by omega)]; exact h3
    have hown : (wa.alloc (.cells #[z0, z1, z2, z3, z4, z5] 37)).ownsRow 0 37 6 (.slice (some ⟨g0, 0, none⟩) 0 0) 0 [] := ⟨rfl, Or.inr ⟨g0, 0, #[], rfl, Nat.zero_le _, hg0, Nat.le_refl _, Nat.zero_le _, rfl, rfl⟩⟩
    have hr2 := run_append_grow (P := Try.prog) (wa.alloc (.cells #[z0, z1, z2, z3, z4, z5] 37)) 35 ty 37 i0 (.agg #[.int .i64 0, .string ⟨#[]⟩, .int .i64 0, .int .i64 0, .slice none 0 0, .slice none 0 0]) Try.underlying35 hi hz0 ⟨g0, 0, none⟩ 0 0 [] (by simp) (fun j u hj => by simp at hj) ⟨wa.heap.size, 0, none⟩ 1 1 [z0, z1, z2, z3, z4, z5] (by rw [hz1]; rfl) hnews (by omega) (by omega) (growslice_fits (by omega) (by rw [hz2]; omega))
    obtain ⟨v', w', hr, ho, hg, _, hbk⟩ := run_append_own_at (P := Try.prog) (wa.alloc (.cells #[z0, z1, z2, z3, z4, z5] 37)) 0 35 ty 37 i0 (.agg #[.int .i64 0, .string ⟨#[]⟩, .int .i64 0, .int .i64 0, .slice none 0 0, .slice none 0 0]) 6 88 Try.underlying35 hi hz0 hz1 hz2 rfl (by omega) (.slice (some ⟨g0, 0, none⟩) 0 0) 0 [] hown ⟨wa.heap.size, 0, none⟩ 1 1 [z0, z1, z2, z3, z4, z5] rfl hnews hz (by unfold maxLen; omega) (by omega) (Nat.zero_le _)
    rw [hr] at hr2
    injection hr2 with e1 e2
    have hzw : (wa.alloc (.cells #[z0, z1, z2, z3, z4, z5] 37)).heap.size = wa.heap.size + 1 := by simp
    rw [hzw] at e1
    obtain ⟨C, e1⟩ : ∃ C, v' = .slice (some ⟨wa.heap.size + 1, 0, none⟩) (0 + 1) C := ⟨_, e1⟩
    have hgr : (wa.alloc (.cells #[z0, z1, z2, z3, z4, z5] 37)).grownBy w' none := ⟨hg.os, by rw [e2]; rfl, hg.output, hg.size, fun k hk _ => by rw [e2]; exact heap_alloc_old _ _ hk⟩
    obtain ⟨cs, hown3, happ⟩ := (ExRow.nil wr mid d).append hb hbase ht hft
    have hcs : cs = [] := List.eq_nil_of_length_eq_zero (by simpa using hown3.1)
    subst hcs
    rw [e1] at ho
    have ho2 : w'.ownsRow mid 37 6 (.slice (some ⟨wa.heap.size + 1, 0, none⟩) (0 + 1) C) (0 + 1) ([] ++ [z0, z1, z2, z3, z4, z5]) := by
      refine ⟨ho.1, ?_⟩
      rcases ho.2 with ⟨h, _⟩ | ⟨g, cap, cur, hv, _, q⟩
      · simp at h
      · injection hv with v1 v2 v3
        injection v1 with v1
        injection v1 with v1
        exact Or.inr ⟨g, cap, cur, by rw [← v1, ← v3], by omega, q⟩
    exact ⟨v', w', hr, wa.heap.size + 1, _, e1, by omega, by rw [e1]; exact happ _ (wa.heap.size + 1) _ w' ho2 hgr (Or.inr rfl), (Below.refl _ _).grown hgr (by simp; omega) (fun k hk => by cases hk)⟩
/-- The row is whole. -/
theorem RowOk.tree {w : World} {base mid d : Nat} {v c3 c4 : Value} {ts : List Ex} (h : RowOk w mid d v ts) (k : Int) (nm : ByteArray) (n : Int) (ty : Ty) (f1 : List Nat) (h0 : -9223372036854775808 ≤ k) (h1 : k ≤ 9223372036854775807) (h2 : -9223372036854775808 ≤ n) (h3 : n ≤ 9223372036854775807) (h4 : nm.size ≤ 9223372036854775807)
    (hty : TyOwn w d (.agg #[c3, c4]) ty f1) (hf1 : Fp base mid f1) (hbm : base ≤ mid) (hmw : mid ≤ w.heap.size) :
    ∃ fp, ExOwn w (d + 1) (.agg #[.int .i64 k, .string nm, .int .i64 n, c3, c4, v]) (.node k nm n ty ts) fp ∧ Fp base w.heap.size fp := by
  rcases h with h | ⟨rfl, g0, rfl, _, _, _⟩
  · exact h.tree k nm n ty f1 h0 h1 h2 h3 h4 hty hf1 hbm hmw
  · exact ⟨f1 ++ [], ⟨c3, c4, _, f1, [], rfl, h0, h1, h2, h3, h4, rfl, hty, some ⟨g0, 0, none⟩, 0, [], [], rfl, Nat.le_refl _, by omega, rfl, rfl, (fun b hb => by cases hb), fun j hj => by simp at hj⟩, by rw [List.append_nil]; exact hf1.mono (Nat.le_refl _) hmw⟩
end Go.Proofs.Ytimigpdbegfjaaa
