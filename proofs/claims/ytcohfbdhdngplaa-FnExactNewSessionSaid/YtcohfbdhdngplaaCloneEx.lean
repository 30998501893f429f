/-
  Proved: slices.Clone copies the nodes of a row of expressions into a new block; the memory that was there stays as it was.
-/
import Derived.Test.YtcohfbdhdngplaaToExpr
import Derived.Maps.AppendAt
import Derived.Lib.SliceRun
namespace Go.Proofs.Ytcohfbdhdngplaa
open Go.RowKit

set_option maxRecDepth 100000 in
set_option maxHeartbeats 2000000 in
theorem cloneEx (d : Nat) (v : Value) (es : List Ex) (w0 w : World) (h : ExsAt w0 d v es) (hbel : Below w0.heap.size w0 w) (hn : es.length ≤ 1048576) :
    Calls Try.prog 132 #[v] w fun e w' => ∃ a cap, e = .returned (.slice a es.length cap) ∧ es.length ≤ cap ∧ cap ≤ 9223372036854775807 ∧ Below w.heap.size w w' ∧
      (0 < es.length → ∃ g, a = some ⟨g, 0, none⟩ ∧ w.heap.size ≤ g ∧ g < w'.heap.size ∧ (∀ o, w'.frozen? ⟨g, o, none⟩ = false) ∧
        ∀ j (h : j < es.length), ∃ c0 c1 c2 c3 c4 c5, w'.cell? ⟨g, j * 6, none⟩ = some c0 ∧ w'.cell? ⟨g, j * 6 + 1, none⟩ = some c1 ∧ w'.cell? ⟨g, j * 6 + 2, none⟩ = some c2 ∧ w'.cell? ⟨g, j * 6 + 3, none⟩ = some c3 ∧ w'.cell? ⟨g, j * 6 + 4, none⟩ = some c4 ∧ w'.cell? ⟨g, j * 6 + 5, none⟩ = some c5 ∧ ExAt w0 d (.agg #[c0, c1, c2, c3, c4, c5]) es[j]) := by
  obtain ⟨a, cap, rfl, hcap, hcap2, hat⟩ := h
  cases a with
  | none =>
    have hl : es.length = 0 := Nat.eq_zero_of_not_pos fun hp => by
      obtain ⟨_, _, _, _, _, _, _, _, h, _⟩ := hat 0 hp
      cases h
    have q22 : ∀ (w : World) (a : Option Addr) (n c n' c' : Nat), (binOp .eql 34 (.slice a n c) (.slice none n' c')).run Try.prog w = .ok (.bool a.isNone) w := fun w a n c n' c' => Lib.run_eql_slice_nil w _ _ a n c n' c' Try.underlying34
    go_enter Try.func132, Try.ntmps132
    go_wp2_with fail
    go_ret
    exact ⟨none, 0, by rw [hl]; rfl, by omega, by omega, Below.refl _ _, fun h => by omega⟩
  | some p =>
    have hone : ∀ j (h : j < es.length), ∃ b off c0 c1 c2 c3 c4 c5, p = ⟨b, off, none⟩ ∧ w.cell? ⟨b, off + j * 6, none⟩ = some c0 ∧ w.cell? ⟨b, off + j * 6 + 1, none⟩ = some c1 ∧ w.cell? ⟨b, off + j * 6 + 2, none⟩ = some c2 ∧ w.cell? ⟨b, off + j * 6 + 3, none⟩ = some c3 ∧ w.cell? ⟨b, off + j * 6 + 4, none⟩ = some c4 ∧ w.cell? ⟨b, off + j * 6 + 5, none⟩ = some c5 ∧ ExAt w0 d (.agg #[c0, c1, c2, c3, c4, c5]) es[j] := fun j hj => by
      obtain ⟨b, off, c0, c1, c2, c3, c4, c5, ha, hlt, h0, h1, h2, h3, h4, h5, ht⟩ := hat j hj
      have hk : ∀ o, w.cell? ⟨b, o, none⟩ = w0.cell? ⟨b, o, none⟩ := fun o => hbel.cell (p := ⟨b, o, none⟩) hlt
      exact ⟨b, off, c0, c1, c2, c3, c4, c5, Option.some.inj ha, (hk _).trans h0, (hk _).trans h1, (hk _).trans h2, (hk _).trans h3, (hk _).trans h4, (hk _).trans h5, ht⟩
    have hcell : ∀ j, j < es.length * 6 → ∃ u, w.cell? (p.add j) = some u ∧ u.oneCell' = true := fun j hj => by
      obtain ⟨b, off, c0, c1, c2, c3, c4, c5, rfl, h0, h1, h2, h3, h4, h5, ht⟩ := hone (j / 6) (by omega)
      obtain ⟨k, nm, n, tk, ta, tn, tc, sa, sn, sc, rfl, rfl, rfl, rfl, rfl, rfl⟩ := ex_cells ht
      rw [addr_add]
      have hm : j % 6 < 6 := Nat.mod_lt _ (by omega)
      have hj6 : j = j / 6 * 6 + j % 6 := by omega
      generalize j % 6 = r at hm hj6
      generalize j / 6 = q at h0 h1 h2 h3 h4 h5 hj6
      subst hj6
      match r, hm with
      | 0, _ => exact ⟨_, h0, rfl⟩
      | 1, _ => exact ⟨_, by rw [← h1, Nat.add_assoc], rfl⟩
      | 2, _ => exact ⟨_, by rw [← h2, Nat.add_assoc], rfl⟩
      | 3, _ => exact ⟨_, by rw [← h3, Nat.add_assoc], rfl⟩
      | 4, _ => exact ⟨_, by rw [← h4, Nat.add_assoc], rfl⟩
      | 5, _ => exact ⟨_, by rw [← h5, Nat.add_assoc], rfl⟩
    obtain ⟨news, hnews⟩ : ∃ news : List Value, news = (List.range (es.length * 6)).map fun o => (w.cell? (p.add o)).getD undef := ⟨_, rfl⟩
    have hnl : news.length = es.length * 6 := by rw [hnews]; simp
    have hnj : ∀ j, j < es.length * 6 → news[j]? = w.cell? (p.add j) := fun j hj => by
      obtain ⟨u, hu, _⟩ := hcell j hj
      rw [hnews, List.getElem?_map, List.getElem?_range hj, Option.map_some, hu]
      rfl
    have HNL := Lib.hid hnl
    have HNJ := Lib.hid hnj
    have HONE := Lib.hid hone
    have HCELL := Lib.hid hcell
    clear hnews hnl hnj hone hcell hat hbel
    obtain ⟨i0, hi, hz0, hz1, hz2⟩ := info_parts info_ex
    have q22 : ∀ (w : World) (a : Option Addr) (n c n' c' : Nat), (binOp .eql 34 (.slice a n c) (.slice none n' c')).run Try.prog w = .ok (.bool a.isNone) w := fun w a n c n' c' => Lib.run_eql_slice_nil w _ _ a n c n' c' Try.underlying34
    go_enter Try.func132, Try.ntmps132
    go_wp2_with (at_builtin; refine wpList_append_own _ rfl _ _ 34 rfl w.heap.size 36 i0 (.agg #[.int .i64 0, .string ⟨#[]⟩, .int .i64 0, .int .i64 0, .slice none 0 0, .slice none 0 0]) 6 88 Try.underlying34 hi hz0 hz1 hz2 rfl (by decide) _ _ _ rfl (World.ownsRow_made w #[] 0 (Nat.le_refl _) (Nat.zero_le _) rfl) p es.length cap news rfl ?qc1 ?qc2 ?qc3 ?qc4 ?qc5 ?qc6 ?_)
    case qc1 => exact HNL.out
    case qc2 =>
      intro j u hj
      have hjl : j < es.length * 6 := by
        have := (List.getElem?_eq_some_iff.1 hj).1
        rw [HNL.out] at this
        exact this
      rw [HNJ.out j hjl] at hj
      exact Lib.cell?_alloc_some _ hj
    case qc3 =>
      intro u hu
      obtain ⟨j, hj, rfl⟩ := List.getElem_of_mem hu
      obtain ⟨u2, h2, h3⟩ := HCELL.out j (by rw [← HNL.out]; exact hj)
      have h4 := HNJ.out j (by rw [← HNL.out]; exact hj)
      rw [List.getElem?_eq_getElem hj, h2] at h4
      rw [Option.some.inj h4]
      exact h3
    case qc4 => unfold maxLen; omega
    case qc5 => omega
    case qc6 => simp
    intro v' w1 hown hgrow hnil
    have HOWN : Hid (w1.ownsRow w.heap.size 36 6 v' es.length news) := by show World.ownsRow _ _ _ _ _ _ _; simpa using hown
    have HB : Hid (Below w.heap.size w w1) := ((Below.refl _ w).alloc (Nat.le_refl _) _).grown hgrow (by simp) (by intro k hk; simp [Value.ownBlock] at hk; omega)
    clear hown hgrow hi hz0 hz1 hz2
    rcases HOWN.out.2 with ⟨hv, hl⟩ | ⟨g, cap2, cur, hv, hbg, hg, hnc, hcm, _⟩
    · subst hv
      exact absurd hnil (by simp)
    · subst hv
      have hlt := (HOWN.out.lt g rfl).2
      have HG := Lib.hid hbg
      have HLT := Lib.hid hlt
      have HNC := Lib.hid hnc
      have HCM := Lib.hid hcm
      clear hbg hg hnc hcm hlt
      go_wp2_with fail
      go_ret
      refine ⟨some ⟨g, 0, none⟩, cap2, rfl, HNC.out, by have := HCM.out; unfold maxLen at this; omega, HB.out, fun _ => ⟨g, rfl, HG.out, HLT.out, fun o => HOWN.out.frozenAt o, fun j hj => ?_⟩⟩
      obtain ⟨b, off, c0, c1, c2, c3, c4, c5, rfl, h0, h1, h2, h3, h4, h5, ht⟩ := HONE.out j hj
      refine ⟨c0, c1, c2, c3, c4, c5, (by rw [HOWN.out.cellAt (j * 6) (by have := HNL.out; omega), HNJ.out (j * 6) (by omega), addr_add]; exact h0), (by rw [HOWN.out.cellAt (j * 6 + 1) (by have := HNL.out; omega), HNJ.out (j * 6 + 1) (by omega), addr_add, ← Nat.add_assoc]; exact h1), (by rw [HOWN.out.cellAt (j * 6 + 2) (by have := HNL.out; omega), HNJ.out (j * 6 + 2) (by omega), addr_add, ← Nat.add_assoc]; exact h2), (by rw [HOWN.out.cellAt (j * 6 + 3) (by have := HNL.out; omega), HNJ.out (j * 6 + 3) (by omega), addr_add, ← Nat.add_assoc]; exact h3), (by rw [HOWN.out.cellAt (j * 6 + 4) (by have := HNL.out; omega), HNJ.out (j * 6 + 4) (by omega), addr_add, ← Nat.add_assoc]; exact h4), (by rw [HOWN.out.cellAt (j * 6 + 5) (by have := HNL.out; omega), HNJ.out (j * 6 + 5) (by omega), addr_add, ← Nat.add_assoc]; exact h5), ht⟩
end Go.Proofs.Ytcohfbdhdngplaa
