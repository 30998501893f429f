/-
  Proved: a list of typings that came in as an argument reads as typings.
-/
import Derived.Test.YteffjeejbdjjpaaGreatDoorWellG1
import Derived.Test.YteffjeejbdjjpaaGreatDoorWellG7
import Derived.SliceStrings
import Derived.Test.YteffjeejbdjjpaaGreatDoorWellG3
import Derived.Maps.AppendAt
import Derived.Deep.Upon
import Derived.ArgAppend
import Derived.Test.YteffjeejbdjjpaaGreatDoorWellG5
/-
  Proved: what reads as a tree of some depth reads as one of any greater depth.
-/
namespace Go.Proofs.YteffjeejbdjjpaaGreatDoor
open Go.RowKit

theorem RowAt.weaker {R S : Value → Ty → Prop} {w : World} {v : Value} {ts : List Ty} (hRS : ∀ v t, R v t → S v t) (h : RowAt R w v ts) : RowAt S w v ts :=
  h.imp (Below.refl _ _) hRS
theorem TyAt.succ {w : World} : ∀ {d : Nat} {v : Value} {t : Ty}, TyAt w d v t → TyAt w (d + 1) v t
  | 0, _, _, h => h.elim
  | d + 1, v, .node k ts, h => by
    obtain ⟨sl, hv, h0, h1, h⟩ := h
    exact ⟨sl, hv, h0, h1, h.weaker fun v t h => TyAt.succ h⟩
theorem TyAt.mono {w : World} {d d' : Nat} {v : Value} {t : Ty} (h : TyAt w d v t) (hd : d ≤ d') : TyAt w d' v t := by
  induction hd with
  | refl => exact h
  | step _ ih => exact ih.succ
theorem list_two {α : Type} : ∀ (l : List α), l.length = 2 → ∃ a b, l = [a, b]
  | [a, b], _ => ⟨a, b, rfl⟩
end Go.Proofs.YteffjeejbdjjpaaGreatDoor
/-
  Proved: a type's tree that came in as an argument reads as a tree.
-/
namespace Go.Proofs.YteffjeejbdjjpaaGreatDoor
open Go.ChangeShapes Go.WideShapes Go.ChangeAt Go.RowKit Go.WideMaps Go.WideElems

theorem und_lty : Tryz.prog.underlying 25 = some (.struct #[⟨"Kind", 3, 0, false, "", "", 0⟩, ⟨"Args", 23, 1, false, "", "", 8⟩]) := by kernel_rfl
theorem und_ltys : Tryz.prog.underlying 23 = some (.slice 25) := by kernel_rfl
theorem cells_lty : Tryz.prog.cellsOf 25 = 2 := by kernel_rfl
theorem cells_ltys : Tryz.prog.cellsOf 23 = 1 := by kernel_rfl
theorem cells_int : Tryz.prog.cellsOf 3 = 1 := by kernel_rfl

theorem ty_addr (g o j : Nat) : (⟨g, o, none⟩ : Addr).add j = ⟨g, o + j, none⟩ := by
  unfold Addr.add; split <;> simp_all
theorem list_choose {α : Type} {P : Nat → α → Prop} : ∀ n, (∀ j, j < n → ∃ t, P j t) → ∃ ts : List α, ts.length = n ∧ ∀ j (h : j < ts.length), P j ts[j]
  | 0, _ => ⟨[], rfl, fun j h => by simp at h⟩
  | n + 1, h => by
    obtain ⟨ts, hl, hp⟩ := list_choose n fun j hj => h j (by omega)
    obtain ⟨t, ht⟩ := h n (by omega)
    refine ⟨ts ++ [t], by simp [hl], fun j hj => ?_⟩
    by_cases hlt : j < ts.length
    · rw [List.getElem_append_left hlt]; exact hp j hlt
    · have : j = n := by simp at hj; omega
      subst this
      rw [List.getElem_append_right (by omega)]
      simpa [hl] using ht

set_option maxRecDepth 100000 in
theorem lty_open {H : Type} {enc : TypeId × Value → H} {W : World} {base : Nat} {sp : Nat → Bool} {held : Bool} (fuel : Nat) : ∀ (cs : List Value) (x : DataW H × List MemPlace), DataW.trod enc Tryz.prog W base sp held fuel 25 cs = some x →
    ∃ c0 c1 t, cs = [c0, c1] ∧ TyAt W fuel (.agg #[c0, c1]) t := by
  induction fuel using Nat.strongRecOn with
  | ind fuel ih =>
    intro cs x h
    obtain ⟨xs, n, rfl, _, hl, hlen, hf⟩ := DataW.trod_struct und_lty h
    rw [cells_lty] at hl
    obtain ⟨c0, c1, rfl⟩ := list_two cs hl
    have g0 : DataW.trod enc Tryz.prog W base sp held n 3 (([c0, c1].drop 0).take (Tryz.prog.cellsOf 3)) = xs[0]? := hf 0 ⟨"Kind", 3, 0, false, "", "", 0⟩ rfl
    have g1 : DataW.trod enc Tryz.prog W base sp held n 23 (([c0, c1].drop 1).take (Tryz.prog.cellsOf 23)) = xs[1]? := hf 1 ⟨"Args", 23, 1, false, "", "", 8⟩ rfl
    rw [cells_int] at g0
    rw [cells_ltys] at g1
    have hlen2 : xs.length = 2 := hlen
    clear hf hlen
    simp only [List.drop_zero, List.take_succ_cons, List.take_zero, List.drop_succ_cons] at g0 g1
    obtain ⟨y0, hy0⟩ : ∃ y, xs[0]? = some y := ⟨_, List.getElem?_eq_getElem (by rw [hlen2]; decide)⟩
    obtain ⟨y1, hy1⟩ : ∃ y, xs[1]? = some y := ⟨_, List.getElem?_eq_getElem (by rw [hlen2]; decide)⟩
    rw [hy0] at g0
    rw [hy1] at g1
    obtain ⟨k, hk, _, hwf⟩ := DataW.trod_int Tryz.underlying3 g0
    cases hk
    have hkb : -9223372036854775808 ≤ k ∧ k ≤ 9223372036854775807 := by
      simp only [Lit.wf, Bool.and_eq_true, decide_eq_true_eq] at hwf
      have e1 : IntKind.i64.min = -9223372036854775808 := by kernel_rfl
      have e2 : IntKind.i64.max = 9223372036854775807 := by kernel_rfl
      rw [e1, e2] at hwf
      exact hwf
    rcases DataW.trod_slice und_ltys g1 with ⟨hcs, _⟩ | ⟨a, len, cap, elems, rest, m, hm, hcs, _, hb, hlc, hcm, hel, hget, _, _⟩
    · cases hcs
      exact ⟨_, _, .node k [], rfl, ⟨_, rfl, hkb.1, hkb.2, none, 0, rfl, Nat.le_refl _, by omega, fun j hj => by simp at hj⟩⟩
    · cases hcs
      have first : 0 < len → a.spot = none := by
        intro h0
        have hg0 := hget 0 h0
        rw [cells_lty, List.getElem?_eq_getElem (by omega)] at hg0
        obtain ⟨cs2, hc2, ht2⟩ := Option.bind_eq_some_iff.1 hg0
        obtain ⟨d0, d1, t, rfl, _⟩ := ih m (by omega) cs2 _ ht2
        obtain ⟨_, _, hc⟩ := World.cells?_some hc2
        have e0 := hc 0 (by omega)
        exact World.cell?_spot (show W.cell? a = some d0 from e0)
      obtain ⟨b, off, spot⟩ := a
      have each : ∀ j, j < len → ∃ t, ∃ c0 c1, spot = none ∧ b < W.heap.size ∧ W.cell? ⟨b, off + j * 2, none⟩ = some c0 ∧ W.cell? ⟨b, off + j * 2 + 1, none⟩ = some c1 ∧ TyAt W m (.agg #[c0, c1]) t := by
        intro j hj
        have hgj := hget j hj
        have hspot : spot = none := first (by omega)
        subst hspot
        rw [cells_lty, List.getElem?_eq_getElem (by omega), ty_addr] at hgj
        obtain ⟨cs2, hc2, ht2⟩ := Option.bind_eq_some_iff.1 hgj
        obtain ⟨d0, d1, t, rfl, hty⟩ := ih m (by omega) cs2 _ ht2
        obtain ⟨_, _, hc⟩ := World.cells?_some hc2
        have e0 := hc 0 (by omega)
        have e1 := hc 1 (by omega)
        rw [ty_addr] at e0 e1
        exact ⟨t, d0, d1, rfl, World.cells?_block hc2 (by omega), e0, e1, hty⟩
      obtain ⟨ts, hts, hp⟩ := list_choose len each
      refine ⟨_, _, .node k ts, rfl, ⟨_, rfl, hkb.1, hkb.2, some ⟨b, off, spot⟩, cap, by rw [hts], by omega, by unfold maxLen at hcm; omega, fun j hj => ?_⟩⟩
      obtain ⟨c0, c1, rfl, h1, h2, h3, h4⟩ := hp j hj
      exact ⟨b, off, c0, c1, rfl, h1, h2, h3, h4.mono (by omega)⟩
set_option maxRecDepth 100000 in
theorem ty_of_arg {H : Type} {enc : TypeId × Value → H} {W : World} {base b0 : Nat} {v : Value} {x : DataW H} {ps : List MemPlace} (hval : Value.okWide Tryz.prog W .any b0 25 v)
    (h : DataW.Trod enc Tryz.prog W base (fun _ => true) true 25 v x ps) : ∃ d t, TyAt W d v t := by
  obtain ⟨cs, rfl, _⟩ := okWide_struct und_lty hval
  obtain ⟨fuel, hf⟩ := h
  obtain ⟨c0, c1, t, hc, ht⟩ := lty_open fuel _ _ hf
  have hcs : cs.toList = [c0, c1] := hc
  have e : cs = #[c0, c1] := Array.toList_inj.1 hcs
  subst e
  exact ⟨fuel, t, ht⟩
end Go.Proofs.YteffjeejbdjjpaaGreatDoor
/-
  Proved: plain facts on rows of typings: as a list of cells, appended to, read again.
-/
namespace Go.Proofs.YteffjeejbdjjpaaGreatDoor
open Go.RowKit

theorem wpList_app_run {P : Program} {w : World} {ops : Array Oper} {rest : List Oper} {o : Oper} {a : Act} {Q : Exit → Act → World → Prop} (hgd : o.guard = none) (s x : Operand) (t : TypeId)
    (ho : o.op = .call { callee := .builtin .append, args := #[s, x], argTypes := #[t, t] }) (v xv : Value) (hs : a.eval s = v) (hx : a.eval x = xv) {R : Value → World → Prop}
    (hr : ∃ v' w', (Builtin.append_ #[t, t] o.type #[v, xv]).run P w = .ok v' w' ∧ R v' w') (h : ∀ v' w', R v' w' → wpList P ops Q rest (a.put o.dst v') w') : wpList P ops Q (o :: rest) a w :=
  wpList_plain hgd fun _ hK => by
    obtain ⟨v', w', hr, hR⟩ := hr
    unfold Oper.wp execOp
    simp only [ho, resolve, invoke, builtin, Sem.run_bind, Sem.run_pure, Result.andThen_ok, List.map_toArray, List.map_cons, List.map_nil, hs, hx, hr]
    exact hK _ _ (h v' w' hR)
theorem own_lower {w : World} {base base' : Nat} {e : TypeId} {size : Nat} {v : Value} {n : Nat} {xs : List Value} (h : w.ownsRow base e size v n xs) (hb : base' ≤ base) : w.ownsRow base' e size v n xs := by
  refine ⟨h.1, ?_⟩
  rcases h.2 with h | ⟨g, cap, cur, rfl, r1, r2⟩
  · exact Or.inl h
  · exact Or.inr ⟨g, cap, cur, rfl, Nat.le_trans hb r1, r2⟩
theorem info_typ : (Tryz.prog.info? 61).map (fun i => (i.zero, i.size, i.bytes)) = some (some (.agg #[.string ⟨#[]⟩, .int .i64 0, .slice none 0 0]), 3, 48) := by kernel_rfl
theorem BiAt.mono {w : World} {d d' : Nat} {v : Value} {b : Bi} (h : BiAt w d v b) (hd : d ≤ d') : BiAt w d' v b := by
  obtain ⟨tk, ta, tn, tc, hv, hn, ht⟩ := h
  exact ⟨tk, ta, tn, tc, hv, hn, ht.mono hd⟩
theorem BisAt.mono {w : World} {d d' : Nat} {v : Value} {bs : List Bi} (h : BisAt w d v bs) (hd : d ≤ d') : BisAt w d' v bs := by
  obtain ⟨a, cap, hv, hc, hm, h⟩ := h
  refine ⟨a, cap, hv, hc, hm, fun j hj => ?_⟩
  obtain ⟨b, off, c0, c1, c2, ha, hlt, h0, h1, h2, hr⟩ := h j hj
  exact ⟨b, off, c0, c1, c2, ha, hlt, h0, h1, h2, hr.mono hd⟩
theorem bi_three {w : World} {d : Nat} {c0 c1 c2 : Value} {b : Bi} (h : BiAt w d (.agg #[c0, c1, c2]) b) : c0.oneCell' = true ∧ c1.oneCell' = true ∧ c2.oneCell' = true := by
  obtain ⟨tk, ta, tn, tc, hv, _, _⟩ := h
  injection hv with hv
  injection hv with hv
  simp at hv
  obtain ⟨rfl, rfl, rfl⟩ := hv
  exact ⟨rfl, rfl, rfl⟩
/-- The cells of a row of typings, as a list. -/
def TypCells (w : World) (d : Nat) (cs : List Value) (C : List Bi) : Prop :=
  cs.length = C.length * 3 ∧ (∀ u ∈ cs, u.oneCell' = true) ∧ ∀ j (h : j < C.length), ∃ c0 c1 c2, cs[j * 3]? = some c0 ∧ cs[j * 3 + 1]? = some c1 ∧ cs[j * 3 + 2]? = some c2 ∧ BiAt w d (.agg #[c0, c1, c2]) C[j]
theorem TypCells.below {w w' : World} {d : Nat} {cs : List Value} {C : List Bi} (h : TypCells w d cs C) (hb : Below w.heap.size w w') : TypCells w' d cs C := by
  obtain ⟨h1, h2, h3⟩ := h
  refine ⟨h1, h2, fun j hj => ?_⟩
  obtain ⟨c0, c1, c2, e0, e1, e2, hr⟩ := h3 j hj
  exact ⟨c0, c1, c2, e0, e1, e2, hr.below hb⟩
theorem TypCells.snoc {w : World} {d : Nat} {cs : List Value} {C : List Bi} {c0 c1 c2 : Value} {b : Bi} (h : TypCells w d cs C) (hb : BiAt w d (.agg #[c0, c1, c2]) b) : TypCells w d (cs ++ [c0, c1, c2]) (C ++ [b]) := by
  obtain ⟨h1, h2, h3⟩ := h
  have ho := bi_three hb
  refine ⟨by simp; omega, fun u hu => ?_, fun j hj => ?_⟩
  · rcases List.mem_append.1 hu with hu | hu
    · exact h2 u hu
    · simp at hu
      rcases hu with rfl | rfl | rfl
      · exact ho.1
      · exact ho.2.1
      · exact ho.2.2
  · by_cases q : j < C.length
    · obtain ⟨x0, x1, x2, e0, e1, e2, hr⟩ := h3 j q
      refine ⟨x0, x1, x2, ?_, ?_, ?_, by rw [List.getElem_append_left q]; exact hr⟩
      · rw [List.getElem?_append_left (by omega)]; exact e0
      · rw [List.getElem?_append_left (by omega)]; exact e1
      · rw [List.getElem?_append_left (by omega)]; exact e2
    · have hj2 : j = C.length := by simp at hj; omega
      subst hj2
      refine ⟨c0, c1, c2, ?_, ?_, ?_, by rw [List.getElem_append_right (Nat.le_refl _)]; simpa using hb⟩
      · rw [List.getElem?_append_right (by omega), show C.length * 3 - cs.length = 0 from by omega]; rfl
      · rw [List.getElem?_append_right (by omega), show C.length * 3 + 1 - cs.length = 1 from by omega]; rfl
      · rw [List.getElem?_append_right (by omega), show C.length * 3 + 2 - cs.length = 2 from by omega]; rfl
/-- A row of typings that is read, as a list of cells. -/
theorem cells_of_bis {w : World} {d : Nat} {a : Option Addr} {n c : Nat} {C : List Bi} (h : BisAt w d (.slice a n c) C) : n = C.length ∧ n ≤ c ∧ c ≤ 9223372036854775807 ∧ ∃ cs, TypCells w d cs C ∧ ∀ p, a = some p → ∀ j u, cs[j]? = some u → w.cell? (p.add j) = some u := by
  obtain ⟨a', cap, hv, hcap, hm, hat⟩ := h
  injection hv with e1 e2 e3
  subst e1 e2 e3
  refine ⟨rfl, hcap, hm, ?_⟩
  cases ha : a with
  | none =>
    have hl : C.length = 0 := Nat.eq_zero_of_not_pos fun hp => by
      obtain ⟨_, _, _, _, _, h, _⟩ := hat 0 hp
      rw [ha] at h; cases h
    exact ⟨[], ⟨by simp [hl], fun u hu => by simp at hu, fun j hj => by omega⟩, fun p hp => by cases hp⟩
  | some p =>
    have hone : ∀ j (h : j < C.length), ∃ b off c0 c1 c2, p = ⟨b, off, none⟩ ∧ w.cell? ⟨b, off + j * 3, none⟩ = some c0 ∧ w.cell? ⟨b, off + j * 3 + 1, none⟩ = some c1 ∧ w.cell? ⟨b, off + j * 3 + 2, none⟩ = some c2 ∧ BiAt w d (.agg #[c0, c1, c2]) C[j] := fun j hj => by
      obtain ⟨b, off, c0, c1, c2, he, hlt, h0, h1, h2, ht⟩ := hat j hj
      rw [ha] at he
      exact ⟨b, off, c0, c1, c2, Option.some.inj he, h0, h1, h2, ht⟩
    refine ⟨(List.range (C.length * 3)).map fun o => (w.cell? (p.add o)).getD undef, ?_, ?_⟩
    · have hnj : ∀ j, j < C.length * 3 → ((List.range (C.length * 3)).map fun o => (w.cell? (p.add o)).getD undef)[j]? = some ((w.cell? (p.add j)).getD undef) := fun j hj => by
        rw [List.getElem?_map, List.getElem?_range hj, Option.map_some]
      refine ⟨by simp, fun u hu => ?_, fun j hj => ?_⟩
      · obtain ⟨j, hj, rfl⟩ := List.getElem_of_mem hu
        have hj3 : j < C.length * 3 := by simpa using hj
        have h4 := hnj j hj3
        rw [List.getElem?_eq_getElem hj] at h4
        rw [Option.some.inj h4]
        obtain ⟨b, off, c0, c1, c2, rfl, h0, h1, h2, ht⟩ := hone (j / 3) (by omega)
        have ho := bi_three ht
        rw [addr_add]
        have hm3 : j % 3 < 3 := Nat.mod_lt _ (by omega)
        have hj6 : j = j / 3 * 3 + j % 3 := by omega
        generalize j % 3 = r at hm3 hj6
        generalize j / 3 = q at h0 h1 h2 hj6
        subst hj6
        match r, hm3 with
        | 0, _ => rw [Nat.add_zero, h0]; exact ho.1
        | 1, _ => rw [← Nat.add_assoc, h1]; exact ho.2.1
        | 2, _ => rw [← Nat.add_assoc, h2]; exact ho.2.2
      · obtain ⟨b, off, c0, c1, c2, rfl, h0, h1, h2, ht⟩ := hone j hj
        refine ⟨c0, c1, c2, ?_, ?_, ?_, ht⟩
        · rw [hnj _ (by omega), addr_add, h0]; rfl
        · rw [hnj _ (by omega), addr_add, ← Nat.add_assoc, h1]; rfl
        · rw [hnj _ (by omega), addr_add, ← Nat.add_assoc, h2]; rfl
    · intro p' hp j u hu
      cases hp
      have hj : j < C.length * 3 := by have := (List.getElem?_eq_some_iff.1 hu).1; simpa using this
      rw [List.getElem?_map, List.getElem?_range hj, Option.map_some] at hu
      injection hu with hu
      obtain ⟨b, off, c0, c1, c2, rfl, h0, h1, h2, ht⟩ := hone (j / 3) (by omega)
      rw [addr_add] at hu ⊢
      have hm3 : j % 3 < 3 := Nat.mod_lt _ (by omega)
      have hj6 : j = j / 3 * 3 + j % 3 := by omega
      generalize j % 3 = r at hm3 hj6
      generalize j / 3 = q at h0 h1 h2 hj6
      subst hj6
      have key : ∃ y, w.cell? ⟨b, off + (q * 3 + r), none⟩ = some y := match r, hm3 with
        | 0, _ => ⟨_, h0⟩
        | 1, _ => ⟨_, h1⟩
        | 2, _ => ⟨_, h2⟩
      obtain ⟨y, hy⟩ := key
      rw [hy] at hu ⊢
      rw [← hu]; rfl
/-- A row of a call's own whose cells are those of typings reads as them. -/
theorem bis_of_own {w : World} {B d : Nat} {v : Value} {C : List Bi} {cs : List Value} (h : w.ownsRow B 61 3 v C.length cs) (hc : TypCells w d cs C) : BisAt w d v C := by
  have hlt := h.lt
  rcases h.2 with ⟨rfl, hn⟩ | ⟨g, cap, cur, rfl, hbg, hg, hnc, hcm, hcs, htk⟩
  · exact ⟨none, 0, by rw [hn], by omega, by omega, fun j hj => by omega⟩
  · refine ⟨some ⟨g, 0, none⟩, cap, rfl, hnc, by unfold maxLen at hcm; omega, fun j hj => ?_⟩
    obtain ⟨c0, c1, c2, e0, e1, e2, hr⟩ := hc.2.2 j hj
    refine ⟨g, 0, c0, c1, c2, rfl, (hlt g rfl).2, ?_, ?_, ?_, hr⟩
    · rw [Nat.zero_add, h.cellAt (j * 3) (by omega)]; exact e0
    · rw [Nat.zero_add, h.cellAt (j * 3 + 1) (by omega)]; exact e1
    · rw [Nat.zero_add, h.cellAt (j * 3 + 2) (by omega)]; exact e2
/-- Typings that are appended to an empty slice of the call's own. -/
theorem typ_own_by (ty : TypeId) (wo w : World) (B d : Nat) (b : Addr) (v : Value) (C : List Bi) (hB : B ≤ w.heap.size) (hb : w.ownsRow B 61 3 (.slice (some b) 0 0) 0 []) (hv : BisAt wo d v C) (hbo : Below wo.heap.size wo w) (hn : C.length ≤ 1048576) :
    ∃ v' w', (Builtin.append_ #[36, 36] ty #[.slice (some b) 0 0, v]).run Tryz.prog w = .ok v' w' ∧ (∃ cs, w'.ownsRow B 61 3 v' C.length cs ∧ TypCells wo d cs C) ∧ Below w.heap.size w w' := by
  obtain ⟨i0, hi, hz0, hz1, hz2⟩ := info_parts info_typ
  obtain ⟨a, cap, rfl, hcap, hm, hat⟩ := hv
  obtain ⟨_, _, _, cs, hcs, hsrc⟩ := cells_of_bis (w := wo) (d := d) (a := a) (n := C.length) (c := cap) (C := C) ⟨a, cap, rfl, hcap, hm, hat⟩
  by_cases h0 : 0 < C.length
  · obtain ⟨g, off, _, _, _, rfl, hgl, _⟩ := hat 0 h0
    obtain ⟨v', w', hr, ho, hgr⟩ := run_append_arg_grows (P := Tryz.prog) (w := w) 36 ty 61 i0 (.agg #[.string ⟨#[]⟩, .int .i64 0, .slice none 0 0]) 3 48 Tryz.underlying36 hi hz0 hz1 hz2 rfl (by omega) b 0 0 [] rfl (fun j u h => by simp at h)
      ⟨g, off, none⟩ C.length cap cs hcs.1 (fun j u hu => by have h1 := hsrc _ rfl j u hu; rw [addr_add] at h1 ⊢; exact (hbo.cell (p := ⟨g, off + j, none⟩) hgl).trans h1) (by omega) (by unfold maxLen; omega) (by omega)
    rw [Nat.zero_add, List.nil_append] at ho
    exact ⟨v', w', hr, ⟨cs, own_lower ho hB, hcs⟩, (Below.refl _ w).grown hgr (Nat.le_refl _) (fun k e => by cases e)⟩
  · have hp : C = [] := List.length_eq_zero_iff.1 (by omega)
    subst hp
    have hcs0 : cs = [] := List.length_eq_zero_iff.1 (by have := hcs.1; simpa using this)
    subst hcs0
    refine ⟨_, w, run_append_nothing w 36 36 ty 61 i0 Tryz.underlying36 hi (some b) 0 0 (Nat.le_refl _) (.slice a 0 cap) ?_, ⟨[], hb, hcs⟩, Below.refl _ _⟩
    cases a with
    | none => exact Src.ofNil w Tryz.underlying36 cap
    | some a => exact Src.ofSlice w Tryz.underlying36 a 0 cap [] (by simp) (fun j u h => by simp at h) (by simp)
theorem TypCells.mono {w : World} {d d' : Nat} {cs : List Value} {C : List Bi} (h : TypCells w d cs C) (hd : d ≤ d') : TypCells w d' cs C := by
  obtain ⟨h1, h2, h3⟩ := h
  refine ⟨h1, h2, fun j hj => ?_⟩
  obtain ⟨c0, c1, c2, e0, e1, e2, hr⟩ := h3 j hj
  exact ⟨c0, c1, c2, e0, e1, e2, hr.mono hd⟩
theorem row_slice {w : World} {B : Nat} {e : TypeId} {size : Nat} {v : Value} {n : Nat} {xs : List Value} (h : w.ownsRow B e size v n xs) : ∃ a m c, v = .slice a m c := by
  rcases h.2 with ⟨rfl, _⟩ | ⟨g, cap, cur, rfl, _⟩
  · exact ⟨_, _, _, rfl⟩
  · exact ⟨_, _, _, rfl⟩
/-- One typing more behind the others. -/
def CtxEnd (C : List Bi) (w : World) (e : Ending) (w' : World) : Prop := ∃ D a n c, e = .returned (.slice a n c) ∧ BisAt w' D (.slice a n c) C ∧ Below w.heap.size w w'
end Go.Proofs.YteffjeejbdjjpaaGreatDoor
namespace Go.Proofs.YteffjeejbdjjpaaGreatDoor
open Go.ChangeShapes Go.WideShapes Go.ChangeAt Go.RowKit Go.WideMaps Go.WideElems

theorem und_lbi : Tryz.prog.underlying 56 = some (.struct #[⟨"Name", 9, 0, false, "", "", 0⟩, ⟨"Type", 25, 1, false, "", "", 16⟩]) := by kernel_rfl
theorem und_lbis : Tryz.prog.underlying 22 = some (.slice 56) := by kernel_rfl
theorem cells_lbi : Tryz.prog.cellsOf 56 = 3 := by kernel_rfl
theorem cells_bstr : Tryz.prog.cellsOf 9 = 1 := by kernel_rfl
theorem list_tri {α : Type} : ∀ (l : List α), l.length = 3 → ∃ a b c, l = [a, b, c]
  | [a, b, c], _ => ⟨a, b, c, rfl⟩
set_option maxRecDepth 100000 in
set_option maxHeartbeats 1000000 in
theorem lbi_open {H : Type} {enc : TypeId × Value → H} {W : World} {base : Nat} {sp : Nat → Bool} {held : Bool} (fuel : Nat) (cs : List Value) (x : DataW H × List MemPlace) (h : DataW.trod enc Tryz.prog W base sp held fuel 56 cs = some x) :
    ∃ c0 c1 c2 t, cs = [c0, c1, c2] ∧ BiAt W fuel (.agg #[c0, c1, c2]) t := by
  obtain ⟨xs, n, rfl, _, hl, hlen, hf⟩ := DataW.trod_struct und_lbi h
  rw [cells_lbi] at hl
  obtain ⟨c0, c1, c2, rfl⟩ := list_tri cs hl
  have g0 : DataW.trod enc Tryz.prog W base sp held n 9 (([c0, c1, c2].drop 0).take (Tryz.prog.cellsOf 9)) = xs[0]? := hf 0 ⟨"Name", 9, 0, false, "", "", 0⟩ rfl
  have g1 : DataW.trod enc Tryz.prog W base sp held n 25 (([c0, c1, c2].drop 1).take (Tryz.prog.cellsOf 25)) = xs[1]? := hf 1 ⟨"Type", 25, 1, false, "", "", 16⟩ rfl
  rw [cells_bstr] at g0
  rw [cells_lty] at g1
  have hlen2 : xs.length = 2 := hlen
  clear hf hlen
  simp only [List.drop_zero, List.take_succ_cons, List.take_zero, List.drop_succ_cons] at g0 g1
  obtain ⟨y0, hy0⟩ : ∃ y, xs[0]? = some y := ⟨_, List.getElem?_eq_getElem (by rw [hlen2]; decide)⟩
  obtain ⟨y1, hy1⟩ : ∃ y, xs[1]? = some y := ⟨_, List.getElem?_eq_getElem (by rw [hlen2]; decide)⟩
  rw [hy0] at g0
  rw [hy1] at g1
  obtain ⟨nm, hnm, _, hnml⟩ := DataW.trod_string Tryz.underlying9 g0
  cases hnm
  obtain ⟨d0, d1, ty, hty, htya⟩ := lty_open n _ _ g1
  cases hty
  have hnm2 : nm.size ≤ 9223372036854775807 := by unfold maxLen at hnml; omega
  obtain ⟨tk, ta, tn, tc, hv⟩ := agg_parts htya
  injection hv with hv
  injection hv with hv
  simp at hv
  obtain ⟨rfl, rfl⟩ := hv
  exact ⟨_, _, _, ⟨nm, ty⟩, rfl, ⟨_, _, _, _, rfl, hnm2, htya.succ⟩⟩
set_option maxRecDepth 100000 in
set_option maxHeartbeats 1000000 in
theorem lbis_open {H : Type} {enc : TypeId × Value → H} {W : World} {base : Nat} {sp : Nat → Bool} {held : Bool} {fuel : Nat} {v : Value} {x : DataW H × List MemPlace} (h : DataW.trod enc Tryz.prog W base sp held fuel 22 [v] = some x) :
    ∃ d bs, BisAt W d v bs := by
  rcases DataW.trod_slice und_lbis h with ⟨hcs, _⟩ | ⟨a, len, cap, elems, rest, m, hm, hcs, _, hb, hlc, hcm, hel, hget, _, _⟩
  · cases hcs
    exact ⟨0, [], none, 0, rfl, Nat.le_refl _, by omega, fun j hj => by simp at hj⟩
  · cases hcs
    have first : 0 < len → a.spot = none := by
      intro h0
      have hg0 := hget 0 h0
      rw [cells_lbi, List.getElem?_eq_getElem (by omega)] at hg0
      obtain ⟨cs2, hc2, ht2⟩ := Option.bind_eq_some_iff.1 hg0
      obtain ⟨d0, d1, d2, t, rfl, _⟩ := lbi_open m cs2 _ ht2
      obtain ⟨_, _, hc⟩ := World.cells?_some hc2
      have e0 := hc 0 (by omega)
      exact World.cell?_spot (show W.cell? a = some d0 from e0)
    obtain ⟨b, off, spot⟩ := a
    have each : ∀ j, j < len → ∃ t, ∃ c0 c1 c2, spot = none ∧ b < W.heap.size ∧ W.cell? ⟨b, off + j * 3, none⟩ = some c0 ∧ W.cell? ⟨b, off + j * 3 + 1, none⟩ = some c1 ∧ W.cell? ⟨b, off + j * 3 + 2, none⟩ = some c2 ∧ BiAt W m (.agg #[c0, c1, c2]) t := by
      intro j hj
      have hgj := hget j hj
      have hspot : spot = none := first (by omega)
      subst hspot
      rw [cells_lbi, List.getElem?_eq_getElem (by omega), ty_addr] at hgj
      obtain ⟨cs2, hc2, ht2⟩ := Option.bind_eq_some_iff.1 hgj
      obtain ⟨d0, d1, d2, t, rfl, hty⟩ := lbi_open m cs2 _ ht2
      obtain ⟨_, _, hc⟩ := World.cells?_some hc2
      have e0 := hc 0 (by omega)
      have e1 := hc 1 (by omega)
      have e2 := hc 2 (by omega)
      rw [ty_addr] at e0 e1 e2
      exact ⟨t, d0, d1, d2, rfl, World.cells?_block hc2 (by omega), e0, e1, e2, hty⟩
    obtain ⟨ts, hts, hp⟩ := list_choose len each
    refine ⟨m, ts, some ⟨b, off, spot⟩, cap, by rw [hts], by omega, by unfold maxLen at hcm; omega, fun j hj => ?_⟩
    obtain ⟨c0, c1, c2, rfl, h1, h2, h3, h4, h5⟩ := hp j hj
    exact ⟨b, off, c0, c1, c2, rfl, h1, h2, h3, h4, h5⟩
set_option maxRecDepth 100000 in
theorem bis_of_arg {H : Type} {enc : TypeId × Value → H} {W : World} {base b0 : Nat} {v : Value} {x : DataW H} {ps : List MemPlace} (hval : Value.okWide Tryz.prog W .any b0 22 v)
    (h : DataW.Trod enc Tryz.prog W base (fun _ => true) true 22 v x ps) : ∃ d bs, BisAt W d v bs := by
  obtain ⟨a0, len, cap, rfl⟩ := okWide_slice und_lbis hval
  obtain ⟨fuel, hf⟩ := h
  exact lbis_open hf
end Go.Proofs.YteffjeejbdjjpaaGreatDoor
