/-
  Proved: the law FnExactCheckType: for all typings, every expression and every type, impl.CheckType returns the same as the reference and changes no argument; the program's tables and its sentinel hold what its text lays (the card ties it).
-/
import Derived.Test.YteffjeejbdjjpaaGreatDoorWellG13
import Derived.Test.YteffjeejbdjjpaaGreatDoorWellG2
import Derived.Test.YteffjeejbdjjpaaGreatDoorCards
import Derived.Test.YteffjeejbdjjpaaGreatDoorTie
import Derived.Test.YteffjeejbdjjpaaGreatDoorWellG7
import Derived.Deep.DeepHandedRow
import Derived.Lib.LaidTab
import Derived.LaidMore
import Derived.Test.YteffjeejbdjjpaaGreatDoorChkA
import Derived.Test.YteffjeejbdjjpaaGreatDoorWellG20
import Derived.ChangeVars
import Derived.OpenShut
/-
  Proved: an expression's tree that came in as an argument reads as a tree.
-/
namespace Go.Proofs.YteffjeejbdjjpaaGreatDoor
open Go.ChangeShapes Go.WideShapes Go.ChangeAt Go.RowKit Go.WideMaps Go.WideElems

theorem und_lex : Tryz.prog.underlying 28 = some (.struct #[⟨"Kind", 3, 0, false, "", "", 0⟩, ⟨"Name", 9, 1, false, "", "", 8⟩, ⟨"N", 3, 2, false, "", "", 24⟩, ⟨"Type", 25, 3, false, "", "", 32⟩, ⟨"Args", 26, 5, false, "", "", 64⟩]) := by kernel_rfl
theorem und_lexs : Tryz.prog.underlying 26 = some (.slice 28) := by kernel_rfl
theorem cells_lex : Tryz.prog.cellsOf 28 = 6 := by kernel_rfl
theorem cells_lexs : Tryz.prog.cellsOf 26 = 1 := by kernel_rfl
theorem cells_string : Tryz.prog.cellsOf 9 = 1 := by kernel_rfl
theorem RowEx.mono {w : World} {R S : Value → Ex → Prop} {v : Value} {es : List Ex} (h : RowEx R w v es) (hRS : ∀ v e, R v e → S v e) : RowEx S w v es := h.weaker hRS
theorem ExAt.succ {w : World} : ∀ {d : Nat} {v : Value} {e : Ex}, ExAt w d v e → ExAt w (d + 1) v e
  | 0, _, _, h => h.elim
  | d + 1, v, .node k nm n ty es, h => by
    obtain ⟨c3, c4, sl, hv, h0, h1, h2, h3, h4, ht, h⟩ := h
    exact ⟨c3, c4, sl, hv, h0, h1, h2, h3, h4, ht.succ, h.weaker fun v e h => ExAt.succ h⟩
theorem ExAt.mono {w : World} {d d' : Nat} {v : Value} {e : Ex} (h : ExAt w d v e) (hd : d ≤ d') : ExAt w d' v e := by
  induction hd with
  | refl => exact h
  | step _ ih => exact ih.succ
theorem list_six {α : Type} : ∀ (l : List α), l.length = 6 → ∃ a b c d e f, l = [a, b, c, d, e, f]
  | [a, b, c, d, e, f], _ => ⟨a, b, c, d, e, f, rfl⟩

set_option maxRecDepth 100000 in
set_option maxHeartbeats 1000000 in
theorem lex_open {H : Type} {enc : TypeId × Value → H} {W : World} {base : Nat} {sp : Nat → Bool} {held : Bool} (fuel : Nat) : ∀ (cs : List Value) (x : DataW H × List MemPlace), DataW.trod enc Tryz.prog W base sp held fuel 28 cs = some x →
    ∃ c0 c1 c2 c3 c4 c5 t, cs = [c0, c1, c2, c3, c4, c5] ∧ ExAt W fuel (.agg #[c0, c1, c2, c3, c4, c5]) t := by
  induction fuel using Nat.strongRecOn with
  | ind fuel ih =>
    intro cs x h
    obtain ⟨xs, n, rfl, _, hl, hlen, hf⟩ := DataW.trod_struct und_lex h
    rw [cells_lex] at hl
    obtain ⟨c0, c1, c2, c3, c4, c5, rfl⟩ := list_six cs hl
    have g0 : DataW.trod enc Tryz.prog W base sp held n 3 (([c0, c1, c2, c3, c4, c5].drop 0).take (Tryz.prog.cellsOf 3)) = xs[0]? := hf 0 ⟨"Kind", 3, 0, false, "", "", 0⟩ rfl
    have g1 : DataW.trod enc Tryz.prog W base sp held n 9 (([c0, c1, c2, c3, c4, c5].drop 1).take (Tryz.prog.cellsOf 9)) = xs[1]? := hf 1 ⟨"Name", 9, 1, false, "", "", 8⟩ rfl
    have g2 : DataW.trod enc Tryz.prog W base sp held n 3 (([c0, c1, c2, c3, c4, c5].drop 2).take (Tryz.prog.cellsOf 3)) = xs[2]? := hf 2 ⟨"N", 3, 2, false, "", "", 24⟩ rfl
    have g3 : DataW.trod enc Tryz.prog W base sp held n 25 (([c0, c1, c2, c3, c4, c5].drop 3).take (Tryz.prog.cellsOf 25)) = xs[3]? := hf 3 ⟨"Type", 25, 3, false, "", "", 32⟩ rfl
    have g4 : DataW.trod enc Tryz.prog W base sp held n 26 (([c0, c1, c2, c3, c4, c5].drop 5).take (Tryz.prog.cellsOf 26)) = xs[4]? := hf 4 ⟨"Args", 26, 5, false, "", "", 64⟩ rfl
    rw [cells_int] at g0 g2
    rw [cells_string] at g1
    rw [cells_lty] at g3
    rw [cells_lexs] at g4
    have hlen2 : xs.length = 5 := hlen
    clear hf hlen
    simp only [List.drop_zero, List.take_succ_cons, List.take_zero, List.drop_succ_cons] at g0 g1 g2 g3 g4
    obtain ⟨y0, hy0⟩ : ∃ y, xs[0]? = some y := ⟨_, List.getElem?_eq_getElem (by rw [hlen2]; decide)⟩
    obtain ⟨y1, hy1⟩ : ∃ y, xs[1]? = some y := ⟨_, List.getElem?_eq_getElem (by rw [hlen2]; decide)⟩
    obtain ⟨y2, hy2⟩ : ∃ y, xs[2]? = some y := ⟨_, List.getElem?_eq_getElem (by rw [hlen2]; decide)⟩
    obtain ⟨y3, hy3⟩ : ∃ y, xs[3]? = some y := ⟨_, List.getElem?_eq_getElem (by rw [hlen2]; decide)⟩
    obtain ⟨y4, hy4⟩ : ∃ y, xs[4]? = some y := ⟨_, List.getElem?_eq_getElem (by rw [hlen2]; decide)⟩
    rw [hy0] at g0
    rw [hy1] at g1
    rw [hy2] at g2
    rw [hy3] at g3
    rw [hy4] at g4
    have e1 : IntKind.i64.min = -9223372036854775808 := by kernel_rfl
    have e2 : IntKind.i64.max = 9223372036854775807 := by kernel_rfl
    obtain ⟨k, hk, _, hwf⟩ := DataW.trod_int Tryz.underlying3 g0
    cases hk
    have hkb : -9223372036854775808 ≤ k ∧ k ≤ 9223372036854775807 := by
      simp only [Lit.wf, Bool.and_eq_true, decide_eq_true_eq] at hwf
      rw [e1, e2] at hwf
      exact hwf
    obtain ⟨nn, hnn, _, hwf2⟩ := DataW.trod_int Tryz.underlying3 g2
    cases hnn
    have hnb : -9223372036854775808 ≤ nn ∧ nn ≤ 9223372036854775807 := by
      simp only [Lit.wf, Bool.and_eq_true, decide_eq_true_eq] at hwf2
      rw [e1, e2] at hwf2
      exact hwf2
    obtain ⟨nm, hnm, _, hnml⟩ := DataW.trod_string Tryz.underlying9 g1
    cases hnm
    obtain ⟨d0, d1, ty, hty, htya⟩ := lty_open n _ _ g3
    cases hty
    have hnm2 : nm.size ≤ 9223372036854775807 := by unfold maxLen at hnml; omega
    rcases DataW.trod_slice und_lexs g4 with ⟨hcs, _⟩ | ⟨a, len, cap, elems, rest, m, hm, hcs, _, hb, hlc, hcm, hel, hget, _, _⟩
    · cases hcs
      exact ⟨_, _, _, _, _, _, .node k nm nn ty [], rfl, ⟨_, _, _, rfl, hkb.1, hkb.2, hnb.1, hnb.2, hnm2, htya, none, 0, rfl, Nat.le_refl _, by omega, fun j hj => by simp at hj⟩⟩
    · cases hcs
      have first : 0 < len → a.spot = none := by
        intro h0
        have hg0 := hget 0 h0
        rw [cells_lex, List.getElem?_eq_getElem (by omega)] at hg0
        obtain ⟨cs2, hc2, ht2⟩ := Option.bind_eq_some_iff.1 hg0
        obtain ⟨d0, d1, d2, d3, d4, d5, t, rfl, _⟩ := ih m (by omega) cs2 _ ht2
        obtain ⟨_, _, hc⟩ := World.cells?_some hc2
        have e0 := hc 0 (by omega)
        exact World.cell?_spot (show W.cell? a = some d0 from e0)
      obtain ⟨b, off, spot⟩ := a
      have each : ∀ j, j < len → ∃ t, ∃ c0 c1 c2 c3 c4 c5, spot = none ∧ b < W.heap.size ∧ W.cell? ⟨b, off + j * 6, none⟩ = some c0 ∧ W.cell? ⟨b, off + j * 6 + 1, none⟩ = some c1 ∧ W.cell? ⟨b, off + j * 6 + 2, none⟩ = some c2 ∧
          W.cell? ⟨b, off + j * 6 + 3, none⟩ = some c3 ∧ W.cell? ⟨b, off + j * 6 + 4, none⟩ = some c4 ∧ W.cell? ⟨b, off + j * 6 + 5, none⟩ = some c5 ∧ ExAt W m (.agg #[c0, c1, c2, c3, c4, c5]) t := by
        intro j hj
        have hgj := hget j hj
        have hspot : spot = none := first (by omega)
        subst hspot
        rw [cells_lex, List.getElem?_eq_getElem (by omega), ty_addr] at hgj
        obtain ⟨cs2, hc2, ht2⟩ := Option.bind_eq_some_iff.1 hgj
        obtain ⟨d0, d1, d2, d3, d4, d5, t, rfl, hty⟩ := ih m (by omega) cs2 _ ht2
        obtain ⟨_, _, hc⟩ := World.cells?_some hc2
        have e0 := hc 0 (by omega)
        have e1 := hc 1 (by omega)
        have e2 := hc 2 (by omega)
        have e3 := hc 3 (by omega)
        have e4 := hc 4 (by omega)
        have e5 := hc 5 (by omega)
        rw [ty_addr] at e0 e1 e2 e3 e4 e5
        exact ⟨t, d0, d1, d2, d3, d4, d5, rfl, World.cells?_block hc2 (by omega), e0, e1, e2, e3, e4, e5, hty⟩
      obtain ⟨ts, hts, hp⟩ := list_choose len each
      refine ⟨_, _, _, _, _, _, .node k nm nn ty ts, rfl, ⟨_, _, _, rfl, hkb.1, hkb.2, hnb.1, hnb.2, hnm2, htya, some ⟨b, off, spot⟩, cap, by rw [hts], by omega, by unfold maxLen at hcm; omega, fun j hj => ?_⟩⟩
      obtain ⟨c0, c1, c2, c3, c4, c5, rfl, h1, h2, h3, h4, h5, h6, h7, h8⟩ := hp j hj
      exact ⟨b, off, c0, c1, c2, c3, c4, c5, rfl, h1, h2, h3, h4, h5, h6, h7, h8.mono (by omega)⟩
set_option maxRecDepth 100000 in
theorem ex_of_arg {H : Type} {enc : TypeId × Value → H} {W : World} {base b0 : Nat} {v : Value} {x : DataW H} {ps : List MemPlace} (hval : Value.okWide Tryz.prog W .any b0 28 v)
    (h : DataW.Trod enc Tryz.prog W base (fun _ => true) true 28 v x ps) : ∃ d t, ExAt W d v t := by
  obtain ⟨cs, rfl, _⟩ := okWide_struct und_lex hval
  obtain ⟨fuel, hf⟩ := h
  obtain ⟨c0, c1, c2, c3, c4, c5, t, hc, ht⟩ := lex_open fuel _ _ hf
  have hcs : cs.toList = [c0, c1, c2, c3, c4, c5] := hc
  have e : cs = #[c0, c1, c2, c3, c4, c5] := Array.toList_inj.1 hcs
  subst e
  exact ⟨fuel, t, ht⟩
end Go.Proofs.YteffjeejbdjjpaaGreatDoor
namespace Go.Proofs.YteffjeejbdjjpaaGreatDoor.ExactCheckType
open Go.ChangeShapes Go.WideShapes Go.ChangeAt Go.RowKit Go.WideMaps Go.WideElems
open Go.ChangeMaps (setBlock shut_map_nil open_string shut_string keptBut_setBlock frozen?_setBlock heap_setBlock_same)
/-- Where the sentinel lies at the start. -/
noncomputable def errBox (os : Os) : Value := match (((World.doorLaid Tryz.prog 512 os)).forCall (fun _ _ => 0) ⟨#[], #[], []⟩).memory.cell? ⟨0, 0, none⟩ with | some (.iface _ x) => x | _ => .nilIface
theorem whole_of {α β γ : Type} {x : Option (α × β × γ)} {a : α} {b : β} (h : x.map (fun y => (y.1, y.2.1)) = some (a, b)) : ∃ places, x = some (a, b, places) := by
  obtain ⟨⟨a', b', c⟩, h1, h2⟩ := Option.map_eq_some_iff.1 h
  injection h2 with h2 h3
  exact ⟨c, by rw [h1]; subst h2 h3; rfl⟩
set_option maxRecDepth 100000 in
theorem contract (H : Type) (enc : TypeId × Value → H) (W : World) (base : Nat) (args : Array Value) (ds gs : List (DataW H)) (before : List MemPlace)
    (hval : ∀ (j : Nat) t v, Tryz.f4.params[j]? = some t → args[j]? = some v → Value.okWide Tryz.prog W .any base t v)
    (hW : DataW.Whole enc Tryz.prog Tryz.f4.params.toList Rows.fnExactCheckTypeSpec.vars false W args.toList ds gs before) (hL : laidMetH Tryz.prog Rows.fnExactCheckTypeRow.laid W)
    (_hsz : (DataW.weightsEach Tryz.prog (Tryz.f4.params.toList ++ (OpenSpec.ofChange Rows.fnExactCheckTypeSpec).bare.plain.varTypes Tryz.prog) (ds ++ gs)).all (· ≤ reachBytes) = true) (_hsh : W.ShapedOpen Tryz.prog) :
    Calls Tryz.prog 4 args W fun e W' => ∃ v, e = .returned v ∧ Rows.fnExactCheckTypeSpec.post enc Tryz.prog Tryz.f4 false true false false W args v W' := by
  have hW' := hW
  obtain ⟨p, q, hA0, hV, rfl, hfz, hnd⟩ := hW
  have hA : DataW.TrodAll enc Tryz.prog W 0 (fun _ => true) true Tryz.f4.params.toList args.toList ds p := hA0
  rw [Tryz.params4] at hA hval
  obtain ⟨v0, vs0, d0, ds0, p0, q0, hargs, rfl, rfl, h0, r0⟩ := trodAll_cons hA
  obtain ⟨v1, vs1, d1, ds1, p1, q1, rfl, rfl, rfl, h1, r1⟩ := trodAll_cons r0
  obtain ⟨v2, vs2, d2, ds2, p2, q2, rfl, rfl, rfl, h2, r2⟩ := trodAll_cons r1
  obtain ⟨rfl, rfl, rfl⟩ := trodAll_nil r2
  obtain rfl : args = #[v0, v1, v2] := by cases args; simp_all
  obtain ⟨g0, g1, g2, rfl⟩ := vars_three hV
  obtain ⟨e0, t0, ht0⟩ := bis_of_arg (hval 0 22 v0 rfl rfl) h0
  obtain ⟨e1, t1, ht1⟩ := ex_of_arg (hval 1 28 v1 rfl rfl) h1
  obtain ⟨e2, t2, ht2⟩ := ty_of_arg (hval 2 25 v2 rfl rfl) h2
  rw [MakeChecks.laidMetH_plain _ _ _ (by kernel_rfl)] at hL
  have hmt : MeetTab W := meetTab_of (laid_head hL)
  have htab : Lib.TabIs Tryz.prog W "loop.example/g00585/impl.arities" .i64 arTab :=
    Lib.tabIs_of_head (g := 1) (t := 136) (e := 3) (n := 15) (by kernel_rfl) (by kernel_rfl) Tryz.underlying136 Tryz.underlying3 (by kernel_rfl) (by kernel_rfl) hL.tail
  obtain ⟨pe, herr⟩ := errAt_of hL.tail.tail
  refine Calls.mono (checkTypeWalk e1 e0 e2 pe v0 v1 v2 t0 t1 t2 W ht0 ht1 ht2 herr hmt htab) fun e W' ⟨he, hg⟩ => ?_
  subst he
  exact ⟨_, rfl, Law.law_post_vars hW' (by kernel_rfl) (by kernel_rfl) Tryz.underlying4 (by kernel_rfl) (by kernel_rfl) rfl hg⟩
set_option maxRecDepth 100000 in
theorem laid_met (os : Os) : laidMet Tryz.prog Rows.fnExactCheckTypeRow.laid (((World.doorLaid Tryz.prog 512 os)).forCall (fun _ _ => 0) ⟨#[], #[.slice none 0 0, .agg #[.int .i64 0, .string ⟨#[]⟩, .int .i64 0, .int .i64 0, .slice none 0 0, .slice none 0 0], .agg #[.int .i64 0, .slice none 0 0]], []⟩).memory :=
  laidMet_of_run' 8 (by kernel_rfl) (by kernel_rfl)
theorem reads (os : Os) {H : Type} (enc : TypeId × Value → H) : ∃ places, DataW.whole enc Tryz.prog (((World.doorLaid Tryz.prog 512 os)).forCall (fun _ _ => 0) ⟨#[], #[.slice none 0 0, .agg #[.int .i64 0, .string ⟨#[]⟩, .int .i64 0, .int .i64 0, .slice none 0 0, .slice none 0 0], .agg #[.int .i64 0, .slice none 0 0]], []⟩).memory Tryz.f4.params.toList Rows.fnExactCheckTypeSpec.vars false (#[.slice none 0 0, .agg #[.int .i64 0, .string ⟨#[]⟩, .int .i64 0, .int .i64 0, .slice none 0 0, .slice none 0 0], .agg #[.int .i64 0, .slice none 0 0]] : Array Value).toList 8 = some ([.nil, .agg [.lit (.int .i64 0), .lit (.string []), .lit (.int .i64 0), .agg [.lit (.int .i64 0), .nil], .nil], .agg [.lit (.int .i64 0), .nil]], [.held (enc (141, errBox os)), Rows.laid_loop_example_g00585_impl_arities, Rows.laid_loop_example_g00585_impl_meetings], places) :=
  whole_of (by kernel_rfl)
set_option maxRecDepth 100000 in
theorem lifted (os : Os) (started : os.Started) (H : Type) (enc : TypeId × Value → H) (F : Stop.Interp) :
    ReturnsInHanded {} Tryz.checked os 4 .any ((OpenSpec.ofChange Rows.fnExactCheckTypeSpec).preRow enc Tryz.prog Tryz.f4 Rows.fnExactCheckTypeRow.domain false Rows.fnExactCheckTypeRow.laid) (((OpenSpec.ofChange Rows.fnExactCheckTypeSpec).at F).post enc Tryz.prog Tryz.f4 false true false false) := by
  obtain ⟨places, hx⟩ := reads os enc
  refine returnsInHanded_of_row (C := Tryz.checked) (s := OpenSpec.ofChange Rows.fnExactCheckTypeSpec) (by kernel_rfl) started (by kernel_rfl) Tryz.func4
    (witness_row_atRef (enc := enc) (C := Tryz.checked) false (World.doorLaid Tryz.prog 512 os) #[.slice none 0 0, .agg #[.int .i64 0, .string ⟨#[]⟩, .int .i64 0, .int .i64 0, .slice none 0 0, .slice none 0 0], .agg #[.int .i64 0, .slice none 0 0]] rfl (by kernel_rfl) (by kernel_rfl) (by kernel_rfl)
      (OpenSpec.preRow_of_cond 8 hx (by kernel_rfl) (fun k hk => by cases hk) (by kernel_rfl) (laid_met os))) ?_
  intro W base args ds gs before hval hW _ _ hsz hL hsh _
  exact contract H enc W base args ds gs before hval hW hL hsz hsh
theorem said : Rows.FnExactCheckTypeSaid :=
  OpenClaim.holds_of_cond 4 Tryz.f4 rfl rfl rfl rfl rfl rfl rfl ⟨rfl, rfl, rfl, rfl, rfl⟩ rfl rfl rfl rfl rfl (by kernel_rfl) Tryz.func4 (by kernel_rfl)
    (of_decide_eq_true (by kernel_rfl)) (by unfold Func.isWrapper; first | (rw [if_pos (by decide +kernel)]; kernel_rfl) | (rw [if_neg (by decide +kernel)]; exact ⟨rfl, rfl⟩))
    (fun os started H enc _ F => by rw [OpenClaim.pre_eq_preRow]; exact lifted os started H enc F)
theorem plain (f : FuncId) (fn : Func) (hf : Tryz.pinned.checked.prog.funcNamed "loop.example/g00585/laws.FnExactCheckType" = some f) (hfn : Tryz.pinned.checked.prog.funcs[f]? = some fn) :
    true = Tryz.pinned.checked.prog.looks [] ∧ ∀ (j : Nat) t, fn.params[j]? = some t → Tryz.pinned.checked.prog.wantsStandIn t = false := by
  obtain rfl : f = 4 := Option.some.inj ((show Tryz.prog.funcNamed "loop.example/g00585/laws.FnExactCheckType" = some 4 by kernel_rfl).symm.trans hf) |>.symm
  obtain rfl : fn = Tryz.f4 := (Option.some.inj (Tryz.func4.symm.trans hfn)).symm
  refine ⟨by kernel_rfl, fun j t ht => ?_⟩
  rw [Tryz.params4] at ht
  have hm : t ∈ [22, 28, 25] := by simpa using Array.mem_of_getElem? ht
  have hall : ([22, 28, 25].all fun u => !Tryz.prog.wantsStandIn u) = true := by kernel_rfl
  exact (show Tryz.prog.wantsStandIn t = false by simpa using List.all_eq_true.1 hall t hm)
theorem card : Rows.FnExactCheckTypeCardSaid :=
  Claim7.holds_tied_plain_at .later [] _ _ _ _ said (fun _ h => by cases h) (by kernel_rfl) (fun _ h => by cases h) fnExactCheckType_row_tie rfl ⟨rfl, rfl⟩ (by kernel_rfl) rfl plain (by kernel_rfl)
end Go.Proofs.YteffjeejbdjjpaaGreatDoor.ExactCheckType
