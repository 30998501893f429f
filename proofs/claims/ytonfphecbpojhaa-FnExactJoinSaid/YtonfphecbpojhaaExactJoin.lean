/-
  Proved: the law FnExactJoin: for every list of strings and every separator, impl.Join returns the same string as the reference and changes no argument. Nothing is asked of the input.
-/
import Derived.Test.YtonfphecbpojhaaRows
import Derived.Test.YtonfphecbpojhaaLaw
import Derived.Deep.DeepHandedRow
import Derived.Lib.LaidTab
import Derived.LaidMore
import Derived.Test.YtonfphecbpojhaaStrsArg
import Derived.Test.YtonfphecbpojhaaToStrs
import Derived.Test.YtonfphecbpojhaaSzStrs
import Derived.Test.YtonfphecbpojhaaEqStrs
import Derived.Test.YtonfphecbpojhaaImplJoin
namespace Go.Proofs.Ytonfphecbpojhaa.ExactJoin
open Go.ChangeShapes Go.WideShapes Go.ChangeAt Go.RowKit Go.WideMaps Go.WideElems
open Go.ChangeMaps (setBlock shut_map_nil open_string shut_string keptBut_setBlock frozen?_setBlock heap_setBlock_same)

set_option maxRecDepth 100000 in
set_option maxHeartbeats 1000000 in
theorem walk (v : Value) (ss : List ByteArray) (sep : ByteArray) (hn : ss.length ≤ 9223372036854775807) (hsz : ∀ j (h : j < ss.length), ss[j].size ≤ 9223372036854775807) (hlen : sep.size ≤ maxLen) (w : World) (h : Strs w v ss) :
    Calls Try.prog 3 #[v, .string sep] w fun e w' => e = .returned (.bool true) ∧ Below w.heap.size w w' := by
  unfold maxLen at hlen
  have HS := Lib.hid h; clear h
  have HZ := Lib.hid hsz; clear hsz
  by_cases hs : 1048576 < sep.size
  · go_enter Try.func3, Try.ntmps3
    go_wp2_with fail
    go_ret
    exact ⟨rfl, Below.refl _ _⟩
  · go_enter Try.func3, Try.ntmps3
    go_wp2_with fail
    refine (szStrs v ss 1048576 (by omega) (by omega) hn HZ.out _ HS.out).mono ?_
    rintro e w1 ⟨r, rfl, rfl, hr⟩
    rcases hr with hr | ⟨hr, hr2⟩
    · go_wp2_with fail
      go_ret
      exact ⟨rfl, Below.refl _ _⟩
    · have hn2 : ss.length ≤ 1048576 := by omega
      have ht2 : total ss ≤ 1048576 := by omega
      have hs2 : sep.size ≤ 1048576 := by omega
      clear hr2 hn hs
      go_wp2_with fail

      refine (toStrs v ss hn2 _ HS.out).mono ?_
      rintro e w2 ⟨v2, rfl, hown2, hb2⟩
      have HO2 := Lib.hid (Strs.of_own hown2); clear hown2
      go_wp2_with fail
      refine (specJoin v2 ss sep hn2 ht2 hs2 _ HO2.out).mono ?_
      rintro e w3 ⟨rfl, hb3⟩
      have hb3' := Lib.hid (hb2.trans (hb3.mono hb2.size)); clear hb2 hb3
      go_wp2_with fail
      refine (toStrs v ss hn2 _ (HS.out.below hb3'.out)).mono ?_
      rintro e w4 ⟨v4, rfl, hown4, hb4⟩
      have HO4 := Lib.hid (Strs.of_own hown4); clear hown4
      have hb4' := Lib.hid (hb3'.out.trans (hb4.mono hb3'.out.size)); clear hb4
      go_wp2_with fail
      refine (implJoin v4 ss sep hn2 ht2 hs2 _ HO4.out).mono ?_
      rintro e w5 ⟨rfl, hb5⟩
      have HO5 := Lib.hid (HO4.out.below hb5)
      have hb5' := Lib.hid (hb4'.out.trans (hb5.mono hb4'.out.size)); clear hb5
      go_wp2_with fail
      refine (toStrs v ss hn2 _ (HS.out.below hb5'.out)).mono ?_
      rintro e w6 ⟨v6, rfl, hown6, hb6⟩
      have HO6 := Lib.hid (Strs.of_own hown6); clear hown6
      have HO56 := Lib.hid (HO5.out.below hb6)
      have hb6' := Lib.hid (hb5'.out.trans (hb6.mono hb5'.out.size)); clear hb6
      go_wp2_with fail
      refine (eqStrs v4 v6 ss (by omega) _ HO56.out HO6.out).mono ?_
      rintro e w7 ⟨rfl, hb7⟩
      have hb7' := Lib.hid (hb6'.out.trans (hb7.mono hb6'.out.size)); clear hb7
      go_wp2_with fail
      go_ret
      exact ⟨rfl, hb7'.out⟩

set_option maxRecDepth 100000 in
theorem contract (H : Type) (enc : TypeId × Value → H) (W : World) (base : Nat) (args : Array Value) (ds gs : List (DataW H)) (before : List MemPlace)
    (hval : ∀ (j : Nat) t v, Try.f3.params[j]? = some t → args[j]? = some v → Value.okWide Try.prog W .any base t v)
    (hW : DataW.Whole enc Try.prog Try.f3.params.toList Rows.fnExactJoinSpec.vars false W args.toList ds gs before) 
    (hsz : (DataW.weightsEach Try.prog (Try.f3.params.toList ++ (OpenSpec.ofChange Rows.fnExactJoinSpec).bare.plain.varTypes Try.prog) (ds ++ gs)).all (· ≤ reachBytes) = true) (_hsh : W.ShapedOpen Try.prog) :
    Calls Try.prog 3 args W fun e W' => ∃ v, e = .returned v ∧ Rows.fnExactJoinSpec.post enc Try.prog Try.f3 false true false false W args v W' := by
  have hW' := hW
  obtain ⟨p, q, hA0, hV, rfl, hfz, hnd⟩ := hW
  have hA : DataW.TrodAll enc Try.prog W 0 (fun _ => true) true Try.f3.params.toList args.toList ds p := hA0
  rw [Try.params3] at hA hval
  obtain ⟨v0, vs0, d0, ds0, p0, q0, hargs, rfl, rfl, h0, r0⟩ := trodAll_cons hA
  obtain ⟨v1, vs1, d1, ds1, p1, q1, rfl, rfl, rfl, h1, r1⟩ := trodAll_cons r0
  obtain ⟨rfl, rfl, rfl⟩ := trodAll_nil r1
  obtain rfl : args = #[v0, v1] := by cases args; simp_all
  obtain ⟨rfl, rfl⟩ := trodVars_none hV
  obtain ⟨s1, rfl, rfl, rfl, hs1⟩ := open_string Try.underlying9 (hval 1 9 v1 rfl rfl) h1
  obtain ⟨ss, hss, hn0, hsz0⟩ := Strs.of_arg (hval 0 22 v0 rfl rfl) h0
  refine Calls.mono (walk v0 ss s1 hn0 hsz0 hs1 W hss) fun e W' ⟨he, hg⟩ => ?_
  subst he
  exact ⟨_, rfl, Law.law_post hW' rfl (by kernel_rfl) Try.underlying4 (by kernel_rfl) (by kernel_rfl) (fun _ => rfl) hg⟩
set_option maxRecDepth 100000 in
theorem laid_met (os : Os) : laidMet Try.prog Rows.fnExactJoinRow.laid (((World.holding Try.prog os ⟨#[], #[], []⟩)).forCall (fun _ _ => 0) ⟨#[], #[.slice none 0 0, .string ⟨#[]⟩], []⟩).memory :=
  laidMet_of_run' 8 (by kernel_rfl) (by kernel_rfl)
theorem reads (os : Os) {H : Type} (enc : TypeId × Value → H) : ∃ places, DataW.whole enc Try.prog (((World.holding Try.prog os ⟨#[], #[], []⟩)).forCall (fun _ _ => 0) ⟨#[], #[.slice none 0 0, .string ⟨#[]⟩], []⟩).memory Try.f3.params.toList Rows.fnExactJoinSpec.vars false (#[.slice none 0 0, .string ⟨#[]⟩] : Array Value).toList 8 = some ([.nil, .lit (.string [])], [], places) :=
  ⟨[], by kernel_rfl⟩
set_option maxRecDepth 100000 in
theorem lifted (os : Os) (started : os.Started) (H : Type) (enc : TypeId × Value → H) (F : Stop.Interp) :
    ReturnsInHanded {} Try.checked os 3 .any ((OpenSpec.ofChange Rows.fnExactJoinSpec).preRow enc Try.prog Try.f3 Rows.fnExactJoinRow.domain false Rows.fnExactJoinRow.laid) (((OpenSpec.ofChange Rows.fnExactJoinSpec).at F).post enc Try.prog Try.f3 false true false false) := by
  obtain ⟨places, hx⟩ := reads os enc
  refine returnsInHanded_of_row (C := Try.checked) (s := OpenSpec.ofChange Rows.fnExactJoinSpec) (by kernel_rfl) started (by kernel_rfl) Try.func3
    (witness_row_atRef (enc := enc) (C := Try.checked) false (World.holding Try.prog os ⟨#[], #[], []⟩) #[.slice none 0 0, .string ⟨#[]⟩] rfl (by kernel_rfl) (by kernel_rfl) (by kernel_rfl)
      (OpenSpec.preRow_of_cond 8 hx (by kernel_rfl) (fun k hk => by cases hk) (by kernel_rfl) (laid_met os))) ?_
  intro W base args ds gs before hval hW _ _ hsz _ hsh _
  exact contract H enc W base args ds gs before hval hW hsz hsh
theorem said : Rows.FnExactJoinSaid :=
  OpenClaim.holds_of_cond 3 Try.f3 rfl rfl rfl rfl rfl rfl rfl ⟨rfl, rfl, rfl, rfl, rfl⟩ rfl rfl rfl rfl rfl (by kernel_rfl) Try.func3 (by kernel_rfl)
    (of_decide_eq_true (by kernel_rfl)) (by unfold Func.isWrapper; first | (rw [if_pos (by decide +kernel)]; kernel_rfl) | (rw [if_neg (by decide +kernel)]; exact ⟨rfl, rfl⟩))
    (fun os started H enc _ F => by rw [OpenClaim.pre_eq_preRow]; exact lifted os started H enc F)
end Go.Proofs.Ytonfphecbpojhaa.ExactJoin
