/-
  Proved: the law FnExactSplitByte: for every text and every byte, impl.SplitByte returns the same strings as the reference, in memory of its own. Nothing is asked of the input; the tables of the library hold what the program's text lays (the card ties them).
-/
import Derived.Test.YtonfphecbpojhaaDoorCards
import Derived.Test.YtonfphecbpojhaaDoorTie
import Derived.Test.YtonfphecbpojhaaDoorLaw
import Derived.Deep.DeepHandedRow
import Derived.Lib.LaidTab
import Derived.LaidMore
import Derived.Test.YtonfphecbpojhaaDoorImplSplit
import Derived.Test.YtonfphecbpojhaaDoorMarkStrs
import Derived.Test.YtonfphecbpojhaaDoorEqStrs
import Derived.Shelf.Vars
import Derived.OpenShut
namespace Go.Proofs.YtonfphecbpojhaaDoor.ExactSplitByte
open Go.ChangeShapes Go.WideShapes Go.ChangeAt Go.RowKit Go.WideMaps Go.WideElems
open Go.ChangeMaps (setBlock shut_map_nil open_string shut_string keptBut_setBlock frozen?_setBlock heap_setBlock_same)

/-- The table of package unicode/utf8, cell by cell. -/
def firstCells : Array Value := (Go.Pinned.utf8FirstZ.map fun (n : Nat) => Value.int .u8 (n : Int)).toArray
/-- A world for the witness: what the program's own text lays, and that table. -/
noncomputable def laidWorld (os : Os) : World :=
  { World.doorLaid Tryd.prog 64 os with heap := (World.doorLaid Tryd.prog 64 os).heap.modify 4 fun
      | .cells _ t frozen => .cells firstCells t frozen
      | o => o }

set_option maxRecDepth 100000 in
set_option maxHeartbeats 2000000 in
theorem walk (s : ByteArray) (b : UInt8) (hlen : s.size ≤ maxLen) (w : World) (hM : HasMax w) :
    Calls Tryd.prog 8 #[.string s, .int .u8 (b.toNat : Int)] w fun e w' => e = .returned (.bool true) ∧ Below w.heap.size w w' := by
  unfold maxLen at hlen
  have HM := Lib.hid hM; clear hM
  by_cases hs : 1048576 < s.size
  · go_enter Tryd.func8, Tryd.ntmps8
    go_wp2_with fail
    go_ret
    exact ⟨rfl, Below.refl _ _⟩
  · have hs2 : s.size ≤ 1048576 := by omega
    go_enter Tryd.func8, Tryd.ntmps8
    go_wp2_with fail
    refine (specSplit s b hs2 _).mono ?_
    rintro e w1 ⟨v0, ss, rfl, hp0, hn0, hown0, hb1⟩
    have HP := Lib.hid hp0; clear hp0
    have HS0 := Lib.hid (Strs.of_own hown0); clear hown0
    have HB1 := Lib.hid hb1; clear hb1
    go_wp2_with fail
    refine (implSplit s b hs2 _ (HM.out.below HB1.out)).mono ?_
    rintro e w2 ⟨v1, ss1, rfl, hp1, hn1, hown1, hb2⟩
    obtain rfl : ss = ss1 := strs_ext (HP.out.trans hp1.symm)
    clear hp1 hn1
    have HO1 := Lib.hid hown1; clear hown1
    have HB2 := Lib.hid hb2; clear hb2
    go_wp2_with fail
    refine (eqStrs v1 v0 ss (by omega) _ (Strs.of_own HO1.out) (HS0.out.below HB2.out)).mono ?_
    rintro e w3 ⟨rfl, hb3⟩
    have HO3 := Lib.hid (own_below HO1.out hb3)
    have HB3 := Lib.hid (HB2.out.trans (hb3.mono HB2.out.size)); clear hb3
    go_wp2_with fail
    refine (markStrs w1.heap.size v1 ss.length _ 1 (by omega) (by omega) (by omega) _ HB3.out.size HO3.out).mono ?_
    rintro e w4 ⟨rfl, hown4, hb4⟩
    have HO4 := Lib.hid hown4; clear hown4
    have HB4 := Lib.hid (HB3.out.trans hb4); clear hb4
    have hm4 : Hid (w4.ownsRow w1.heap.size 9 1 v1 (marks 1 ss.length).length ((marks 1 ss.length).map Value.string)) := by
      have := HO4.out
      show _
      rw [marks_length]; exact this
    go_wp2_with fail
    refine (heldStrs v1 ss.length 1 (by omega) (by omega) (by omega) _ (Strs.of_own hm4.out)).mono ?_
    rintro e w5 ⟨rfl, hb5⟩
    have hm5 := Lib.hid (own_below hm4.out hb5)
    have HB5 := Lib.hid (HB4.out.trans (hb5.mono HB4.out.size)); clear hb5
    go_wp2_with fail
    refine (implSplit s b hs2 _ (HM.out.below (HB1.out.trans (HB5.out.mono HB1.out.size)))).mono ?_
    rintro e w6 ⟨v2, ss2, rfl, hp2, hn2, hown2, hb6⟩
    obtain rfl : ss = ss2 := strs_ext (HP.out.trans hp2.symm)
    clear hp2 hn2
    have HS2 := Lib.hid (Strs.of_own hown2); clear hown2
    have hm6 := Lib.hid (own_below hm5.out hb6)
    have HB6 := Lib.hid (HB5.out.trans (hb6.mono HB5.out.size)); clear hb6
    go_wp2_with fail
    refine (eqStrs v2 v0 ss (by omega) _ HS2.out (HS0.out.below HB6.out)).mono ?_
    rintro e w7 ⟨rfl, hb7⟩
    have hm7 := Lib.hid (own_below hm6.out hb7)
    have HB7 := Lib.hid (HB6.out.trans (hb7.mono HB6.out.size)); clear hb7
    go_wp2_with fail
    refine (heldStrs v1 ss.length 1 (by omega) (by omega) (by omega) _ (Strs.of_own hm7.out)).mono ?_
    rintro e w8 ⟨rfl, hb8⟩
    have HB8 := Lib.hid (HB7.out.trans (hb8.mono HB7.out.size)); clear hb8
    go_wp2_with fail
    go_ret
    exact ⟨rfl, HB1.out.trans (HB8.out.mono HB1.out.size)⟩

set_option maxRecDepth 100000 in
theorem contract (H : Type) (enc : TypeId × Value → H) (W : World) (base : Nat) (args : Array Value) (ds gs : List (DataW H)) (before : List MemPlace)
    (hval : ∀ (j : Nat) t v, Tryd.f8.params[j]? = some t → args[j]? = some v → Value.okWide Tryd.prog W .any base t v)
    (hW : DataW.Whole enc Tryd.prog Tryd.f8.params.toList Rows.fnExactSplitByteSpec.vars false W args.toList ds gs before) (_hL : laidMetH Tryd.prog Rows.fnExactSplitByteRow.laid W)
    (_hsz : (DataW.weightsEach Tryd.prog (Tryd.f8.params.toList ++ (OpenSpec.ofChange Rows.fnExactSplitByteSpec).bare.plain.varTypes Tryd.prog) (ds ++ gs)).all (· ≤ reachBytes) = true) (hsh : W.ShapedOpen Tryd.prog) :
    Calls Tryd.prog 8 args W fun e W' => ∃ v, e = .returned v ∧ Rows.fnExactSplitByteSpec.post enc Tryd.prog Tryd.f8 false true false false W args v W' := by
  have hW' := hW
  obtain ⟨p, q, hA0, hV, rfl, hfz, hnd⟩ := hW
  have hA : DataW.TrodAll enc Tryd.prog W 0 (fun _ => true) true Tryd.f8.params.toList args.toList ds p := hA0
  rw [Tryd.params8] at hA hval
  obtain ⟨v0, vs0, d0, ds0, p0, q0, hargs, rfl, rfl, h0, r0⟩ := trodAll_cons hA
  obtain ⟨v1, vs1, d1, ds1, p1, q1, rfl, rfl, rfl, h1, r1⟩ := trodAll_cons r0
  obtain ⟨rfl, rfl, rfl⟩ := trodAll_nil r1
  obtain rfl : args = #[v0, v1] := by cases args; simp_all
  obtain ⟨rfl, rfl⟩ := trodVars_none hV
  obtain ⟨s0, rfl, rfl, rfl, hs0⟩ := open_string Tryd.underlying9 (hval 0 9 v0 rfl rfl) h0
  obtain ⟨n1, rfl, rfl, rfl, wn1⟩ := open_int Tryd.underlying5 (hval 1 5 v1 rfl rfl) h1
  obtain ⟨m, hm⟩ := cell_of_shapedOpen_int (P := Tryd.prog) (g := 3) (t := 3) (zero := #[.int .i64 0]) hsh (of_decide_eq_true (by kernel_rfl)) (by kernel_rfl) rfl (by kernel_rfl) (by kernel_rfl) Tryd.underlying3
  obtain ⟨b, rfl⟩ : ∃ b : UInt8, n1 = (b.toNat : Int) := by
    have := bounds_u8 wn1
    exact ⟨UInt8.ofNat n1.toNat, by rw [UInt8.toNat_ofNat']; omega⟩
  refine Calls.mono (walk s0 b hs0 W ⟨m, hm⟩) fun e W' ⟨he, hg⟩ => ?_
  subst he
  exact ⟨_, rfl, Law.law_post hW' rfl (by kernel_rfl) Tryd.underlying4 (by kernel_rfl) (by kernel_rfl) (fun _ => rfl) hg⟩
set_option maxRecDepth 100000 in
theorem laid_met (os : Os) : laidMet Tryd.prog Rows.fnExactSplitByteRow.laid (((laidWorld os)).forCall (fun _ _ => 0) ⟨#[], #[.string ⟨#[]⟩, .int .u8 0], []⟩).memory :=
  laidMet_of_run' 8 (by kernel_rfl) (by kernel_rfl)
theorem reads (os : Os) {H : Type} (enc : TypeId × Value → H) : ∃ places, DataW.whole enc Tryd.prog (((laidWorld os)).forCall (fun _ _ => 0) ⟨#[], #[.string ⟨#[]⟩, .int .u8 0], []⟩).memory Tryd.f8.params.toList Rows.fnExactSplitByteSpec.vars false (#[.string ⟨#[]⟩, .int .u8 0] : Array Value).toList 8 = some ([.lit (.string []), .lit (.int .u8 0)], [], places) :=
  ⟨[], by kernel_rfl⟩
set_option maxRecDepth 100000 in
theorem lifted (os : Os) (started : os.Started) (H : Type) (enc : TypeId × Value → H) (F : Stop.Interp) :
    ReturnsInHanded {} Tryd.checked os 8 .any ((OpenSpec.ofChange Rows.fnExactSplitByteSpec).preRow enc Tryd.prog Tryd.f8 Rows.fnExactSplitByteRow.domain false Rows.fnExactSplitByteRow.laid) (((OpenSpec.ofChange Rows.fnExactSplitByteSpec).at F).post enc Tryd.prog Tryd.f8 false true false false) := by
  obtain ⟨places, hx⟩ := reads os enc
  refine returnsInHanded_of_row (C := Tryd.checked) (s := OpenSpec.ofChange Rows.fnExactSplitByteSpec) (by kernel_rfl) started (by kernel_rfl) Tryd.func8
    (witness_row_atRef (enc := enc) (C := Tryd.checked) false (laidWorld os) #[.string ⟨#[]⟩, .int .u8 0] rfl (by kernel_rfl) (by kernel_rfl) (by kernel_rfl)
      (OpenSpec.preRow_of_cond 8 hx (by kernel_rfl) (fun k hk => by cases hk) (by kernel_rfl) (laid_met os))) ?_
  intro W base args ds gs before hval hW _ _ hsz hL hsh _
  exact contract H enc W base args ds gs before hval hW hL hsz hsh
theorem said : Rows.FnExactSplitByteSaid :=
  OpenClaim.holds_of_cond 8 Tryd.f8 rfl rfl rfl rfl rfl rfl rfl ⟨rfl, rfl, rfl, rfl, rfl⟩ rfl rfl rfl rfl rfl (by kernel_rfl) Tryd.func8 (by kernel_rfl)
    (of_decide_eq_true (by kernel_rfl)) (by unfold Func.isWrapper; first | (rw [if_pos (by decide +kernel)]; kernel_rfl) | (rw [if_neg (by decide +kernel)]; exact ⟨rfl, rfl⟩))
    (fun os started H enc _ F => by rw [OpenClaim.pre_eq_preRow]; exact lifted os started H enc F)
theorem plain (f : FuncId) (fn : Func) (hf : Tryd.pinned.checked.prog.funcNamed "loop.example/g00585/laws.FnExactSplitByte" = some f) (hfn : Tryd.pinned.checked.prog.funcs[f]? = some fn) :
    true = Tryd.pinned.checked.prog.looks [] ∧ ∀ (j : Nat) t, fn.params[j]? = some t → Tryd.pinned.checked.prog.wantsStandIn t = false := by
  obtain rfl : f = 8 := Option.some.inj ((show Tryd.prog.funcNamed "loop.example/g00585/laws.FnExactSplitByte" = some 8 by kernel_rfl).symm.trans hf) |>.symm
  obtain rfl : fn = Tryd.f8 := (Option.some.inj (Tryd.func8.symm.trans hfn)).symm
  refine ⟨by kernel_rfl, fun j t ht => ?_⟩
  rw [Tryd.params8] at ht
  have hm : t ∈ [9, 5] := by simpa using Array.mem_of_getElem? ht
  have hall : ([9, 5].all fun u => !Tryd.prog.wantsStandIn u) = true := by kernel_rfl
  exact (show Tryd.prog.wantsStandIn t = false by simpa using List.all_eq_true.1 hall t hm)
theorem card : Rows.FnExactSplitByteCardSaid :=
  Claim7.holds_tied_plain_at .later [] _ _ _ _ said (fun _ h => by cases h) (by kernel_rfl) (fun _ h => by cases h) fnExactSplitByte_row_tie rfl ⟨rfl, rfl⟩ (by kernel_rfl) rfl plain (by kernel_rfl)
end Go.Proofs.YtonfphecbpojhaaDoor.ExactSplitByte
