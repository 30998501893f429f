/-
  Proved: the law FnExactIsRaw: for every expression, impl.IsRaw returns the same as the reference and changes no argument.
-/
import Derived.Test.YtadjaclmgdmnbaaDoorSpecExValid
import Derived.Test.YtadjaclmgdmnbaaDoorSpecExHas
import Derived.Test.YtadjaclmgdmnbaaDoorExWithin
import Derived.Test.YtadjaclmgdmnbaaDoorImplExMarks
import Derived.Test.YtadjaclmgdmnbaaDoorToExpr
import Derived.Test.YtadjaclmgdmnbaaDoorHold
import Derived.Test.YtadjaclmgdmnbaaDoorSzExpr
import Derived.Test.YtadjaclmgdmnbaaDoorEqExpr
import Derived.Test.YtadjaclmgdmnbaaDoorTab
import Derived.Deep.RegionHeld3
import Derived.Test.YtadjaclmgdmnbaaDoorCards
import Derived.Test.YtadjaclmgdmnbaaDoorTie
import Derived.Test.YtadjaclmgdmnbaaDoorLaw
import Derived.Deep.DeepHandedRow
import Derived.Lib.LaidTab
import Derived.LaidMore
import Derived.Test.YtadjaclmgdmnbaaDoorExprArg
import Derived.Test.YtadjaclmgdmnbaaDoorLawVars
import Derived.ChangeVars
/-
  Proved: spec.IsRaw says whether an expression is valid and has no marks; the memory that was there stays as it was.
-/
namespace Go.Proofs.YtadjaclmgdmnbaaDoor
open Go.RowKit

set_option maxRecDepth 100000 in
set_option maxHeartbeats 2000000 in
theorem specExRaw (d : Nat) (v : Value) (t : Ex) (w : World) (h : ExAt w d v t) (hsz : t.bulk ≤ 1048576) :
    Calls Tryd.prog 13 #[v] w fun e w' => e = .returned (.bool (t.valid && !t.has 14)) ∧ Below w.heap.size w w' := by
  have HT := Lib.hid h
  obtain ⟨yk, ynm, yn, ytk, yta, ytn, ytc, ya, ym, yc, rfl⟩ := ex_parts h
  clear h
  have E0 := below_alloc w (.cells #[.int .i64 yk, .string ynm, .int .i64 yn, .int .i64 ytk, .slice yta ytn ytc, .slice ya ym yc] 35)
  have HT0 := Lib.hid (HT.out.below E0)
  clear E0
  go_enter Tryd.func13, Tryd.ntmps13
  go_wp2_with fail
  refine (specExValid d _ t _ HT0.out hsz).mono ?_
  rintro e w1 ⟨rfl, hb⟩
  have B1 := Lib.hid (box_next (Below.refl _ _) hb)
  clear hb
  have c0 := box_cell B1.out 0
  have c1 := box_cell B1.out 1
  have c2 := box_cell B1.out 2
  have c3 := box_cell B1.out 3
  have c4 := box_cell B1.out 4
  have c5 := box_cell B1.out 5
  cases hv0 : t.valid with
  | false =>
    go_wp2_with fail
    go_ret
    exact ⟨by simp [hv0], box_below B1.out⟩
  | true =>
    go_wp2_with fail
    refine (specExHas 14 d _ t _ (HT.out.below (box_below B1.out)) hsz).mono ?_
    rintro e w2 ⟨rfl, hb⟩
    have B2 := Lib.hid (box_next B1.out hb)
    clear hb B1 c0 c1 c2 c3 c4 c5
    go_wp2_with fail
    go_ret
    exact ⟨by simp [hv0], box_below B2.out⟩
end Go.Proofs.YtadjaclmgdmnbaaDoor
/-
  Proved: impl.IsRaw says whether an expression is valid and has no marks; the memory that was there stays as it was.
-/
namespace Go.Proofs.YtadjaclmgdmnbaaDoor
open Go.RowKit

set_option maxRecDepth 100000 in
set_option maxHeartbeats 2000000 in
theorem implExRaw (d : Nat) (v : Value) (t : Ex) (w : World) (h : ExAt w d v t) (hsz : t.bulk ≤ 1048576) (htab : TabAt w) :
    Calls Tryd.prog 14 #[v] w fun e w' => e = .returned (.bool (t.valid && !t.has 14)) ∧ Below w.heap.size w w' := by
  have HT := Lib.hid h
  obtain ⟨yk, ynm, yn, ytk, yta, ytn, ytc, ya, ym, yc, rfl⟩ := ex_parts h
  clear h
  have E0 := below_alloc w (.cells #[.int .i64 yk, .string ynm, .int .i64 yn, .int .i64 ytk, .slice yta ytn ytc, .slice ya ym yc] 35)
  have HT0 := Lib.hid (HT.out.below E0)
  have HTAB := Lib.hid (htab.below E0)
  clear htab
  clear E0
  go_enter Tryd.func14, Tryd.ntmps14
  go_wp2_with fail
  refine (implExValid d _ t _ HT0.out hsz HTAB.out).mono ?_
  rintro e w1 ⟨rfl, hb⟩
  have B1 := Lib.hid (box_next (Below.refl _ _) hb)
  clear hb
  have c0 := box_cell B1.out 0
  have c1 := box_cell B1.out 1
  have c2 := box_cell B1.out 2
  have c3 := box_cell B1.out 3
  have c4 := box_cell B1.out 4
  have c5 := box_cell B1.out 5
  cases hv0 : t.valid with
  | false =>
    go_wp2_with fail
    go_ret
    exact ⟨by simp [hv0], box_below B1.out⟩
  | true =>
    go_wp2_with fail
    refine (implExMarks d _ t _ (HT.out.below (box_below B1.out)) hsz).mono ?_
    rintro e w2 ⟨rfl, hb⟩
    have B2 := Lib.hid (box_next B1.out hb)
    clear hb B1 c0 c1 c2 c3 c4 c5
    go_wp2_with fail
    go_ret
    exact ⟨by simp [hv0], box_below B2.out⟩
end Go.Proofs.YtadjaclmgdmnbaaDoor
/-
  Proved: the law FnExactIsRaw answers true for every expression, and leaves the memory that was there as it was.
-/
namespace Go.Proofs.YtadjaclmgdmnbaaDoor
open Go.RowKit

set_option maxRecDepth 100000 in
set_option maxHeartbeats 1000000 in
theorem isRawWalk (d : Nat) (v1 : Value) (t1 : Ex) (w : World) (h1 : ExAt w d v1 t1) (htab : TabAt w) :
    Calls Tryd.prog 4 #[v1] w fun e w' => e = .returned (.bool true) ∧ Below w.heap.size w w' := by
  obtain ⟨a1k, a1m, a1n, a1tk, a1ta, a1tn, a1tc, a1sa, a1sn, a1sc, rfl⟩ := ex_parts h1
  have B : Hid (Below w.heap.size w (w.alloc (.cells #[.int .i64 a1k, .string a1m, .int .i64 a1n, .int .i64 a1tk, .slice a1ta a1tn a1tc, .slice a1sa a1sn a1sc] 27))) := below_alloc _ _
  have HTAB := Lib.hid (htab.below B.out)
  clear htab
  have HA1 := Lib.hid (h1.below B.out)
  have XA1 : Hid (BoxAt (w.alloc (.cells #[.int .i64 a1k, .string a1m, .int .i64 a1n, .int .i64 a1tk, .slice a1ta a1tn a1tc, .slice a1sa a1sn a1sc] 27)) (w.heap.size) #[.int .i64 a1k, .string a1m, .int .i64 a1n, .int .i64 a1tk, .slice a1ta a1tn a1tc, .slice a1sa a1sn a1sc]) := BoxAt.new _ _ _
  clear h1
  go_enter Tryd.func4, Tryd.ntmps4
  go_wp2_with fail
  refine (szEx_all d _ t1 1048576 _ (by omega) (by omega) HA1.out).mono ?_
  rintro e w1 ⟨r1, rfl, hb, hr1⟩
  replace B := Lib.hid (below_thru B.out (Nat.le_refl _) hb)
  replace HTAB := Lib.hid (HTAB.out.below hb)
  replace HA1 := Lib.hid (HA1.out.below hb)
  replace XA1 := Lib.hid (XA1.out.below hb)
  clear hb
  rcases hr1 with ⟨hr1, hs1⟩ | ⟨hr1, hs1⟩
  · go_wp2_with fail
    go_ret
    exact ⟨rfl, B.out⟩
  have hq1 : r1 ≤ 1048576 := by omega
  have hn1 : t1.bulk ≤ 1048576 := by omega
  clear hs1
  have cXA1_0 := XA1.out.2 0
  have cXA1_1 := XA1.out.2 1
  have cXA1_2 := XA1.out.2 2
  have cXA1_3 := XA1.out.2 3
  have cXA1_4 := XA1.out.2 4
  have cXA1_5 := XA1.out.2 5
  go_wp2_with fail
  clear cXA1_0 cXA1_1 cXA1_2 cXA1_3 cXA1_4 cXA1_5
  refine ((toEx_all d).1 _ t1 _ hn1 HA1.out).mono ?_
  rintro e w2 ⟨s1, fp, rfl, ht, hf, hb⟩
  replace B := Lib.hid (below_thru B.out (Nat.le_refl _) hb)
  replace HTAB := Lib.hid (HTAB.out.below hb)
  replace HA1 := Lib.hid (HA1.out.below hb)
  replace XA1 := Lib.hid (XA1.out.below hb)
  clear hb
  have Hs1 := Lib.hid ht.at_
  clear ht hf
  have cXA1_0 := XA1.out.2 0
  have cXA1_1 := XA1.out.2 1
  have cXA1_2 := XA1.out.2 2
  have cXA1_3 := XA1.out.2 3
  have cXA1_4 := XA1.out.2 4
  have cXA1_5 := XA1.out.2 5
  go_wp2_with fail
  clear cXA1_0 cXA1_1 cXA1_2 cXA1_3 cXA1_4 cXA1_5
  refine (specExRaw d s1 t1 _ Hs1.out hn1).mono ?_
  rintro e w3 ⟨rfl, hb⟩
  replace B := Lib.hid (below_thru B.out (Nat.le_refl _) hb)
  replace HTAB := Lib.hid (HTAB.out.below hb)
  replace HA1 := Lib.hid (HA1.out.below hb)
  replace XA1 := Lib.hid (XA1.out.below hb)
  clear hb
  clear Hs1
  have cXA1_0 := XA1.out.2 0
  have cXA1_1 := XA1.out.2 1
  have cXA1_2 := XA1.out.2 2
  have cXA1_3 := XA1.out.2 3
  have cXA1_4 := XA1.out.2 4
  have cXA1_5 := XA1.out.2 5
  go_wp2_with fail
  clear cXA1_0 cXA1_1 cXA1_2 cXA1_3 cXA1_4 cXA1_5
  refine ((toEx_all d).1 _ t1 _ hn1 HA1.out).mono ?_
  rintro e w4 ⟨x1, fp, rfl, ht, hf, hb⟩
  replace B := Lib.hid (below_thru B.out (Nat.le_refl _) hb)
  replace HTAB := Lib.hid (HTAB.out.below hb)
  replace HA1 := Lib.hid (HA1.out.below hb)
  replace XA1 := Lib.hid (XA1.out.below hb)
  clear hb
  obtain ⟨x1k, x1m, x1n, x1tk, x1ta, x1tn, x1tc, x1sa, x1sn, x1sc, rfl⟩ := ex_parts ht.at_
  have HX1 := Lib.hid ht.at_
  clear ht hf
  have XX1 : Hid (BoxAt (w4.alloc (.cells #[.int .i64 x1k, .string x1m, .int .i64 x1n, .int .i64 x1tk, .slice x1ta x1tn x1tc, .slice x1sa x1sn x1sc] 35)) w4.heap.size #[.int .i64 x1k, .string x1m, .int .i64 x1n, .int .i64 x1tk, .slice x1ta x1tn x1tc, .slice x1sa x1sn x1sc]) := BoxAt.new _ _ _
  have hb := below_alloc w4 (.cells #[.int .i64 x1k, .string x1m, .int .i64 x1n, .int .i64 x1tk, .slice x1ta x1tn x1tc, .slice x1sa x1sn x1sc] 35)
  replace B := Lib.hid (below_thru B.out (Nat.le_refl _) hb)
  replace HTAB := Lib.hid (HTAB.out.below hb)
  replace HA1 := Lib.hid (HA1.out.below hb)
  replace XA1 := Lib.hid (XA1.out.below hb)
  replace HX1 := Lib.hid (HX1.out.below hb)
  clear hb
  have cXA1_0 := XA1.out.2 0
  have cXA1_1 := XA1.out.2 1
  have cXA1_2 := XA1.out.2 2
  have cXA1_3 := XA1.out.2 3
  have cXA1_4 := XA1.out.2 4
  have cXA1_5 := XA1.out.2 5
  have cXX1_0 := XX1.out.2 0
  have cXX1_1 := XX1.out.2 1
  have cXX1_2 := XX1.out.2 2
  have cXX1_3 := XX1.out.2 3
  have cXX1_4 := XX1.out.2 4
  have cXX1_5 := XX1.out.2 5
  go_wp2_with fail
  clear cXA1_0 cXA1_1 cXA1_2 cXA1_3 cXA1_4 cXA1_5 cXX1_0 cXX1_1 cXX1_2 cXX1_3 cXX1_4 cXX1_5
  refine (implExRaw d _ t1 _ HX1.out hn1 HTAB.out).mono ?_
  rintro e w5 ⟨rfl, hb⟩
  replace B := Lib.hid (below_thru B.out (Nat.le_refl _) hb)
  replace HTAB := Lib.hid (HTAB.out.below hb)
  replace HA1 := Lib.hid (HA1.out.below hb)
  replace XA1 := Lib.hid (XA1.out.below hb)
  replace HX1 := Lib.hid (HX1.out.below hb)
  replace XX1 := Lib.hid (XX1.out.below hb)
  clear hb
  have cXA1_0 := XA1.out.2 0
  have cXA1_1 := XA1.out.2 1
  have cXA1_2 := XA1.out.2 2
  have cXA1_3 := XA1.out.2 3
  have cXA1_4 := XA1.out.2 4
  have cXA1_5 := XA1.out.2 5
  have cXX1_0 := XX1.out.2 0
  have cXX1_1 := XX1.out.2 1
  have cXX1_2 := XX1.out.2 2
  have cXX1_3 := XX1.out.2 3
  have cXX1_4 := XX1.out.2 4
  have cXX1_5 := XX1.out.2 5
  go_wp2_with fail
  clear cXA1_0 cXA1_1 cXA1_2 cXA1_3 cXA1_4 cXA1_5 cXX1_0 cXX1_1 cXX1_2 cXX1_3 cXX1_4 cXX1_5
  have hb := below_drew w5
  replace B := Lib.hid (below_thru B.out (Nat.le_refl _) hb)
  replace HTAB := Lib.hid (HTAB.out.below hb)
  replace HA1 := Lib.hid (HA1.out.below hb)
  replace XA1 := Lib.hid (XA1.out.below hb)
  replace HX1 := Lib.hid (HX1.out.below hb)
  replace XX1 := Lib.hid (XX1.out.below hb)
  clear hb
  go_region_held3 (fun w' => w'.cell? ⟨w.heap.size, 0, none⟩ = some (.int .i64 a1k) ∧ w'.cell? ⟨w.heap.size, 1, none⟩ = some (.string a1m) ∧ w'.cell? ⟨w.heap.size, 2, none⟩ = some (.int .i64 a1n) ∧ w'.cell? ⟨w.heap.size, 3, none⟩ = some (.int .i64 a1tk) ∧ w'.cell? ⟨w.heap.size, 4, none⟩ = some (.slice a1ta a1tn a1tc) ∧ w'.cell? ⟨w.heap.size, 5, none⟩ = some (.slice a1sa a1sn a1sc) ∧ w'.cell? ⟨w4.heap.size, 0, none⟩ = some (.int .i64 x1k) ∧ w'.cell? ⟨w4.heap.size, 1, none⟩ = some (.string x1m) ∧ w'.cell? ⟨w4.heap.size, 2, none⟩ = some (.int .i64 x1n) ∧ w'.cell? ⟨w4.heap.size, 3, none⟩ = some (.int .i64 x1tk) ∧ w'.cell? ⟨w4.heap.size, 4, none⟩ = some (.slice x1ta x1tn x1tc) ∧ w'.cell? ⟨w4.heap.size, 5, none⟩ = some (.slice x1sa x1sn x1sc)) (exact ⟨XA1.out.2 0, XA1.out.2 1, XA1.out.2 2, XA1.out.2 3, XA1.out.2 4, XA1.out.2 5, XX1.out.2 0, XX1.out.2 1, XX1.out.2 2, XX1.out.2 3, XX1.out.2 4, XX1.out.2 5⟩)
    (first
     | (go_at_call_of 10 (Value.agg #[Value.int IntKind.i64 a1k, Value.string a1m, Value.int IntKind.i64 a1n, Value.int IntKind.i64 a1tk, Value.slice a1ta a1tn a1tc, Value.slice a1sa a1sn a1sc])
        refine ((toEx_all d).1 _ t1 _ hn1 HA1.out).mono ?_
        rintro e w6 ⟨y1, fp, rfl, ht, hf, hb⟩
        replace B := Lib.hid (below_thru B.out (Nat.le_refl _) hb)
        replace HTAB := Lib.hid (HTAB.out.below hb)
        replace HA1 := Lib.hid (HA1.out.below hb)
        replace XA1 := Lib.hid (XA1.out.below hb)
        replace HX1 := Lib.hid (HX1.out.below hb)
        replace XX1 := Lib.hid (XX1.out.below hb)
        clear hb
        have Hy1 := Lib.hid ht.at_
        clear ht hf)
     | (go_at_call 12
        refine (eqEx_all d _ y1 t1 _ HX1.out Hy1.out).mono ?_
        rintro e w7 ⟨rfl, hb⟩
        replace B := Lib.hid (below_thru B.out (Nat.le_refl _) hb)
        replace HTAB := Lib.hid (HTAB.out.below hb)
        replace HA1 := Lib.hid (HA1.out.below hb)
        replace XA1 := Lib.hid (XA1.out.below hb)
        replace HX1 := Lib.hid (HX1.out.below hb)
        replace XX1 := Lib.hid (XX1.out.below hb)
        clear hb
        clear Hy1))
  have cXA1_0 := XA1.out.2 0
  have cXA1_1 := XA1.out.2 1
  have cXA1_2 := XA1.out.2 2
  have cXA1_3 := XA1.out.2 3
  have cXA1_4 := XA1.out.2 4
  have cXA1_5 := XA1.out.2 5
  have cXX1_0 := XX1.out.2 0
  have cXX1_1 := XX1.out.2 1
  have cXX1_2 := XX1.out.2 2
  have cXX1_3 := XX1.out.2 3
  have cXX1_4 := XX1.out.2 4
  have cXX1_5 := XX1.out.2 5
  go_wp2_with fail
  go_ret
  exact ⟨rfl, B.out⟩
end Go.Proofs.YtadjaclmgdmnbaaDoor
namespace Go.Proofs.YtadjaclmgdmnbaaDoor.ExactIsRaw
open Go.ChangeShapes Go.WideShapes Go.ChangeAt Go.RowKit Go.WideMaps Go.WideElems
open Go.ChangeMaps (setBlock shut_map_nil open_string shut_string keptBut_setBlock frozen?_setBlock heap_setBlock_same)
set_option maxRecDepth 100000 in
theorem contract (H : Type) (enc : TypeId × Value → H) (W : World) (base : Nat) (args : Array Value) (ds gs : List (DataW H)) (before : List MemPlace)
    (hval : ∀ (j : Nat) t v, Tryd.f4.params[j]? = some t → args[j]? = some v → Value.okWide Tryd.prog W .any base t v)
    (hW : DataW.Whole enc Tryd.prog Tryd.f4.params.toList Rows.fnExactIsRawSpec.vars false W args.toList ds gs before) (hL : laidMetH Tryd.prog Rows.fnExactIsRawRow.laid W)
    (_hsz : (DataW.weightsEach Tryd.prog (Tryd.f4.params.toList ++ (OpenSpec.ofChange Rows.fnExactIsRawSpec).bare.plain.varTypes Tryd.prog) (ds ++ gs)).all (· ≤ reachBytes) = true) (_hsh : W.ShapedOpen Tryd.prog) :
    Calls Tryd.prog 4 args W fun e W' => ∃ v, e = .returned v ∧ Rows.fnExactIsRawSpec.post enc Tryd.prog Tryd.f4 false true false false W args v W' := by
  have hW' := hW
  obtain ⟨p, q, hA0, hV, rfl, hfz, hnd⟩ := hW
  have hA : DataW.TrodAll enc Tryd.prog W 0 (fun _ => true) true Tryd.f4.params.toList args.toList ds p := hA0
  rw [Tryd.params4] at hA hval
  obtain ⟨v0, vs0, d0, ds0, p0, q0, hargs, rfl, rfl, h0, r0⟩ := trodAll_cons hA
  obtain ⟨rfl, rfl, rfl⟩ := trodAll_nil r0
  obtain rfl : args = #[v0] := by cases args; simp_all
  obtain ⟨gg, gt, gcs, gfuel, gd, gp, rfl, _⟩ := trodVars_one hV
  obtain ⟨e0, t0, ht0⟩ := ex_of_arg (hval 0 27 v0 rfl rfl) h0
  rw [MakeChecks.laidMetH_plain _ _ _ (by kernel_rfl)] at hL
  have htab : Lib.TabIs Tryd.prog W "loop.example/g00585/impl.arities" .i64 arTab :=
    Lib.tabIs_of_head (rest := []) (g := 1) (t := 82) (e := 3) (n := 15) (by kernel_rfl) (by kernel_rfl) Tryd.underlying82 Tryd.underlying3 (by kernel_rfl) (by kernel_rfl) hL
  refine Calls.mono (isRawWalk e0 v0 t0 W ht0 htab) fun e W' ⟨he, hg⟩ => ?_
  subst he
  exact ⟨_, rfl, Law.law_post_vars hW' (by kernel_rfl) (by kernel_rfl) Tryd.underlying4 (by kernel_rfl) (by kernel_rfl) rfl hg⟩
set_option maxRecDepth 100000 in
theorem laid_met (os : Os) : laidMet Tryd.prog Rows.fnExactIsRawRow.laid (((World.doorLaid Tryd.prog 64 os)).forCall (fun _ _ => 0) ⟨#[], #[.agg #[.int .i64 0, .string ⟨#[]⟩, .int .i64 0, .int .i64 0, .slice none 0 0, .slice none 0 0]], []⟩).memory :=
  laidMet_of_run' 8 (by kernel_rfl) (by kernel_rfl)
theorem reads (os : Os) {H : Type} (enc : TypeId × Value → H) : ∃ places, DataW.whole enc Tryd.prog (((World.doorLaid Tryd.prog 64 os)).forCall (fun _ _ => 0) ⟨#[], #[.agg #[.int .i64 0, .string ⟨#[]⟩, .int .i64 0, .int .i64 0, .slice none 0 0, .slice none 0 0]], []⟩).memory Tryd.f4.params.toList Rows.fnExactIsRawSpec.vars false (#[.agg #[.int .i64 0, .string ⟨#[]⟩, .int .i64 0, .int .i64 0, .slice none 0 0, .slice none 0 0]] : Array Value).toList 8 = some ([.agg [.lit (.int .i64 0), .lit (.string []), .lit (.int .i64 0), .agg [.lit (.int .i64 0), .nil], .nil]], [Rows.laid_loop_example_g00585_impl_arities], places) :=
  ⟨MemPlace.row ⟨1, 0, none⟩ 15, by kernel_rfl⟩
set_option maxRecDepth 100000 in
theorem lifted (os : Os) (started : os.Started) (H : Type) (enc : TypeId × Value → H) (F : Stop.Interp) :
    ReturnsInHanded {} Tryd.checked os 4 .any ((OpenSpec.ofChange Rows.fnExactIsRawSpec).preRow enc Tryd.prog Tryd.f4 Rows.fnExactIsRawRow.domain false Rows.fnExactIsRawRow.laid) (((OpenSpec.ofChange Rows.fnExactIsRawSpec).at F).post enc Tryd.prog Tryd.f4 false true false false) := by
  obtain ⟨places, hx⟩ := reads os enc
  refine returnsInHanded_of_row (C := Tryd.checked) (s := OpenSpec.ofChange Rows.fnExactIsRawSpec) (by kernel_rfl) started (by kernel_rfl) Tryd.func4
    (witness_row_atRef (enc := enc) (C := Tryd.checked) false (World.doorLaid Tryd.prog 64 os) #[.agg #[.int .i64 0, .string ⟨#[]⟩, .int .i64 0, .int .i64 0, .slice none 0 0, .slice none 0 0]] rfl (by kernel_rfl) (by kernel_rfl) (by kernel_rfl)
      (OpenSpec.preRow_of_cond 8 hx (by kernel_rfl) (fun k hk => by cases hk) (by kernel_rfl) (laid_met os))) ?_
  intro W base args ds gs before hval hW _ _ hsz hL hsh _
  exact contract H enc W base args ds gs before hval hW hL hsz hsh
theorem said : Rows.FnExactIsRawSaid :=
  OpenClaim.holds_of_cond 4 Tryd.f4 rfl rfl rfl rfl rfl rfl rfl ⟨rfl, rfl, rfl, rfl, rfl⟩ rfl rfl rfl rfl rfl (by kernel_rfl) Tryd.func4 (by kernel_rfl)
    (of_decide_eq_true (by kernel_rfl)) (by unfold Func.isWrapper; first | (rw [if_pos (by decide +kernel)]; kernel_rfl) | (rw [if_neg (by decide +kernel)]; exact ⟨rfl, rfl⟩))
    (fun os started H enc _ F => by rw [OpenClaim.pre_eq_preRow]; exact lifted os started H enc F)
theorem plain (f : FuncId) (fn : Func) (hf : Tryd.pinned.checked.prog.funcNamed "loop.example/g00585/laws.FnExactIsRaw" = some f) (hfn : Tryd.pinned.checked.prog.funcs[f]? = some fn) :
    false = Tryd.pinned.checked.prog.looks [] ∧ ∀ (j : Nat) t, fn.params[j]? = some t → Tryd.pinned.checked.prog.wantsStandIn t = false := by
  obtain rfl : f = 4 := Option.some.inj ((show Tryd.prog.funcNamed "loop.example/g00585/laws.FnExactIsRaw" = some 4 by kernel_rfl).symm.trans hf) |>.symm
  obtain rfl : fn = Tryd.f4 := (Option.some.inj (Tryd.func4.symm.trans hfn)).symm
  refine ⟨by kernel_rfl, fun j t ht => ?_⟩
  rw [Tryd.params4] at ht
  have hm : t ∈ [27] := by simpa using Array.mem_of_getElem? ht
  have hall : ([27].all fun u => !Tryd.prog.wantsStandIn u) = true := by kernel_rfl
  exact (show Tryd.prog.wantsStandIn t = false by simpa using List.all_eq_true.1 hall t hm)
theorem card : Rows.FnExactIsRawCardSaid :=
  Claim7.holds_tied_plain_at .later [] _ _ _ _ said (fun _ h => by cases h) (by kernel_rfl) (fun _ h => by cases h) fnExactIsRaw_row_tie rfl ⟨rfl, rfl⟩ (by kernel_rfl) rfl plain (by kernel_rfl)
end Go.Proofs.YtadjaclmgdmnbaaDoor.ExactIsRaw
