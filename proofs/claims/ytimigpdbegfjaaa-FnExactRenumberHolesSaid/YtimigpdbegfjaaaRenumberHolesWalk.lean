/-
  Proved: the law FnExactRenumberHoles answers true for every expression, and leaves the memory that was there as it was.
-/
import Derived.Test.YtimigpdbegfjaaaToExpr
import Derived.Test.YtimigpdbegfjaaaHold
import Derived.Test.YtimigpdbegfjaaaSzExpr
import Derived.Test.YtimigpdbegfjaaaEqExpr
import Derived.Test.YtimigpdbegfjaaaMarkExIn
import Derived.Test.YtimigpdbegfjaaaHeldEx
import Derived.Test.YtimigpdbegfjaaaSpecRenumber
import Derived.Test.YtimigpdbegfjaaaImplRenumber
import Derived.Deep.RegionHeld3
namespace Go.Proofs.Ytimigpdbegfjaaa
open Go.RowKit

set_option maxRecDepth 100000 in
set_option maxHeartbeats 4000000 in
theorem renumberHolesWalk (d : Nat) (v1 : Value) (t1 : Ex) (w : World) (h1 : ExAt w d v1 t1) :
    Calls Try.prog 7 #[v1] w fun e w' => e = .returned (.bool true) ∧ Below w.heap.size w w' := by
  obtain ⟨a1k, a1m, a1n, a1tk, a1ta, a1tn, a1tc, a1sa, a1sn, a1sc, rfl⟩ := ex_parts h1
  have B : Hid (Below w.heap.size w (w.alloc (.cells #[.int .i64 a1k, .string a1m, .int .i64 a1n, .int .i64 a1tk, .slice a1ta a1tn a1tc, .slice a1sa a1sn a1sc] 27))) := below_alloc _ _
  have HA10 := Lib.hid h1
  have HA1 := Lib.hid (h1.below B.out)
  have XA1 : Hid (BoxAt (w.alloc (.cells #[.int .i64 a1k, .string a1m, .int .i64 a1n, .int .i64 a1tk, .slice a1ta a1tn a1tc, .slice a1sa a1sn a1sc] 27)) (w.heap.size) #[.int .i64 a1k, .string a1m, .int .i64 a1n, .int .i64 a1tk, .slice a1ta a1tn a1tc, .slice a1sa a1sn a1sc]) := BoxAt.new _ _ _
  clear h1
  go_enter Try.func7, Try.ntmps7
  go_wp2_with fail
  refine (szEx_all d _ t1 1048576 _ (by omega) (by omega) HA1.out).mono ?_
  rintro e w1 ⟨r1, rfl, hb, hr1⟩
  have hz1 := hb.size
  try simp only [World.size_alloc] at hz1
  try simp only [World.size_drew] at hz1
  replace B := Lib.hid (below_thru B.out (Nat.le_refl _) hb)
  replace HA1 := Lib.hid (HA1.out.below hb)
  replace XA1 := Lib.hid (XA1.out.below hb)
  clear hb
  rcases hr1 with ⟨hr1, hs1⟩ | ⟨hr1, hs1⟩
  · go_wp2_with fail
    go_ret
    exact ⟨rfl, B.out⟩
  have hn1 : t1.bulk ≤ 1048576 := by omega
  have hwt1 : t1.wt ≤ 4194304 := by have := t1.wt_le; omega
  clear hs1
  obtain ⟨R, hR⟩ : ∃ R, R = t1.ren 1 := ⟨_, rfl⟩
  have hrb : R.bulk ≤ 1048576 := by rw [hR]; rw [Ex.ren_bulk]; exact hn1
  have hwr : R.wt ≤ 4194304 := by have := R.wt_le; omega
  have HR := Lib.hid hR
  clear hR
  have cXA1_0 := XA1.out.2 0
  have cXA1_1 := XA1.out.2 1
  have cXA1_2 := XA1.out.2 2
  have cXA1_3 := XA1.out.2 3
  have cXA1_4 := XA1.out.2 4
  have cXA1_5 := XA1.out.2 5
  go_wp2_with fail
  clear cXA1_0 cXA1_1 cXA1_2 cXA1_3 cXA1_4 cXA1_5
  refine ((toEx_all d).1 _ t1 _ hn1 HA1.out).mono ?_
  rintro e w2 ⟨s, fp, rfl, ht, hf, hb⟩
  have hz2 := hb.size
  try simp only [World.size_alloc] at hz2
  try simp only [World.size_drew] at hz2
  replace B := Lib.hid (below_thru B.out (Nat.le_refl _) hb)
  replace HA1 := Lib.hid (HA1.out.below hb)
  replace XA1 := Lib.hid (XA1.out.below hb)
  clear hb
  have Hs := Lib.hid ht.at_
  clear ht hf
  have cXA1_0 := XA1.out.2 0
  have cXA1_1 := XA1.out.2 1
  have cXA1_2 := XA1.out.2 2
  have cXA1_3 := XA1.out.2 3
  have cXA1_4 := XA1.out.2 4
  have cXA1_5 := XA1.out.2 5
  go_wp2_with fail
  clear cXA1_0 cXA1_1 cXA1_2 cXA1_3 cXA1_4 cXA1_5
  refine (specRenumber d _ t1 _ hn1 Hs.out).mono ?_
  rintro e w4 ⟨u, fp, rfl, ht, hf, hb⟩
  rw [← HR.out] at ht
  have hz4 := hb.size
  try simp only [World.size_alloc] at hz4
  try simp only [World.size_drew] at hz4
  replace B := Lib.hid (below_thru B.out (Nat.le_refl _) hb)
  replace HA1 := Lib.hid (HA1.out.below hb)
  replace XA1 := Lib.hid (XA1.out.below hb)
  replace Hs := Lib.hid (Hs.out.below hb)
  clear hb
  try simp only [World.size_alloc] at hf
  try simp only [World.size_drew] at hf
  obtain ⟨uk, um, un, utk, uta, utn, utc, usa, usn, usc, rfl⟩ := ex_parts ht.at_
  have Hu : Hid (ExIn _ d _ R (w2.heap.size) w4.heap.size) := ⟨fp, ht, hf.mono (by first | exact Nat.le_refl _ | (simp; done) | omega) (Nat.le_refl _), Nat.le_refl _⟩
  clear ht hf
  have Xu : Hid (BoxAt (w4.alloc (.cells #[.int .i64 uk, .string um, .int .i64 un, .int .i64 utk, .slice uta utn utc, .slice usa usn usc] 37)) w4.heap.size #[.int .i64 uk, .string um, .int .i64 un, .int .i64 utk, .slice uta utn utc, .slice usa usn usc]) := BoxAt.new _ _ _
  have hb := below_alloc w4 (.cells #[.int .i64 uk, .string um, .int .i64 un, .int .i64 utk, .slice uta utn utc, .slice usa usn usc] 37)
  replace B := Lib.hid (below_thru B.out (Nat.le_refl _) hb)
  replace HA1 := Lib.hid (HA1.out.below hb)
  replace XA1 := Lib.hid (XA1.out.below hb)
  replace Hs := Lib.hid (Hs.out.below hb)
  replace Hu := Lib.hid (Hu.out.below hb)
  clear hb
  clear Hs
  have cXA1_0 := XA1.out.2 0
  have cXA1_1 := XA1.out.2 1
  have cXA1_2 := XA1.out.2 2
  have cXA1_3 := XA1.out.2 3
  have cXA1_4 := XA1.out.2 4
  have cXA1_5 := XA1.out.2 5
  have cXu_0 := Xu.out.2 0
  have cXu_1 := Xu.out.2 1
  have cXu_2 := Xu.out.2 2
  have cXu_3 := Xu.out.2 3
  have cXu_4 := Xu.out.2 4
  have cXu_5 := Xu.out.2 5
  go_wp2_with fail
  clear cXA1_0 cXA1_1 cXA1_2 cXA1_3 cXA1_4 cXA1_5 cXu_0 cXu_1 cXu_2 cXu_3 cXu_4 cXu_5
  refine ((toEx_all d).1 _ t1 _ hn1 HA1.out).mono ?_
  rintro e w5 ⟨x, fp, rfl, ht, hf, hb⟩
  have hz5 := hb.size
  try simp only [World.size_alloc] at hz5
  try simp only [World.size_drew] at hz5
  replace B := Lib.hid (below_thru B.out (Nat.le_refl _) hb)
  replace HA1 := Lib.hid (HA1.out.below hb)
  replace XA1 := Lib.hid (XA1.out.below hb)
  replace Hu := Lib.hid (Hu.out.below hb)
  replace Xu := Lib.hid (Xu.out.below hb)
  clear hb
  obtain ⟨xk, xm, xn, xtk, xta, xtn, xtc, xsa, xsn, xsc, rfl⟩ := ex_parts ht.at_
  have Hx := Lib.hid (ExIn.of ht hf (lo := w4.heap.size + 1) (by first | exact Nat.le_refl _ | simp | (simp; omega)))
  clear ht hf
  have Xx : Hid (BoxAt (w5.alloc (.cells #[.int .i64 xk, .string xm, .int .i64 xn, .int .i64 xtk, .slice xta xtn xtc, .slice xsa xsn xsc] 37)) w5.heap.size #[.int .i64 xk, .string xm, .int .i64 xn, .int .i64 xtk, .slice xta xtn xtc, .slice xsa xsn xsc]) := BoxAt.new _ _ _
  have hb := below_alloc w5 (.cells #[.int .i64 xk, .string xm, .int .i64 xn, .int .i64 xtk, .slice xta xtn xtc, .slice xsa xsn xsc] 37)
  replace B := Lib.hid (below_thru B.out (Nat.le_refl _) hb)
  replace HA1 := Lib.hid (HA1.out.below hb)
  replace XA1 := Lib.hid (XA1.out.below hb)
  replace Hu := Lib.hid (Hu.out.below hb)
  replace Xu := Lib.hid (Xu.out.below hb)
  replace Hx := Lib.hid (Hx.out.below hb)
  clear hb
  have cXA1_0 := XA1.out.2 0
  have cXA1_1 := XA1.out.2 1
  have cXA1_2 := XA1.out.2 2
  have cXA1_3 := XA1.out.2 3
  have cXA1_4 := XA1.out.2 4
  have cXA1_5 := XA1.out.2 5
  have cXu_0 := Xu.out.2 0
  have cXu_1 := Xu.out.2 1
  have cXu_2 := Xu.out.2 2
  have cXu_3 := Xu.out.2 3
  have cXu_4 := Xu.out.2 4
  have cXu_5 := Xu.out.2 5
  have cXx_0 := Xx.out.2 0
  have cXx_1 := Xx.out.2 1
  have cXx_2 := Xx.out.2 2
  have cXx_3 := Xx.out.2 3
  have cXx_4 := Xx.out.2 4
  have cXx_5 := Xx.out.2 5
  go_wp2_with fail
  clear cXA1_0 cXA1_1 cXA1_2 cXA1_3 cXA1_4 cXA1_5 cXu_0 cXu_1 cXu_2 cXu_3 cXu_4 cXu_5 cXx_0 cXx_1 cXx_2 cXx_3 cXx_4 cXx_5
  have HxAT := Lib.hid Hx.out.at_
  refine (implRenumber d _ t1 _ hn1 HxAT.out).mono ?_
  rintro e w7 ⟨g, fp, rfl, ht, hf, hb⟩
  rw [← HR.out] at ht
  have hz7 := hb.size
  try simp only [World.size_alloc] at hz7
  try simp only [World.size_drew] at hz7
  replace B := Lib.hid (below_thru B.out (Nat.le_refl _) hb)
  replace HA1 := Lib.hid (HA1.out.below hb)
  replace XA1 := Lib.hid (XA1.out.below hb)
  replace Hu := Lib.hid (Hu.out.below hb)
  replace Xu := Lib.hid (Xu.out.below hb)
  replace Hx := Lib.hid (Hx.out.below hb)
  replace Xx := Lib.hid (Xx.out.below hb)
  clear hb
  try simp only [World.size_alloc] at hf
  try simp only [World.size_drew] at hf
  obtain ⟨gk, gm, gn, gtk, gta, gtn, gtc, gsa, gsn, gsc, rfl⟩ := ex_parts ht.at_
  have Hg : Hid (ExIn _ d _ R (w5.heap.size + 1) w7.heap.size) := ⟨fp, ht, hf.mono (by first | exact Nat.le_refl _ | (simp; done) | omega) (Nat.le_refl _), Nat.le_refl _⟩
  clear ht hf
  have Xg : Hid (BoxAt (w7.alloc (.cells #[.int .i64 gk, .string gm, .int .i64 gn, .int .i64 gtk, .slice gta gtn gtc, .slice gsa gsn gsc] 37)) w7.heap.size #[.int .i64 gk, .string gm, .int .i64 gn, .int .i64 gtk, .slice gta gtn gtc, .slice gsa gsn gsc]) := BoxAt.new _ _ _
  have hb := below_alloc w7 (.cells #[.int .i64 gk, .string gm, .int .i64 gn, .int .i64 gtk, .slice gta gtn gtc, .slice gsa gsn gsc] 37)
  replace B := Lib.hid (below_thru B.out (Nat.le_refl _) hb)
  replace HA1 := Lib.hid (HA1.out.below hb)
  replace XA1 := Lib.hid (XA1.out.below hb)
  replace Hu := Lib.hid (Hu.out.below hb)
  replace Xu := Lib.hid (Xu.out.below hb)
  replace Hx := Lib.hid (Hx.out.below hb)
  replace Xx := Lib.hid (Xx.out.below hb)
  replace Hg := Lib.hid (Hg.out.below hb)
  clear hb
  clear HxAT
  have cXA1_0 := XA1.out.2 0
  have cXA1_1 := XA1.out.2 1
  have cXA1_2 := XA1.out.2 2
  have cXA1_3 := XA1.out.2 3
  have cXA1_4 := XA1.out.2 4
  have cXA1_5 := XA1.out.2 5
  have cXu_0 := Xu.out.2 0
  have cXu_1 := Xu.out.2 1
  have cXu_2 := Xu.out.2 2
  have cXu_3 := Xu.out.2 3
  have cXu_4 := Xu.out.2 4
  have cXu_5 := Xu.out.2 5
  have cXx_0 := Xx.out.2 0
  have cXx_1 := Xx.out.2 1
  have cXx_2 := Xx.out.2 2
  have cXx_3 := Xx.out.2 3
  have cXx_4 := Xx.out.2 4
  have cXx_5 := Xx.out.2 5
  have cXg_0 := Xg.out.2 0
  have cXg_1 := Xg.out.2 1
  have cXg_2 := Xg.out.2 2
  have cXg_3 := Xg.out.2 3
  have cXg_4 := Xg.out.2 4
  have cXg_5 := Xg.out.2 5
  go_wp2_with fail
  clear cXA1_0 cXA1_1 cXA1_2 cXA1_3 cXA1_4 cXA1_5 cXu_0 cXu_1 cXu_2 cXu_3 cXu_4 cXu_5 cXx_0 cXx_1 cXx_2 cXx_3 cXx_4 cXx_5 cXg_0 cXg_1 cXg_2 cXg_3 cXg_4 cXg_5
  refine (eqEx_all d _ _ R _ Hg.out.at_ Hu.out.at_).mono ?_
  rintro e w8 ⟨rfl, hb⟩
  have hz8 := hb.size
  try simp only [World.size_alloc] at hz8
  try simp only [World.size_drew] at hz8
  replace B := Lib.hid (below_thru B.out (Nat.le_refl _) hb)
  replace HA1 := Lib.hid (HA1.out.below hb)
  replace XA1 := Lib.hid (XA1.out.below hb)
  replace Hu := Lib.hid (Hu.out.below hb)
  replace Xu := Lib.hid (Xu.out.below hb)
  replace Hx := Lib.hid (Hx.out.below hb)
  replace Xx := Lib.hid (Xx.out.below hb)
  replace Hg := Lib.hid (Hg.out.below hb)
  replace Xg := Lib.hid (Xg.out.below hb)
  clear hb
  have cXA1_0 := XA1.out.2 0
  have cXA1_1 := XA1.out.2 1
  have cXA1_2 := XA1.out.2 2
  have cXA1_3 := XA1.out.2 3
  have cXA1_4 := XA1.out.2 4
  have cXA1_5 := XA1.out.2 5
  have cXu_0 := Xu.out.2 0
  have cXu_1 := Xu.out.2 1
  have cXu_2 := Xu.out.2 2
  have cXu_3 := Xu.out.2 3
  have cXu_4 := Xu.out.2 4
  have cXu_5 := Xu.out.2 5
  have cXx_0 := Xx.out.2 0
  have cXx_1 := Xx.out.2 1
  have cXx_2 := Xx.out.2 2
  have cXx_3 := Xx.out.2 3
  have cXx_4 := Xx.out.2 4
  have cXx_5 := Xx.out.2 5
  have cXg_0 := Xg.out.2 0
  have cXg_1 := Xg.out.2 1
  have cXg_2 := Xg.out.2 2
  have cXg_3 := Xg.out.2 3
  have cXg_4 := Xg.out.2 4
  have cXg_5 := Xg.out.2 5
  go_wp2_with fail
  clear cXA1_0 cXA1_1 cXA1_2 cXA1_3 cXA1_4 cXA1_5 cXu_0 cXu_1 cXu_2 cXu_3 cXu_4 cXu_5 cXx_0 cXx_1 cXx_2 cXx_3 cXx_4 cXx_5 cXg_0 cXg_1 cXg_2 cXg_3 cXg_4 cXg_5
  have hb := below_drew w8
  replace B := Lib.hid (below_thru B.out (Nat.le_refl _) hb)
  replace HA1 := Lib.hid (HA1.out.below hb)
  replace XA1 := Lib.hid (XA1.out.below hb)
  replace Hu := Lib.hid (Hu.out.below hb)
  replace Xu := Lib.hid (Xu.out.below hb)
  replace Hx := Lib.hid (Hx.out.below hb)
  replace Xx := Lib.hid (Xx.out.below hb)
  replace Hg := Lib.hid (Hg.out.below hb)
  replace Xg := Lib.hid (Xg.out.below hb)
  clear hb
  go_region_held3 (fun w' => w'.cell? ⟨w.heap.size, 0, none⟩ = some (.int .i64 a1k) ∧ w'.cell? ⟨w.heap.size, 1, none⟩ = some (.string a1m) ∧ w'.cell? ⟨w.heap.size, 2, none⟩ = some (.int .i64 a1n) ∧ w'.cell? ⟨w.heap.size, 3, none⟩ = some (.int .i64 a1tk) ∧ w'.cell? ⟨w.heap.size, 4, none⟩ = some (.slice a1ta a1tn a1tc) ∧ w'.cell? ⟨w.heap.size, 5, none⟩ = some (.slice a1sa a1sn a1sc) ∧ w'.cell? ⟨w4.heap.size, 0, none⟩ = some (.int .i64 uk) ∧ w'.cell? ⟨w4.heap.size, 1, none⟩ = some (.string um) ∧ w'.cell? ⟨w4.heap.size, 2, none⟩ = some (.int .i64 un) ∧ w'.cell? ⟨w4.heap.size, 3, none⟩ = some (.int .i64 utk) ∧ w'.cell? ⟨w4.heap.size, 4, none⟩ = some (.slice uta utn utc) ∧ w'.cell? ⟨w4.heap.size, 5, none⟩ = some (.slice usa usn usc) ∧ w'.cell? ⟨w5.heap.size, 0, none⟩ = some (.int .i64 xk) ∧ w'.cell? ⟨w5.heap.size, 1, none⟩ = some (.string xm) ∧ w'.cell? ⟨w5.heap.size, 2, none⟩ = some (.int .i64 xn) ∧ w'.cell? ⟨w5.heap.size, 3, none⟩ = some (.int .i64 xtk) ∧ w'.cell? ⟨w5.heap.size, 4, none⟩ = some (.slice xta xtn xtc) ∧ w'.cell? ⟨w5.heap.size, 5, none⟩ = some (.slice xsa xsn xsc) ∧ w'.cell? ⟨w7.heap.size, 0, none⟩ = some (.int .i64 gk) ∧ w'.cell? ⟨w7.heap.size, 1, none⟩ = some (.string gm) ∧ w'.cell? ⟨w7.heap.size, 2, none⟩ = some (.int .i64 gn) ∧ w'.cell? ⟨w7.heap.size, 3, none⟩ = some (.int .i64 gtk) ∧ w'.cell? ⟨w7.heap.size, 4, none⟩ = some (.slice gta gtn gtc) ∧ w'.cell? ⟨w7.heap.size, 5, none⟩ = some (.slice gsa gsn gsc)) (exact ⟨XA1.out.2 0, XA1.out.2 1, XA1.out.2 2, XA1.out.2 3, XA1.out.2 4, XA1.out.2 5, Xu.out.2 0, Xu.out.2 1, Xu.out.2 2, Xu.out.2 3, Xu.out.2 4, Xu.out.2 5, Xx.out.2 0, Xx.out.2 1, Xx.out.2 2, Xx.out.2 3, Xx.out.2 4, Xx.out.2 5, Xg.out.2 0, Xg.out.2 1, Xg.out.2 2, Xg.out.2 3, Xg.out.2 4, Xg.out.2 5⟩)
    (first
     | (go_at_call_of 14 (Value.agg #[Value.int IntKind.i64 a1k, Value.string a1m, Value.int IntKind.i64 a1n, Value.int IntKind.i64 a1tk, Value.slice a1ta a1tn a1tc, Value.slice a1sa a1sn a1sc])
        refine ((toEx_all d).1 _ t1 _ hn1 HA1.out).mono ?_
        rintro e w9 ⟨y, fp, rfl, ht, hf, hb⟩
        have hz9 := hb.size
        try simp only [World.size_drew] at hz9
        replace B := Lib.hid (below_thru B.out (Nat.le_refl _) hb)
        replace HA1 := Lib.hid (HA1.out.below hb)
        replace XA1 := Lib.hid (XA1.out.below hb)
        replace Hu := Lib.hid (Hu.out.below hb)
        replace Xu := Lib.hid (Xu.out.below hb)
        replace Hx := Lib.hid (Hx.out.below hb)
        replace Xx := Lib.hid (Xx.out.below hb)
        replace Hg := Lib.hid (Hg.out.below hb)
        replace Xg := Lib.hid (Xg.out.below hb)
        clear hb
        have Hy := Lib.hid ht.at_
        clear ht hf)
     | (go_at_call 17
        refine (eqEx_all d _ y t1 _ Hx.out.at_ Hy.out).mono ?_
        rintro e w10 ⟨rfl, hb⟩
        have hz10 := hb.size
        try simp only [World.size_drew] at hz10
        replace B := Lib.hid (below_thru B.out (Nat.le_refl _) hb)
        replace HA1 := Lib.hid (HA1.out.below hb)
        replace XA1 := Lib.hid (XA1.out.below hb)
        replace Hu := Lib.hid (Hu.out.below hb)
        replace Xu := Lib.hid (Xu.out.below hb)
        replace Hx := Lib.hid (Hx.out.below hb)
        replace Xx := Lib.hid (Xx.out.below hb)
        replace Hg := Lib.hid (Hg.out.below hb)
        replace Xg := Lib.hid (Xg.out.below hb)
        clear hb
        clear Hy))
  have cXA1_0 := XA1.out.2 0
  have cXA1_1 := XA1.out.2 1
  have cXA1_2 := XA1.out.2 2
  have cXA1_3 := XA1.out.2 3
  have cXA1_4 := XA1.out.2 4
  have cXA1_5 := XA1.out.2 5
  have cXu_0 := Xu.out.2 0
  have cXu_1 := Xu.out.2 1
  have cXu_2 := Xu.out.2 2
  have cXu_3 := Xu.out.2 3
  have cXu_4 := Xu.out.2 4
  have cXu_5 := Xu.out.2 5
  have cXx_0 := Xx.out.2 0
  have cXx_1 := Xx.out.2 1
  have cXx_2 := Xx.out.2 2
  have cXx_3 := Xx.out.2 3
  have cXx_4 := Xx.out.2 4
  have cXx_5 := Xx.out.2 5
  have cXg_0 := Xg.out.2 0
  have cXg_1 := Xg.out.2 1
  have cXg_2 := Xg.out.2 2
  have cXg_3 := Xg.out.2 3
  have cXg_4 := Xg.out.2 4
  have cXg_5 := Xg.out.2 5
  go_wp2_with fail
  clear cXA1_0 cXA1_1 cXA1_2 cXA1_3 cXA1_4 cXA1_5 cXu_0 cXu_1 cXu_2 cXu_3 cXu_4 cXu_5 cXx_0 cXx_1 cXx_2 cXx_3 cXx_4 cXx_5 cXg_0 cXg_1 cXg_2 cXg_3 cXg_4 cXg_5
  refine (markExIn w.heap.size _ _ t1 _ _ 1 _ (by omega) B.out.size (by omega) (by omega) Hx.out).mono ?_
  rintro e w13 ⟨rfl, hm, hb0, hk⟩
  replace B := Lib.hid (B.out.trans hb0)
  replace HA1 := Lib.hid (HA10.out.below B.out)
  replace XA1 := Lib.hid (XA1.out.beside hk (by omega))
  replace Hu := Lib.hid (Hu.out.beside hk (by omega))
  replace Xu := Lib.hid (Xu.out.beside hk (by omega))
  replace Xx := Lib.hid (Xx.out.beside hk (by omega))
  replace Hg := Lib.hid (Hg.out.beside hk (by omega))
  replace Xg := Lib.hid (Xg.out.beside hk (by omega))
  replace Hx := Lib.hid hm
  have hz13 := hk.1
  clear hb0 hk hm
  clear Hx
  obtain ⟨ma, hma⟩ : ∃ ma : Int, ma = 1 + (t1.wt : Int) := ⟨_, rfl⟩
  rw [← hma]
  have Nma := Lib.hid hma
  have ma0 : 0 ≤ ma := by omega
  have ma1 : ma ≤ 4194305 := by omega
  clear hma
  have cXA1_0 := XA1.out.2 0
  have cXA1_1 := XA1.out.2 1
  have cXA1_2 := XA1.out.2 2
  have cXA1_3 := XA1.out.2 3
  have cXA1_4 := XA1.out.2 4
  have cXA1_5 := XA1.out.2 5
  have cXu_0 := Xu.out.2 0
  have cXu_1 := Xu.out.2 1
  have cXu_2 := Xu.out.2 2
  have cXu_3 := Xu.out.2 3
  have cXu_4 := Xu.out.2 4
  have cXu_5 := Xu.out.2 5
  have cXx_0 := Xx.out.2 0
  have cXx_1 := Xx.out.2 1
  have cXx_2 := Xx.out.2 2
  have cXx_3 := Xx.out.2 3
  have cXx_4 := Xx.out.2 4
  have cXx_5 := Xx.out.2 5
  have cXg_0 := Xg.out.2 0
  have cXg_1 := Xg.out.2 1
  have cXg_2 := Xg.out.2 2
  have cXg_3 := Xg.out.2 3
  have cXg_4 := Xg.out.2 4
  have cXg_5 := Xg.out.2 5
  go_wp2_with fail
  clear cXA1_0 cXA1_1 cXA1_2 cXA1_3 cXA1_4 cXA1_5 cXu_0 cXu_1 cXu_2 cXu_3 cXu_4 cXu_5 cXx_0 cXx_1 cXx_2 cXx_3 cXx_4 cXx_5 cXg_0 cXg_1 cXg_2 cXg_3 cXg_4 cXg_5
  refine (eqEx_all d _ _ R _ Hg.out.at_ Hu.out.at_).mono ?_
  rintro e w15 ⟨rfl, hb⟩
  have hz15 := hb.size
  try simp only [World.size_alloc] at hz15
  try simp only [World.size_drew] at hz15
  replace B := Lib.hid (below_thru B.out (Nat.le_refl _) hb)
  replace HA1 := Lib.hid (HA1.out.below hb)
  replace XA1 := Lib.hid (XA1.out.below hb)
  replace Hu := Lib.hid (Hu.out.below hb)
  replace Xu := Lib.hid (Xu.out.below hb)
  replace Xx := Lib.hid (Xx.out.below hb)
  replace Hg := Lib.hid (Hg.out.below hb)
  replace Xg := Lib.hid (Xg.out.below hb)
  clear hb
  have cXA1_0 := XA1.out.2 0
  have cXA1_1 := XA1.out.2 1
  have cXA1_2 := XA1.out.2 2
  have cXA1_3 := XA1.out.2 3
  have cXA1_4 := XA1.out.2 4
  have cXA1_5 := XA1.out.2 5
  have cXu_0 := Xu.out.2 0
  have cXu_1 := Xu.out.2 1
  have cXu_2 := Xu.out.2 2
  have cXu_3 := Xu.out.2 3
  have cXu_4 := Xu.out.2 4
  have cXu_5 := Xu.out.2 5
  have cXx_0 := Xx.out.2 0
  have cXx_1 := Xx.out.2 1
  have cXx_2 := Xx.out.2 2
  have cXx_3 := Xx.out.2 3
  have cXx_4 := Xx.out.2 4
  have cXx_5 := Xx.out.2 5
  have cXg_0 := Xg.out.2 0
  have cXg_1 := Xg.out.2 1
  have cXg_2 := Xg.out.2 2
  have cXg_3 := Xg.out.2 3
  have cXg_4 := Xg.out.2 4
  have cXg_5 := Xg.out.2 5
  go_wp2_with fail
  clear cXA1_0 cXA1_1 cXA1_2 cXA1_3 cXA1_4 cXA1_5 cXu_0 cXu_1 cXu_2 cXu_3 cXu_4 cXu_5 cXx_0 cXx_1 cXx_2 cXx_3 cXx_4 cXx_5 cXg_0 cXg_1 cXg_2 cXg_3 cXg_4 cXg_5
  refine (markExIn w.heap.size _ _ R _ _ 1 _ (by omega) B.out.size (by omega) (by omega) Hg.out).mono ?_
  rintro e w16 ⟨rfl, hm, hb0, hk⟩
  replace B := Lib.hid (B.out.trans hb0)
  replace HA1 := Lib.hid (HA10.out.below B.out)
  replace XA1 := Lib.hid (XA1.out.beside hk (by omega))
  replace Hu := Lib.hid (Hu.out.beside hk (by omega))
  replace Xu := Lib.hid (Xu.out.beside hk (by omega))
  replace Xx := Lib.hid (Xx.out.beside hk (by omega))
  replace Xg := Lib.hid (Xg.out.beside hk (by omega))
  replace Hg := Lib.hid hm
  have hz16 := hk.1
  clear hb0 hk hm
  obtain ⟨mc, hmc⟩ : ∃ mc : Int, mc = 1 + (R.wt : Int) := ⟨_, rfl⟩
  rw [← hmc]
  have Nmc := Lib.hid hmc
  have mc0 : 0 ≤ mc := by omega
  have mc1 : mc ≤ 4194305 := by omega
  clear hmc
  have cXA1_0 := XA1.out.2 0
  have cXA1_1 := XA1.out.2 1
  have cXA1_2 := XA1.out.2 2
  have cXA1_3 := XA1.out.2 3
  have cXA1_4 := XA1.out.2 4
  have cXA1_5 := XA1.out.2 5
  have cXu_0 := Xu.out.2 0
  have cXu_1 := Xu.out.2 1
  have cXu_2 := Xu.out.2 2
  have cXu_3 := Xu.out.2 3
  have cXu_4 := Xu.out.2 4
  have cXu_5 := Xu.out.2 5
  have cXx_0 := Xx.out.2 0
  have cXx_1 := Xx.out.2 1
  have cXx_2 := Xx.out.2 2
  have cXx_3 := Xx.out.2 3
  have cXx_4 := Xx.out.2 4
  have cXx_5 := Xx.out.2 5
  have cXg_0 := Xg.out.2 0
  have cXg_1 := Xg.out.2 1
  have cXg_2 := Xg.out.2 2
  have cXg_3 := Xg.out.2 3
  have cXg_4 := Xg.out.2 4
  have cXg_5 := Xg.out.2 5
  go_wp2_with fail
  clear cXA1_0 cXA1_1 cXA1_2 cXA1_3 cXA1_4 cXA1_5 cXu_0 cXu_1 cXu_2 cXu_3 cXu_4 cXu_5 cXx_0 cXx_1 cXx_2 cXx_3 cXx_4 cXx_5 cXg_0 cXg_1 cXg_2 cXg_3 cXg_4 cXg_5
  refine (heldEx d _ R 1 _ (by omega) (by omega) Hg.out.at_).mono ?_
  rintro e w17 ⟨rfl, hb⟩
  have hz17 := hb.size
  try simp only [World.size_alloc] at hz17
  try simp only [World.size_drew] at hz17
  replace B := Lib.hid (below_thru B.out (Nat.le_refl _) hb)
  replace HA1 := Lib.hid (HA1.out.below hb)
  replace XA1 := Lib.hid (XA1.out.below hb)
  replace Hu := Lib.hid (Hu.out.below hb)
  replace Xu := Lib.hid (Xu.out.below hb)
  replace Xx := Lib.hid (Xx.out.below hb)
  replace Hg := Lib.hid (Hg.out.below hb)
  replace Xg := Lib.hid (Xg.out.below hb)
  clear hb
  rw [← Nmc.out]
  have cXA1_0 := XA1.out.2 0
  have cXA1_1 := XA1.out.2 1
  have cXA1_2 := XA1.out.2 2
  have cXA1_3 := XA1.out.2 3
  have cXA1_4 := XA1.out.2 4
  have cXA1_5 := XA1.out.2 5
  have cXu_0 := Xu.out.2 0
  have cXu_1 := Xu.out.2 1
  have cXu_2 := Xu.out.2 2
  have cXu_3 := Xu.out.2 3
  have cXu_4 := Xu.out.2 4
  have cXu_5 := Xu.out.2 5
  have cXx_0 := Xx.out.2 0
  have cXx_1 := Xx.out.2 1
  have cXx_2 := Xx.out.2 2
  have cXx_3 := Xx.out.2 3
  have cXx_4 := Xx.out.2 4
  have cXx_5 := Xx.out.2 5
  have cXg_0 := Xg.out.2 0
  have cXg_1 := Xg.out.2 1
  have cXg_2 := Xg.out.2 2
  have cXg_3 := Xg.out.2 3
  have cXg_4 := Xg.out.2 4
  have cXg_5 := Xg.out.2 5
  go_wp2_with fail
  clear cXA1_0 cXA1_1 cXA1_2 cXA1_3 cXA1_4 cXA1_5 cXu_0 cXu_1 cXu_2 cXu_3 cXu_4 cXu_5 cXx_0 cXx_1 cXx_2 cXx_3 cXx_4 cXx_5 cXg_0 cXg_1 cXg_2 cXg_3 cXg_4 cXg_5
  refine ((toEx_all d).1 _ t1 _ hn1 HA1.out).mono ?_
  rintro e w18 ⟨h, fp, rfl, ht, hf, hb⟩
  have hz18 := hb.size
  try simp only [World.size_alloc] at hz18
  try simp only [World.size_drew] at hz18
  replace B := Lib.hid (below_thru B.out (Nat.le_refl _) hb)
  replace HA1 := Lib.hid (HA1.out.below hb)
  replace XA1 := Lib.hid (XA1.out.below hb)
  replace Hu := Lib.hid (Hu.out.below hb)
  replace Xu := Lib.hid (Xu.out.below hb)
  replace Xx := Lib.hid (Xx.out.below hb)
  replace Hg := Lib.hid (Hg.out.below hb)
  replace Xg := Lib.hid (Xg.out.below hb)
  clear hb
  have Hh := Lib.hid ht.at_
  clear ht hf
  have cXA1_0 := XA1.out.2 0
  have cXA1_1 := XA1.out.2 1
  have cXA1_2 := XA1.out.2 2
  have cXA1_3 := XA1.out.2 3
  have cXA1_4 := XA1.out.2 4
  have cXA1_5 := XA1.out.2 5
  have cXu_0 := Xu.out.2 0
  have cXu_1 := Xu.out.2 1
  have cXu_2 := Xu.out.2 2
  have cXu_3 := Xu.out.2 3
  have cXu_4 := Xu.out.2 4
  have cXu_5 := Xu.out.2 5
  have cXx_0 := Xx.out.2 0
  have cXx_1 := Xx.out.2 1
  have cXx_2 := Xx.out.2 2
  have cXx_3 := Xx.out.2 3
  have cXx_4 := Xx.out.2 4
  have cXx_5 := Xx.out.2 5
  have cXg_0 := Xg.out.2 0
  have cXg_1 := Xg.out.2 1
  have cXg_2 := Xg.out.2 2
  have cXg_3 := Xg.out.2 3
  have cXg_4 := Xg.out.2 4
  have cXg_5 := Xg.out.2 5
  go_wp2_with fail
  clear cXA1_0 cXA1_1 cXA1_2 cXA1_3 cXA1_4 cXA1_5 cXu_0 cXu_1 cXu_2 cXu_3 cXu_4 cXu_5 cXx_0 cXx_1 cXx_2 cXx_3 cXx_4 cXx_5 cXg_0 cXg_1 cXg_2 cXg_3 cXg_4 cXg_5
  refine (implRenumber d _ t1 _ hn1 Hh.out).mono ?_
  rintro e w20 ⟨j, fp, rfl, ht, hf, hb⟩
  rw [← HR.out] at ht
  have hz20 := hb.size
  try simp only [World.size_alloc] at hz20
  try simp only [World.size_drew] at hz20
  replace B := Lib.hid (below_thru B.out (Nat.le_refl _) hb)
  replace HA1 := Lib.hid (HA1.out.below hb)
  replace XA1 := Lib.hid (XA1.out.below hb)
  replace Hu := Lib.hid (Hu.out.below hb)
  replace Xu := Lib.hid (Xu.out.below hb)
  replace Xx := Lib.hid (Xx.out.below hb)
  replace Hg := Lib.hid (Hg.out.below hb)
  replace Xg := Lib.hid (Xg.out.below hb)
  replace Hh := Lib.hid (Hh.out.below hb)
  clear hb
  try simp only [World.size_alloc] at hf
  try simp only [World.size_drew] at hf
  obtain ⟨jk, jm, jn, jtk, jta, jtn, jtc, jsa, jsn, jsc, rfl⟩ := ex_parts ht.at_
  have Hj : Hid (ExIn _ d _ R (w18.heap.size) w20.heap.size) := ⟨fp, ht, hf.mono (by first | exact Nat.le_refl _ | (simp; done) | omega) (Nat.le_refl _), Nat.le_refl _⟩
  clear ht hf
  have Xj : Hid (BoxAt (w20.alloc (.cells #[.int .i64 jk, .string jm, .int .i64 jn, .int .i64 jtk, .slice jta jtn jtc, .slice jsa jsn jsc] 37)) w20.heap.size #[.int .i64 jk, .string jm, .int .i64 jn, .int .i64 jtk, .slice jta jtn jtc, .slice jsa jsn jsc]) := BoxAt.new _ _ _
  have hb := below_alloc w20 (.cells #[.int .i64 jk, .string jm, .int .i64 jn, .int .i64 jtk, .slice jta jtn jtc, .slice jsa jsn jsc] 37)
  replace B := Lib.hid (below_thru B.out (Nat.le_refl _) hb)
  replace HA1 := Lib.hid (HA1.out.below hb)
  replace XA1 := Lib.hid (XA1.out.below hb)
  replace Hu := Lib.hid (Hu.out.below hb)
  replace Xu := Lib.hid (Xu.out.below hb)
  replace Xx := Lib.hid (Xx.out.below hb)
  replace Hg := Lib.hid (Hg.out.below hb)
  replace Xg := Lib.hid (Xg.out.below hb)
  replace Hh := Lib.hid (Hh.out.below hb)
  replace Hj := Lib.hid (Hj.out.below hb)
  clear hb
  clear Hh
  have cXA1_0 := XA1.out.2 0
  have cXA1_1 := XA1.out.2 1
  have cXA1_2 := XA1.out.2 2
  have cXA1_3 := XA1.out.2 3
  have cXA1_4 := XA1.out.2 4
  have cXA1_5 := XA1.out.2 5
  have cXu_0 := Xu.out.2 0
  have cXu_1 := Xu.out.2 1
  have cXu_2 := Xu.out.2 2
  have cXu_3 := Xu.out.2 3
  have cXu_4 := Xu.out.2 4
  have cXu_5 := Xu.out.2 5
  have cXx_0 := Xx.out.2 0
  have cXx_1 := Xx.out.2 1
  have cXx_2 := Xx.out.2 2
  have cXx_3 := Xx.out.2 3
  have cXx_4 := Xx.out.2 4
  have cXx_5 := Xx.out.2 5
  have cXg_0 := Xg.out.2 0
  have cXg_1 := Xg.out.2 1
  have cXg_2 := Xg.out.2 2
  have cXg_3 := Xg.out.2 3
  have cXg_4 := Xg.out.2 4
  have cXg_5 := Xg.out.2 5
  have cXj_0 := Xj.out.2 0
  have cXj_1 := Xj.out.2 1
  have cXj_2 := Xj.out.2 2
  have cXj_3 := Xj.out.2 3
  have cXj_4 := Xj.out.2 4
  have cXj_5 := Xj.out.2 5
  go_wp2_with fail
  clear cXA1_0 cXA1_1 cXA1_2 cXA1_3 cXA1_4 cXA1_5 cXu_0 cXu_1 cXu_2 cXu_3 cXu_4 cXu_5 cXx_0 cXx_1 cXx_2 cXx_3 cXx_4 cXx_5 cXg_0 cXg_1 cXg_2 cXg_3 cXg_4 cXg_5 cXj_0 cXj_1 cXj_2 cXj_3 cXj_4 cXj_5
  refine (eqEx_all d _ _ R _ Hj.out.at_ Hu.out.at_).mono ?_
  rintro e w21 ⟨rfl, hb⟩
  have hz21 := hb.size
  try simp only [World.size_alloc] at hz21
  try simp only [World.size_drew] at hz21
  replace B := Lib.hid (below_thru B.out (Nat.le_refl _) hb)
  replace HA1 := Lib.hid (HA1.out.below hb)
  replace XA1 := Lib.hid (XA1.out.below hb)
  replace Hu := Lib.hid (Hu.out.below hb)
  replace Xu := Lib.hid (Xu.out.below hb)
  replace Xx := Lib.hid (Xx.out.below hb)
  replace Hg := Lib.hid (Hg.out.below hb)
  replace Xg := Lib.hid (Xg.out.below hb)
  replace Hj := Lib.hid (Hj.out.below hb)
  replace Xj := Lib.hid (Xj.out.below hb)
  clear hb
  have cXA1_0 := XA1.out.2 0
  have cXA1_1 := XA1.out.2 1
  have cXA1_2 := XA1.out.2 2
  have cXA1_3 := XA1.out.2 3
  have cXA1_4 := XA1.out.2 4
  have cXA1_5 := XA1.out.2 5
  have cXu_0 := Xu.out.2 0
  have cXu_1 := Xu.out.2 1
  have cXu_2 := Xu.out.2 2
  have cXu_3 := Xu.out.2 3
  have cXu_4 := Xu.out.2 4
  have cXu_5 := Xu.out.2 5
  have cXx_0 := Xx.out.2 0
  have cXx_1 := Xx.out.2 1
  have cXx_2 := Xx.out.2 2
  have cXx_3 := Xx.out.2 3
  have cXx_4 := Xx.out.2 4
  have cXx_5 := Xx.out.2 5
  have cXg_0 := Xg.out.2 0
  have cXg_1 := Xg.out.2 1
  have cXg_2 := Xg.out.2 2
  have cXg_3 := Xg.out.2 3
  have cXg_4 := Xg.out.2 4
  have cXg_5 := Xg.out.2 5
  have cXj_0 := Xj.out.2 0
  have cXj_1 := Xj.out.2 1
  have cXj_2 := Xj.out.2 2
  have cXj_3 := Xj.out.2 3
  have cXj_4 := Xj.out.2 4
  have cXj_5 := Xj.out.2 5
  go_wp2_with fail
  clear cXA1_0 cXA1_1 cXA1_2 cXA1_3 cXA1_4 cXA1_5 cXu_0 cXu_1 cXu_2 cXu_3 cXu_4 cXu_5 cXx_0 cXx_1 cXx_2 cXx_3 cXx_4 cXx_5 cXg_0 cXg_1 cXg_2 cXg_3 cXg_4 cXg_5 cXj_0 cXj_1 cXj_2 cXj_3 cXj_4 cXj_5
  refine (heldEx d _ R 1 _ (by omega) (by omega) Hg.out.at_).mono ?_
  rintro e w22 ⟨rfl, hb⟩
  have hz22 := hb.size
  try simp only [World.size_alloc] at hz22
  try simp only [World.size_drew] at hz22
  replace B := Lib.hid (below_thru B.out (Nat.le_refl _) hb)
  replace HA1 := Lib.hid (HA1.out.below hb)
  replace XA1 := Lib.hid (XA1.out.below hb)
  replace Hu := Lib.hid (Hu.out.below hb)
  replace Xu := Lib.hid (Xu.out.below hb)
  replace Xx := Lib.hid (Xx.out.below hb)
  replace Hg := Lib.hid (Hg.out.below hb)
  replace Xg := Lib.hid (Xg.out.below hb)
  replace Hj := Lib.hid (Hj.out.below hb)
  replace Xj := Lib.hid (Xj.out.below hb)
  clear hb
  rw [← Nmc.out]
  have cXA1_0 := XA1.out.2 0
  have cXA1_1 := XA1.out.2 1
  have cXA1_2 := XA1.out.2 2
  have cXA1_3 := XA1.out.2 3
  have cXA1_4 := XA1.out.2 4
  have cXA1_5 := XA1.out.2 5
  have cXu_0 := Xu.out.2 0
  have cXu_1 := Xu.out.2 1
  have cXu_2 := Xu.out.2 2
  have cXu_3 := Xu.out.2 3
  have cXu_4 := Xu.out.2 4
  have cXu_5 := Xu.out.2 5
  have cXx_0 := Xx.out.2 0
  have cXx_1 := Xx.out.2 1
  have cXx_2 := Xx.out.2 2
  have cXx_3 := Xx.out.2 3
  have cXx_4 := Xx.out.2 4
  have cXx_5 := Xx.out.2 5
  have cXg_0 := Xg.out.2 0
  have cXg_1 := Xg.out.2 1
  have cXg_2 := Xg.out.2 2
  have cXg_3 := Xg.out.2 3
  have cXg_4 := Xg.out.2 4
  have cXg_5 := Xg.out.2 5
  have cXj_0 := Xj.out.2 0
  have cXj_1 := Xj.out.2 1
  have cXj_2 := Xj.out.2 2
  have cXj_3 := Xj.out.2 3
  have cXj_4 := Xj.out.2 4
  have cXj_5 := Xj.out.2 5
  go_wp2_with fail
  go_ret
  exact ⟨rfl, B.out⟩
end Go.Proofs.Ytimigpdbegfjaaa
