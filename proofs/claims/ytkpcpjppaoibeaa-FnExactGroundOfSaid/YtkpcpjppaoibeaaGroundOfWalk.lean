/-
  Proved: the law FnExactGroundOf answers true for every type, and leaves the memory that was there as it was.
-/
import Derived.Test.YtkpcpjppaoibeaaToType
import Derived.Test.YtkpcpjppaoibeaaHold
import Derived.Test.YtkpcpjppaoibeaaPart
import Derived.Test.YtkpcpjppaoibeaaSzType
import Derived.Test.YtkpcpjppaoibeaaEqType
import Derived.Test.YtkpcpjppaoibeaaOwnIn
import Derived.Test.YtkpcpjppaoibeaaImplGround
import Derived.Test.YtkpcpjppaoibeaaSpecGround
import Derived.Deep.RegionHeld3
namespace Go.Proofs.Ytkpcpjppaoibeaa
open Go.RowKit

set_option maxRecDepth 100000 in
set_option maxHeartbeats 2000000 in
theorem groundOfWalk (d : Nat) (v1 : Value) (t1 : Ty) (w : World) (h1 : TyAt w d v1 t1) :
    Calls Try.prog 10 #[v1] w fun e w' => e = .returned (.bool true) ∧ Below w.heap.size w w' := by
  obtain ⟨a1k, a1a, a1n, a1c, rfl⟩ := agg_parts h1
  have B : Hid (Below w.heap.size w (w.alloc (.cells #[.int .i64 a1k, .slice a1a a1n a1c] 36))) := below_alloc _ _
  have HA10 := Lib.hid h1
  have HA1 := Lib.hid (h1.below B.out)
  have XA1 : Hid (BoxAt (w.alloc (.cells #[.int .i64 a1k, .slice a1a a1n a1c] 36)) (w.heap.size) #[.int .i64 a1k, .slice a1a a1n a1c]) := BoxAt.new _ _ _
  clear h1
  go_enter Try.func10, Try.ntmps10
  go_wp2_with fail
  refine (szTy_all d _ t1 1048576 _ (by omega) (by omega) HA1.out).mono ?_
  rintro e w1 ⟨r1, rfl, hb, hr1⟩
  have hz1 := hb.size
  try simp only [World.size_alloc] at hz1
  try simp only [World.size_drew] at hz1
  replace B := Lib.hid (below_thru B.out (Nat.le_refl _) hb)
  replace HA1 := Lib.hid (HA1.out.below hb)
  replace XA1 := Lib.hid (XA1.out.below hb)
  clear hb
  rcases hr1 with ⟨hr1, hs1⟩ | ⟨hr1, hs1⟩
  · go_wp2_with fail
    go_ret
    exact ⟨rfl, B.out⟩
  have hp1 := t1.size_pos
  have hn1 : t1.size ≤ 1048577 := by omega
  clear hs1 hp1
  have hrb := t1.ground_size
  have cXA1_0 := XA1.out.2 0
  have cXA1_1 := XA1.out.2 1
  go_wp2_with fail
  clear cXA1_0 cXA1_1
  refine ((toTy_all d).1 _ t1 _ hn1 HA1.out).mono ?_
  rintro e w2 ⟨s, fp, rfl, ht, hf, hb⟩
  have hz2 := hb.size
  try simp only [World.size_alloc] at hz2
  try simp only [World.size_drew] at hz2
  replace B := Lib.hid (below_thru B.out (Nat.le_refl _) hb)
  replace HA1 := Lib.hid (HA1.out.below hb)
  replace XA1 := Lib.hid (XA1.out.below hb)
  clear hb
  have Hs := Lib.hid ht.at_
  clear ht hf
  have cXA1_0 := XA1.out.2 0
  have cXA1_1 := XA1.out.2 1
  go_wp2_with fail
  clear cXA1_0 cXA1_1
  refine (specGround d _ t1 _ Hs.out hn1).mono ?_
  rintro e w3 ⟨o, fp, rfl, ht, hf, hb⟩
  have hz3 := hb.size
  try simp only [World.size_alloc] at hz3
  try simp only [World.size_drew] at hz3
  replace B := Lib.hid (below_thru B.out (Nat.le_refl _) hb)
  replace HA1 := Lib.hid (HA1.out.below hb)
  replace XA1 := Lib.hid (XA1.out.below hb)
  replace Hs := Lib.hid (Hs.out.below hb)
  clear hb
  obtain ⟨ok, oa, on, oc, rfl, HY⟩ := ty_parts ht
  have Ho := Lib.hid (OwnIn.of HY.out hf (lo := w2.heap.size) (by first | exact Nat.le_refl _ | simp | (simp; omega)))
  clear ht hf HY
  have Xo : Hid (BoxAt (w3.alloc (.cells #[.int .i64 ok, .slice oa on oc] 26)) w3.heap.size #[.int .i64 ok, .slice oa on oc]) := BoxAt.new _ _ _
  have hb := below_alloc w3 (.cells #[.int .i64 ok, .slice oa on oc] 26)
  replace B := Lib.hid (below_thru B.out (Nat.le_refl _) hb)
  replace HA1 := Lib.hid (HA1.out.below hb)
  replace XA1 := Lib.hid (XA1.out.below hb)
  replace Hs := Lib.hid (Hs.out.below hb)
  replace Ho := Lib.hid (Ho.out.below hb)
  clear hb
  clear Hs
  have cXA1_0 := XA1.out.2 0
  have cXA1_1 := XA1.out.2 1
  have cXo_0 := Xo.out.2 0
  have cXo_1 := Xo.out.2 1
  go_wp2_with fail
  clear cXA1_0 cXA1_1 cXo_0 cXo_1
  refine ((toTy_all d).1 _ t1 _ hn1 HA1.out).mono ?_
  rintro e w4 ⟨x, fp, rfl, ht, hf, hb⟩
  have hz4 := hb.size
  try simp only [World.size_alloc] at hz4
  try simp only [World.size_drew] at hz4
  replace B := Lib.hid (below_thru B.out (Nat.le_refl _) hb)
  replace HA1 := Lib.hid (HA1.out.below hb)
  replace XA1 := Lib.hid (XA1.out.below hb)
  replace Ho := Lib.hid (Ho.out.below hb)
  replace Xo := Lib.hid (Xo.out.below hb)
  clear hb
  obtain ⟨xk, xa, xn, xc, rfl, HY⟩ := ty_parts ht
  have Hx := Lib.hid (OwnIn.of HY.out hf (lo := w3.heap.size + 1) (by first | exact Nat.le_refl _ | simp | (simp; omega)))
  clear ht hf HY
  have Xx : Hid (BoxAt (w4.alloc (.cells #[.int .i64 xk, .slice xa xn xc] 26)) w4.heap.size #[.int .i64 xk, .slice xa xn xc]) := BoxAt.new _ _ _
  have hb := below_alloc w4 (.cells #[.int .i64 xk, .slice xa xn xc] 26)
  replace B := Lib.hid (below_thru B.out (Nat.le_refl _) hb)
  replace HA1 := Lib.hid (HA1.out.below hb)
  replace XA1 := Lib.hid (XA1.out.below hb)
  replace Ho := Lib.hid (Ho.out.below hb)
  replace Xo := Lib.hid (Xo.out.below hb)
  replace Hx := Lib.hid (Hx.out.below hb)
  clear hb
  have cXA1_0 := XA1.out.2 0
  have cXA1_1 := XA1.out.2 1
  have cXo_0 := Xo.out.2 0
  have cXo_1 := Xo.out.2 1
  have cXx_0 := Xx.out.2 0
  have cXx_1 := Xx.out.2 1
  go_wp2_with fail
  clear cXA1_0 cXA1_1 cXo_0 cXo_1 cXx_0 cXx_1
  have HxAT := Lib.hid Hx.out.at_
  refine (implGround d _ t1 _ HxAT.out hn1).mono ?_
  rintro e w5 ⟨g, fp, rfl, ht, hf, hb⟩
  have hz5 := hb.size
  try simp only [World.size_alloc] at hz5
  try simp only [World.size_drew] at hz5
  replace B := Lib.hid (below_thru B.out (Nat.le_refl _) hb)
  replace HA1 := Lib.hid (HA1.out.below hb)
  replace XA1 := Lib.hid (XA1.out.below hb)
  replace Ho := Lib.hid (Ho.out.below hb)
  replace Xo := Lib.hid (Xo.out.below hb)
  replace Hx := Lib.hid (Hx.out.below hb)
  replace Xx := Lib.hid (Xx.out.below hb)
  clear hb
  obtain ⟨gk, ga, gn, gc, rfl, HY⟩ := ty_parts ht
  have Hg := Lib.hid (OwnIn.of HY.out hf (lo := w4.heap.size + 1) (by first | exact Nat.le_refl _ | simp | (simp; omega)))
  clear ht hf HY
  have Xg : Hid (BoxAt (w5.alloc (.cells #[.int .i64 gk, .slice ga gn gc] 26)) w5.heap.size #[.int .i64 gk, .slice ga gn gc]) := BoxAt.new _ _ _
  have hb := below_alloc w5 (.cells #[.int .i64 gk, .slice ga gn gc] 26)
  replace B := Lib.hid (below_thru B.out (Nat.le_refl _) hb)
  replace HA1 := Lib.hid (HA1.out.below hb)
  replace XA1 := Lib.hid (XA1.out.below hb)
  replace Ho := Lib.hid (Ho.out.below hb)
  replace Xo := Lib.hid (Xo.out.below hb)
  replace Hx := Lib.hid (Hx.out.below hb)
  replace Xx := Lib.hid (Xx.out.below hb)
  replace Hg := Lib.hid (Hg.out.below hb)
  clear hb
  clear HxAT
  have cXA1_0 := XA1.out.2 0
  have cXA1_1 := XA1.out.2 1
  have cXo_0 := Xo.out.2 0
  have cXo_1 := Xo.out.2 1
  have cXx_0 := Xx.out.2 0
  have cXx_1 := Xx.out.2 1
  have cXg_0 := Xg.out.2 0
  have cXg_1 := Xg.out.2 1
  go_wp2_with fail
  clear cXA1_0 cXA1_1 cXo_0 cXo_1 cXx_0 cXx_1 cXg_0 cXg_1
  refine (eqTy_all 2 _ _ t1.ground _ Hg.out.at_ Ho.out.at_).mono ?_
  rintro e w6 ⟨rfl, hb⟩
  have hz6 := hb.size
  try simp only [World.size_alloc] at hz6
  try simp only [World.size_drew] at hz6
  replace B := Lib.hid (below_thru B.out (Nat.le_refl _) hb)
  replace HA1 := Lib.hid (HA1.out.below hb)
  replace XA1 := Lib.hid (XA1.out.below hb)
  replace Ho := Lib.hid (Ho.out.below hb)
  replace Xo := Lib.hid (Xo.out.below hb)
  replace Hx := Lib.hid (Hx.out.below hb)
  replace Xx := Lib.hid (Xx.out.below hb)
  replace Hg := Lib.hid (Hg.out.below hb)
  replace Xg := Lib.hid (Xg.out.below hb)
  clear hb
  have cXA1_0 := XA1.out.2 0
  have cXA1_1 := XA1.out.2 1
  have cXo_0 := Xo.out.2 0
  have cXo_1 := Xo.out.2 1
  have cXx_0 := Xx.out.2 0
  have cXx_1 := Xx.out.2 1
  have cXg_0 := Xg.out.2 0
  have cXg_1 := Xg.out.2 1
  go_wp2_with fail
  clear cXA1_0 cXA1_1 cXo_0 cXo_1 cXx_0 cXx_1 cXg_0 cXg_1
  have hb := below_drew w6
  replace B := Lib.hid (below_thru B.out (Nat.le_refl _) hb)
  replace HA1 := Lib.hid (HA1.out.below hb)
  replace XA1 := Lib.hid (XA1.out.below hb)
  replace Ho := Lib.hid (Ho.out.below hb)
  replace Xo := Lib.hid (Xo.out.below hb)
  replace Hx := Lib.hid (Hx.out.below hb)
  replace Xx := Lib.hid (Xx.out.below hb)
  replace Hg := Lib.hid (Hg.out.below hb)
  replace Xg := Lib.hid (Xg.out.below hb)
  clear hb
  go_region_held3 (fun w' => w'.cell? ⟨w.heap.size, 0, none⟩ = some (.int .i64 a1k) ∧ w'.cell? ⟨w.heap.size, 1, none⟩ = some (.slice a1a a1n a1c) ∧ w'.cell? ⟨w3.heap.size, 0, none⟩ = some (.int .i64 ok) ∧ w'.cell? ⟨w3.heap.size, 1, none⟩ = some (.slice oa on oc) ∧ w'.cell? ⟨w4.heap.size, 0, none⟩ = some (.int .i64 xk) ∧ w'.cell? ⟨w4.heap.size, 1, none⟩ = some (.slice xa xn xc) ∧ w'.cell? ⟨w5.heap.size, 0, none⟩ = some (.int .i64 gk) ∧ w'.cell? ⟨w5.heap.size, 1, none⟩ = some (.slice ga gn gc)) (exact ⟨XA1.out.2 0, XA1.out.2 1, Xo.out.2 0, Xo.out.2 1, Xx.out.2 0, Xx.out.2 1, Xg.out.2 0, Xg.out.2 1⟩)
    (first
     | (go_at_call_of 22 (Value.agg #[Value.int IntKind.i64 a1k, Value.slice a1a a1n a1c])
        refine ((toTy_all d).1 _ t1 _ hn1 HA1.out).mono ?_
        rintro e w7 ⟨y, fp, rfl, ht, hf, hb⟩
        have hz7 := hb.size
        try simp only [World.size_drew] at hz7
        replace B := Lib.hid (below_thru B.out (Nat.le_refl _) hb)
        replace HA1 := Lib.hid (HA1.out.below hb)
        replace XA1 := Lib.hid (XA1.out.below hb)
        replace Ho := Lib.hid (Ho.out.below hb)
        replace Xo := Lib.hid (Xo.out.below hb)
        replace Hx := Lib.hid (Hx.out.below hb)
        replace Xx := Lib.hid (Xx.out.below hb)
        replace Hg := Lib.hid (Hg.out.below hb)
        replace Xg := Lib.hid (Xg.out.below hb)
        clear hb
        have Hy := Lib.hid ht.at_
        clear ht hf)
     | (go_at_call 23
        refine (eqTy_all d _ y t1 _ Hx.out.at_ Hy.out).mono ?_
        rintro e w8 ⟨rfl, hb⟩
        have hz8 := hb.size
        try simp only [World.size_drew] at hz8
        replace B := Lib.hid (below_thru B.out (Nat.le_refl _) hb)
        replace HA1 := Lib.hid (HA1.out.below hb)
        replace XA1 := Lib.hid (XA1.out.below hb)
        replace Ho := Lib.hid (Ho.out.below hb)
        replace Xo := Lib.hid (Xo.out.below hb)
        replace Hx := Lib.hid (Hx.out.below hb)
        replace Xx := Lib.hid (Xx.out.below hb)
        replace Hg := Lib.hid (Hg.out.below hb)
        replace Xg := Lib.hid (Xg.out.below hb)
        clear hb
        clear Hy))
  have cXA1_0 := XA1.out.2 0
  have cXA1_1 := XA1.out.2 1
  have cXo_0 := Xo.out.2 0
  have cXo_1 := Xo.out.2 1
  have cXx_0 := Xx.out.2 0
  have cXx_1 := Xx.out.2 1
  have cXg_0 := Xg.out.2 0
  have cXg_1 := Xg.out.2 1
  go_wp2_with fail
  clear cXA1_0 cXA1_1 cXo_0 cXo_1 cXx_0 cXx_1 cXg_0 cXg_1
  refine (markOwn w.heap.size _ _ t1 _ _ 1 _ (by omega) B.out.size (by omega) (by omega) Hx.out).mono ?_
  rintro e w9 ⟨rfl, hm, hb0, hk⟩
  replace B := Lib.hid (B.out.trans hb0)
  replace HA1 := Lib.hid (HA10.out.below B.out)
  replace XA1 := Lib.hid (XA1.out.beside hk (by omega))
  replace Ho := Lib.hid (Ho.out.beside hk (by omega))
  replace Xo := Lib.hid (Xo.out.beside hk (by omega))
  replace Xx := Lib.hid (Xx.out.beside hk (by omega))
  replace Hg := Lib.hid (Hg.out.beside hk (by omega))
  replace Xg := Lib.hid (Xg.out.beside hk (by omega))
  replace Hx := Lib.hid hm
  have hz9 := hk.1
  clear hb0 hk hm
  clear Hx
  have hx0 : (0 : Int) ≤ 1 + ((t1.size - 1 : Nat) : Int) := by omega
  have hx1 : (1 : Int) + ((t1.size - 1 : Nat) : Int) ≤ 1099511627776 := by omega
  have cXA1_0 := XA1.out.2 0
  have cXA1_1 := XA1.out.2 1
  have cXo_0 := Xo.out.2 0
  have cXo_1 := Xo.out.2 1
  have cXx_0 := Xx.out.2 0
  have cXx_1 := Xx.out.2 1
  have cXg_0 := Xg.out.2 0
  have cXg_1 := Xg.out.2 1
  go_wp2_with fail
  clear cXA1_0 cXA1_1 cXo_0 cXo_1 cXx_0 cXx_1 cXg_0 cXg_1
  refine (eqTy_all 2 _ _ t1.ground _ Hg.out.at_ Ho.out.at_).mono ?_
  rintro e w10 ⟨rfl, hb⟩
  have hz10 := hb.size
  try simp only [World.size_alloc] at hz10
  try simp only [World.size_drew] at hz10
  replace B := Lib.hid (below_thru B.out (Nat.le_refl _) hb)
  replace HA1 := Lib.hid (HA1.out.below hb)
  replace XA1 := Lib.hid (XA1.out.below hb)
  replace Ho := Lib.hid (Ho.out.below hb)
  replace Xo := Lib.hid (Xo.out.below hb)
  replace Xx := Lib.hid (Xx.out.below hb)
  replace Hg := Lib.hid (Hg.out.below hb)
  replace Xg := Lib.hid (Xg.out.below hb)
  clear hb
  have cXA1_0 := XA1.out.2 0
  have cXA1_1 := XA1.out.2 1
  have cXo_0 := Xo.out.2 0
  have cXo_1 := Xo.out.2 1
  have cXx_0 := Xx.out.2 0
  have cXx_1 := Xx.out.2 1
  have cXg_0 := Xg.out.2 0
  have cXg_1 := Xg.out.2 1
  go_wp2_with fail
  clear cXA1_0 cXA1_1 cXo_0 cXo_1 cXx_0 cXx_1 cXg_0 cXg_1
  refine (markOwn w.heap.size _ _ t1.ground _ _ 1 _ (by omega) B.out.size (by omega) (by omega) Hg.out).mono ?_
  rintro e w11 ⟨rfl, hm, hb0, hk⟩
  replace B := Lib.hid (B.out.trans hb0)
  replace HA1 := Lib.hid (HA10.out.below B.out)
  replace XA1 := Lib.hid (XA1.out.beside hk (by omega))
  replace Ho := Lib.hid (Ho.out.beside hk (by omega))
  replace Xo := Lib.hid (Xo.out.beside hk (by omega))
  replace Xx := Lib.hid (Xx.out.beside hk (by omega))
  replace Xg := Lib.hid (Xg.out.beside hk (by omega))
  replace Hg := Lib.hid hm
  have hz11 := hk.1
  clear hb0 hk hm
  obtain ⟨m, hm⟩ : ∃ m : Int, m = 1 + ((t1.ground.size - 1 : Nat) : Int) := ⟨_, rfl⟩
  rw [← hm]
  have HM := Lib.hid hm
  have hm0 : 0 ≤ m := by omega
  have hm1 : m ≤ 1099511627776 := by omega
  clear hm
  have cXA1_0 := XA1.out.2 0
  have cXA1_1 := XA1.out.2 1
  have cXo_0 := Xo.out.2 0
  have cXo_1 := Xo.out.2 1
  have cXx_0 := Xx.out.2 0
  have cXx_1 := Xx.out.2 1
  have cXg_0 := Xg.out.2 0
  have cXg_1 := Xg.out.2 1
  go_wp2_with fail
  clear cXA1_0 cXA1_1 cXo_0 cXo_1 cXx_0 cXx_1 cXg_0 cXg_1
  refine (heldOwn _ _ t1.ground _ _ 1 _ (by omega) (by omega) Hg.out).mono ?_
  rintro e w12 ⟨rfl, hb⟩
  have hz12 := hb.size
  try simp only [World.size_alloc] at hz12
  try simp only [World.size_drew] at hz12
  replace B := Lib.hid (below_thru B.out (Nat.le_refl _) hb)
  replace HA1 := Lib.hid (HA1.out.below hb)
  replace XA1 := Lib.hid (XA1.out.below hb)
  replace Ho := Lib.hid (Ho.out.below hb)
  replace Xo := Lib.hid (Xo.out.below hb)
  replace Xx := Lib.hid (Xx.out.below hb)
  replace Hg := Lib.hid (Hg.out.below hb)
  replace Xg := Lib.hid (Xg.out.below hb)
  clear hb
  rw [← HM.out]
  have cXA1_0 := XA1.out.2 0
  have cXA1_1 := XA1.out.2 1
  have cXo_0 := Xo.out.2 0
  have cXo_1 := Xo.out.2 1
  have cXx_0 := Xx.out.2 0
  have cXx_1 := Xx.out.2 1
  have cXg_0 := Xg.out.2 0
  have cXg_1 := Xg.out.2 1
  go_wp2_with fail
  clear cXA1_0 cXA1_1 cXo_0 cXo_1 cXx_0 cXx_1 cXg_0 cXg_1
  refine ((toTy_all d).1 _ t1 _ hn1 HA1.out).mono ?_
  rintro e w13 ⟨h, fp, rfl, ht, hf, hb⟩
  have hz13 := hb.size
  try simp only [World.size_alloc] at hz13
  try simp only [World.size_drew] at hz13
  replace B := Lib.hid (below_thru B.out (Nat.le_refl _) hb)
  replace HA1 := Lib.hid (HA1.out.below hb)
  replace XA1 := Lib.hid (XA1.out.below hb)
  replace Ho := Lib.hid (Ho.out.below hb)
  replace Xo := Lib.hid (Xo.out.below hb)
  replace Xx := Lib.hid (Xx.out.below hb)
  replace Hg := Lib.hid (Hg.out.below hb)
  replace Xg := Lib.hid (Xg.out.below hb)
  clear hb
  have Hh := Lib.hid ht.at_
  clear ht hf
  have cXA1_0 := XA1.out.2 0
  have cXA1_1 := XA1.out.2 1
  have cXo_0 := Xo.out.2 0
  have cXo_1 := Xo.out.2 1
  have cXx_0 := Xx.out.2 0
  have cXx_1 := Xx.out.2 1
  have cXg_0 := Xg.out.2 0
  have cXg_1 := Xg.out.2 1
  go_wp2_with fail
  clear cXA1_0 cXA1_1 cXo_0 cXo_1 cXx_0 cXx_1 cXg_0 cXg_1
  refine (implGround d _ t1 _ Hh.out hn1).mono ?_
  rintro e w14 ⟨j, fp, rfl, ht, hf, hb⟩
  have hz14 := hb.size
  try simp only [World.size_alloc] at hz14
  try simp only [World.size_drew] at hz14
  replace B := Lib.hid (below_thru B.out (Nat.le_refl _) hb)
  replace HA1 := Lib.hid (HA1.out.below hb)
  replace XA1 := Lib.hid (XA1.out.below hb)
  replace Ho := Lib.hid (Ho.out.below hb)
  replace Xo := Lib.hid (Xo.out.below hb)
  replace Xx := Lib.hid (Xx.out.below hb)
  replace Hg := Lib.hid (Hg.out.below hb)
  replace Xg := Lib.hid (Xg.out.below hb)
  replace Hh := Lib.hid (Hh.out.below hb)
  clear hb
  obtain ⟨jk, ja, jn, jc, rfl, HY⟩ := ty_parts ht
  have Hj := Lib.hid (OwnIn.of HY.out hf (lo := w13.heap.size) (by first | exact Nat.le_refl _ | simp | (simp; omega)))
  clear ht hf HY
  have Xj : Hid (BoxAt (w14.alloc (.cells #[.int .i64 jk, .slice ja jn jc] 26)) w14.heap.size #[.int .i64 jk, .slice ja jn jc]) := BoxAt.new _ _ _
  have hb := below_alloc w14 (.cells #[.int .i64 jk, .slice ja jn jc] 26)
  replace B := Lib.hid (below_thru B.out (Nat.le_refl _) hb)
  replace HA1 := Lib.hid (HA1.out.below hb)
  replace XA1 := Lib.hid (XA1.out.below hb)
  replace Ho := Lib.hid (Ho.out.below hb)
  replace Xo := Lib.hid (Xo.out.below hb)
  replace Xx := Lib.hid (Xx.out.below hb)
  replace Hg := Lib.hid (Hg.out.below hb)
  replace Xg := Lib.hid (Xg.out.below hb)
  replace Hh := Lib.hid (Hh.out.below hb)
  replace Hj := Lib.hid (Hj.out.below hb)
  clear hb
  clear Hh
  have cXA1_0 := XA1.out.2 0
  have cXA1_1 := XA1.out.2 1
  have cXo_0 := Xo.out.2 0
  have cXo_1 := Xo.out.2 1
  have cXx_0 := Xx.out.2 0
  have cXx_1 := Xx.out.2 1
  have cXg_0 := Xg.out.2 0
  have cXg_1 := Xg.out.2 1
  have cXj_0 := Xj.out.2 0
  have cXj_1 := Xj.out.2 1
  go_wp2_with fail
  clear cXA1_0 cXA1_1 cXo_0 cXo_1 cXx_0 cXx_1 cXg_0 cXg_1 cXj_0 cXj_1
  refine (eqTy_all 2 _ _ t1.ground _ Hj.out.at_ Ho.out.at_).mono ?_
  rintro e w15 ⟨rfl, hb⟩
  have hz15 := hb.size
  try simp only [World.size_alloc] at hz15
  try simp only [World.size_drew] at hz15
  replace B := Lib.hid (below_thru B.out (Nat.le_refl _) hb)
  replace HA1 := Lib.hid (HA1.out.below hb)
  replace XA1 := Lib.hid (XA1.out.below hb)
  replace Ho := Lib.hid (Ho.out.below hb)
  replace Xo := Lib.hid (Xo.out.below hb)
  replace Xx := Lib.hid (Xx.out.below hb)
  replace Hg := Lib.hid (Hg.out.below hb)
  replace Xg := Lib.hid (Xg.out.below hb)
  replace Hj := Lib.hid (Hj.out.below hb)
  replace Xj := Lib.hid (Xj.out.below hb)
  clear hb
  have cXA1_0 := XA1.out.2 0
  have cXA1_1 := XA1.out.2 1
  have cXo_0 := Xo.out.2 0
  have cXo_1 := Xo.out.2 1
  have cXx_0 := Xx.out.2 0
  have cXx_1 := Xx.out.2 1
  have cXg_0 := Xg.out.2 0
  have cXg_1 := Xg.out.2 1
  have cXj_0 := Xj.out.2 0
  have cXj_1 := Xj.out.2 1
  go_wp2_with fail
  clear cXA1_0 cXA1_1 cXo_0 cXo_1 cXx_0 cXx_1 cXg_0 cXg_1 cXj_0 cXj_1
  refine (heldOwn _ _ t1.ground _ _ 1 _ (by omega) (by omega) Hg.out).mono ?_
  rintro e w16 ⟨rfl, hb⟩
  have hz16 := hb.size
  try simp only [World.size_alloc] at hz16
  try simp only [World.size_drew] at hz16
  replace B := Lib.hid (below_thru B.out (Nat.le_refl _) hb)
  replace HA1 := Lib.hid (HA1.out.below hb)
  replace XA1 := Lib.hid (XA1.out.below hb)
  replace Ho := Lib.hid (Ho.out.below hb)
  replace Xo := Lib.hid (Xo.out.below hb)
  replace Xx := Lib.hid (Xx.out.below hb)
  replace Hg := Lib.hid (Hg.out.below hb)
  replace Xg := Lib.hid (Xg.out.below hb)
  replace Hj := Lib.hid (Hj.out.below hb)
  replace Xj := Lib.hid (Xj.out.below hb)
  clear hb
  rw [← HM.out]
  have cXA1_0 := XA1.out.2 0
  have cXA1_1 := XA1.out.2 1
  have cXo_0 := Xo.out.2 0
  have cXo_1 := Xo.out.2 1
  have cXx_0 := Xx.out.2 0
  have cXx_1 := Xx.out.2 1
  have cXg_0 := Xg.out.2 0
  have cXg_1 := Xg.out.2 1
  have cXj_0 := Xj.out.2 0
  have cXj_1 := Xj.out.2 1
  go_wp2_with fail
  go_ret
  exact ⟨rfl, B.out⟩
end Go.Proofs.Ytkpcpjppaoibeaa
