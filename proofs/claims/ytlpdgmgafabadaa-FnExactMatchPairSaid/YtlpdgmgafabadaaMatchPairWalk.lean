/-
  Proved: the law FnExactMatchPair answers true for every type, and leaves the memory that was there as it was.
-/
import Derived.Test.YtlpdgmgafabadaaToType
import Derived.Test.YtlpdgmgafabadaaHold
import Derived.Test.YtlpdgmgafabadaaPart
import Derived.Test.YtlpdgmgafabadaaSzType
import Derived.Test.YtlpdgmgafabadaaEqType
import Derived.Test.YtlpdgmgafabadaaOwnIn
import Derived.Test.YtlpdgmgafabadaaTwo
import Derived.Test.YtlpdgmgafabadaaMatchSize
import Derived.Test.YtlpdgmgafabadaaImplMatchTwo
import Derived.Test.YtlpdgmgafabadaaSpecMatchTwo
import Derived.Deep.RegionHeld3
namespace Go.Proofs.Ytlpdgmgafabadaa
open Go.RowKit

set_option maxRecDepth 100000 in
set_option maxHeartbeats 4000000 in
theorem matchPairWalk (d : Nat) (v1 : Value) (t1 : Ty) (w : World) (h1 : TyAt w d v1 t1) :
    Calls Try.prog 4 #[v1] w fun e w' => e = .returned (.bool true) ∧ Below w.heap.size w w' := by
  obtain ⟨a1k, a1a, a1n, a1c, rfl⟩ := agg_parts h1
  have B : Hid (Below w.heap.size w (w.alloc (.cells #[.int .i64 a1k, .slice a1a a1n a1c] 24))) := below_alloc _ _
  have HA10 := Lib.hid h1
  have HA1 := Lib.hid (h1.below B.out)
  have XA1 : Hid (BoxAt (w.alloc (.cells #[.int .i64 a1k, .slice a1a a1n a1c] 24)) (w.heap.size) #[.int .i64 a1k, .slice a1a a1n a1c]) := BoxAt.new _ _ _
  clear h1
  go_enter Try.func4, Try.ntmps4
  go_wp2_with fail
  refine (szTy_all d _ t1 1048576 _ (by omega) (by omega) HA1.out).mono ?_
  rintro e w1 ⟨r1, rfl, hb, hr1⟩
  have hz1 := hb.size
  try simp only [World.size_alloc] at hz1
  try simp only [World.size_drew] at hz1
  replace B := Lib.hid (below_thru B.out (Nat.le_refl _) hb)
  replace HA1 := Lib.hid (HA1.out.below hb)
  replace XA1 := Lib.hid (XA1.out.below hb)
  clear hb
  rcases hr1 with ⟨hr1, hs1⟩ | ⟨hr1, hs1⟩
  · go_wp2_with fail
    go_ret
    exact ⟨rfl, B.out⟩
  have hp1 := t1.size_pos
  have hn1 : t1.size ≤ 1048577 := by omega
  clear hs1 hp1
  obtain ⟨hrb1, hrb2⟩ := parts_size 5 t1
  have cXA1_0 := XA1.out.2 0
  have cXA1_1 := XA1.out.2 1
  go_wp2_with fail
  clear cXA1_0 cXA1_1
  refine ((toTy_all d).1 _ t1 _ hn1 HA1.out).mono ?_
  rintro e w2 ⟨s, fp, rfl, ht, hf, hb⟩
  have hz2 := hb.size
  try simp only [World.size_alloc] at hz2
  try simp only [World.size_drew] at hz2
  replace B := Lib.hid (below_thru B.out (Nat.le_refl _) hb)
  replace HA1 := Lib.hid (HA1.out.below hb)
  replace XA1 := Lib.hid (XA1.out.below hb)
  clear hb
  have Hs := Lib.hid ht.at_
  clear ht hf
  have cXA1_0 := XA1.out.2 0
  have cXA1_1 := XA1.out.2 1
  go_wp2_with fail
  clear cXA1_0 cXA1_1
  refine (specMatchPair d _ t1 _ Hs.out hn1).mono ?_
  rintro e w3 ⟨o1, o2, mo, rfl, hmo, ho1, ho2, hb⟩
  have hz3 := hb.size
  try simp only [World.size_alloc] at hz3
  try simp only [World.size_drew] at hz3
  try simp only [World.size_alloc] at ho1 hmo
  have hno : mo ≤ w3.heap.size := by obtain ⟨_, _, _, hh⟩ := ho1; exact hh
  replace B := Lib.hid (below_thru B.out (Nat.le_refl _) hb)
  replace HA1 := Lib.hid (HA1.out.below hb)
  replace XA1 := Lib.hid (XA1.out.below hb)
  replace Hs := Lib.hid (Hs.out.below hb)
  clear hb
  obtain ⟨o1k, o1a, o1n, o1c, rfl⟩ := agg_parts ho1.at_
  have Ho1 := Lib.hid ho1
  clear ho1
  obtain ⟨o2k, o2a, o2n, o2c, rfl⟩ := agg_parts ho2.at_
  have Ho2 := Lib.hid ho2
  clear ho2
  have Xo1 : Hid (BoxAt (w3.alloc (.cells #[.int .i64 o1k, .slice o1a o1n o1c] 28)) w3.heap.size #[.int .i64 o1k, .slice o1a o1n o1c]) := BoxAt.new _ _ _
  have hb := below_alloc w3 (.cells #[.int .i64 o1k, .slice o1a o1n o1c] 28)
  replace B := Lib.hid (below_thru B.out (Nat.le_refl _) hb)
  replace HA1 := Lib.hid (HA1.out.below hb)
  replace XA1 := Lib.hid (XA1.out.below hb)
  replace Hs := Lib.hid (Hs.out.below hb)
  replace Ho1 := Lib.hid (Ho1.out.below hb)
  replace Ho2 := Lib.hid (Ho2.out.below hb)
  clear hb
  have Xo2 : Hid (BoxAt ((w3.alloc (.cells #[.int .i64 o1k, .slice o1a o1n o1c] 28)).alloc (.cells #[.int .i64 o2k, .slice o2a o2n o2c] 28)) (w3.heap.size + 1) #[.int .i64 o2k, .slice o2a o2n o2c]) := box_at (BoxAt.new _ _ _) (by simp)
  have hb := below_alloc (w3.alloc (.cells #[.int .i64 o1k, .slice o1a o1n o1c] 28)) (.cells #[.int .i64 o2k, .slice o2a o2n o2c] 28)
  replace B := Lib.hid (below_thru B.out (Nat.le_refl _) hb)
  replace HA1 := Lib.hid (HA1.out.below hb)
  replace XA1 := Lib.hid (XA1.out.below hb)
  replace Hs := Lib.hid (Hs.out.below hb)
  replace Ho1 := Lib.hid (Ho1.out.below hb)
  replace Ho2 := Lib.hid (Ho2.out.below hb)
  replace Xo1 := Lib.hid (Xo1.out.below hb)
  clear hb
  clear Hs
  have cXA1_0 := XA1.out.2 0
  have cXA1_1 := XA1.out.2 1
  have cXo1_0 := Xo1.out.2 0
  have cXo1_1 := Xo1.out.2 1
  have cXo2_0 := Xo2.out.2 0
  have cXo2_1 := Xo2.out.2 1
  go_wp2_with fail
  clear cXA1_0 cXA1_1 cXo1_0 cXo1_1 cXo2_0 cXo2_1
  refine ((toTy_all d).1 _ t1 _ hn1 HA1.out).mono ?_
  rintro e w4 ⟨x, fp, rfl, ht, hf, hb⟩
  have hz4 := hb.size
  try simp only [World.size_alloc] at hz4
  try simp only [World.size_drew] at hz4
  replace B := Lib.hid (below_thru B.out (Nat.le_refl _) hb)
  replace HA1 := Lib.hid (HA1.out.below hb)
  replace XA1 := Lib.hid (XA1.out.below hb)
  replace Ho1 := Lib.hid (Ho1.out.below hb)
  replace Ho2 := Lib.hid (Ho2.out.below hb)
  replace Xo1 := Lib.hid (Xo1.out.below hb)
  replace Xo2 := Lib.hid (Xo2.out.below hb)
  clear hb
  obtain ⟨xk, xa, xn, xc, rfl, HY⟩ := ty_parts ht
  have Hx := Lib.hid (OwnIn.of HY.out hf (lo := w3.heap.size + 1 + 1) (by first | exact Nat.le_refl _ | simp | (simp; omega)))
  clear ht hf HY
  have Xx : Hid (BoxAt (w4.alloc (.cells #[.int .i64 xk, .slice xa xn xc] 28)) w4.heap.size #[.int .i64 xk, .slice xa xn xc]) := BoxAt.new _ _ _
  have hb := below_alloc w4 (.cells #[.int .i64 xk, .slice xa xn xc] 28)
  replace B := Lib.hid (below_thru B.out (Nat.le_refl _) hb)
  replace HA1 := Lib.hid (HA1.out.below hb)
  replace XA1 := Lib.hid (XA1.out.below hb)
  replace Ho1 := Lib.hid (Ho1.out.below hb)
  replace Ho2 := Lib.hid (Ho2.out.below hb)
  replace Xo1 := Lib.hid (Xo1.out.below hb)
  replace Xo2 := Lib.hid (Xo2.out.below hb)
  replace Hx := Lib.hid (Hx.out.below hb)
  clear hb
  have cXA1_0 := XA1.out.2 0
  have cXA1_1 := XA1.out.2 1
  have cXo1_0 := Xo1.out.2 0
  have cXo1_1 := Xo1.out.2 1
  have cXo2_0 := Xo2.out.2 0
  have cXo2_1 := Xo2.out.2 1
  have cXx_0 := Xx.out.2 0
  have cXx_1 := Xx.out.2 1
  go_wp2_with fail
  clear cXA1_0 cXA1_1 cXo1_0 cXo1_1 cXo2_0 cXo2_1 cXx_0 cXx_1
  have HxAT := Lib.hid Hx.out.at_
  refine (implMatchPair d _ t1 _ HxAT.out hn1).mono ?_
  rintro e w5 ⟨g1, g2, mg, rfl, hmg, ho1, ho2, hb⟩
  have hz5 := hb.size
  try simp only [World.size_alloc] at hz5
  try simp only [World.size_drew] at hz5
  try simp only [World.size_alloc] at ho1 hmg
  have hng : mg ≤ w5.heap.size := by obtain ⟨_, _, _, hh⟩ := ho1; exact hh
  replace B := Lib.hid (below_thru B.out (Nat.le_refl _) hb)
  replace HA1 := Lib.hid (HA1.out.below hb)
  replace XA1 := Lib.hid (XA1.out.below hb)
  replace Ho1 := Lib.hid (Ho1.out.below hb)
  replace Ho2 := Lib.hid (Ho2.out.below hb)
  replace Xo1 := Lib.hid (Xo1.out.below hb)
  replace Xo2 := Lib.hid (Xo2.out.below hb)
  replace Hx := Lib.hid (Hx.out.below hb)
  replace Xx := Lib.hid (Xx.out.below hb)
  clear hb
  obtain ⟨g1k, g1a, g1n, g1c, rfl⟩ := agg_parts ho1.at_
  have Hg1 := Lib.hid ho1
  clear ho1
  obtain ⟨g2k, g2a, g2n, g2c, rfl⟩ := agg_parts ho2.at_
  have Hg2 := Lib.hid ho2
  clear ho2
  have Xg1 : Hid (BoxAt (w5.alloc (.cells #[.int .i64 g1k, .slice g1a g1n g1c] 28)) w5.heap.size #[.int .i64 g1k, .slice g1a g1n g1c]) := BoxAt.new _ _ _
  have hb := below_alloc w5 (.cells #[.int .i64 g1k, .slice g1a g1n g1c] 28)
  replace B := Lib.hid (below_thru B.out (Nat.le_refl _) hb)
  replace HA1 := Lib.hid (HA1.out.below hb)
  replace XA1 := Lib.hid (XA1.out.below hb)
  replace Ho1 := Lib.hid (Ho1.out.below hb)
  replace Ho2 := Lib.hid (Ho2.out.below hb)
  replace Xo1 := Lib.hid (Xo1.out.below hb)
  replace Xo2 := Lib.hid (Xo2.out.below hb)
  replace Hx := Lib.hid (Hx.out.below hb)
  replace Xx := Lib.hid (Xx.out.below hb)
  replace Hg1 := Lib.hid (Hg1.out.below hb)
  replace Hg2 := Lib.hid (Hg2.out.below hb)
  clear hb
  have Xg2 : Hid (BoxAt ((w5.alloc (.cells #[.int .i64 g1k, .slice g1a g1n g1c] 28)).alloc (.cells #[.int .i64 g2k, .slice g2a g2n g2c] 28)) (w5.heap.size + 1) #[.int .i64 g2k, .slice g2a g2n g2c]) := box_at (BoxAt.new _ _ _) (by simp)
  have hb := below_alloc (w5.alloc (.cells #[.int .i64 g1k, .slice g1a g1n g1c] 28)) (.cells #[.int .i64 g2k, .slice g2a g2n g2c] 28)
  replace B := Lib.hid (below_thru B.out (Nat.le_refl _) hb)
  replace HA1 := Lib.hid (HA1.out.below hb)
  replace XA1 := Lib.hid (XA1.out.below hb)
  replace Ho1 := Lib.hid (Ho1.out.below hb)
  replace Ho2 := Lib.hid (Ho2.out.below hb)
  replace Xo1 := Lib.hid (Xo1.out.below hb)
  replace Xo2 := Lib.hid (Xo2.out.below hb)
  replace Hx := Lib.hid (Hx.out.below hb)
  replace Xx := Lib.hid (Xx.out.below hb)
  replace Hg1 := Lib.hid (Hg1.out.below hb)
  replace Hg2 := Lib.hid (Hg2.out.below hb)
  replace Xg1 := Lib.hid (Xg1.out.below hb)
  clear hb
  clear HxAT
  have cXA1_0 := XA1.out.2 0
  have cXA1_1 := XA1.out.2 1
  have cXo1_0 := Xo1.out.2 0
  have cXo1_1 := Xo1.out.2 1
  have cXo2_0 := Xo2.out.2 0
  have cXo2_1 := Xo2.out.2 1
  have cXx_0 := Xx.out.2 0
  have cXx_1 := Xx.out.2 1
  have cXg1_0 := Xg1.out.2 0
  have cXg1_1 := Xg1.out.2 1
  have cXg2_0 := Xg2.out.2 0
  have cXg2_1 := Xg2.out.2 1
  go_wp2_with fail
  clear cXA1_0 cXA1_1 cXo1_0 cXo1_1 cXo2_0 cXo2_1 cXx_0 cXx_1 cXg1_0 cXg1_1 cXg2_0 cXg2_1
  refine (eqTy_all d _ _ (t1.parts 5).1 _ Hg1.out.at_ Ho1.out.at_).mono ?_
  rintro e w6 ⟨rfl, hb⟩
  have hz6 := hb.size
  try simp only [World.size_alloc] at hz6
  try simp only [World.size_drew] at hz6
  replace B := Lib.hid (below_thru B.out (Nat.le_refl _) hb)
  replace HA1 := Lib.hid (HA1.out.below hb)
  replace XA1 := Lib.hid (XA1.out.below hb)
  replace Ho1 := Lib.hid (Ho1.out.below hb)
  replace Ho2 := Lib.hid (Ho2.out.below hb)
  replace Xo1 := Lib.hid (Xo1.out.below hb)
  replace Xo2 := Lib.hid (Xo2.out.below hb)
  replace Hx := Lib.hid (Hx.out.below hb)
  replace Xx := Lib.hid (Xx.out.below hb)
  replace Hg1 := Lib.hid (Hg1.out.below hb)
  replace Hg2 := Lib.hid (Hg2.out.below hb)
  replace Xg1 := Lib.hid (Xg1.out.below hb)
  replace Xg2 := Lib.hid (Xg2.out.below hb)
  clear hb
  have cXA1_0 := XA1.out.2 0
  have cXA1_1 := XA1.out.2 1
  have cXo1_0 := Xo1.out.2 0
  have cXo1_1 := Xo1.out.2 1
  have cXo2_0 := Xo2.out.2 0
  have cXo2_1 := Xo2.out.2 1
  have cXx_0 := Xx.out.2 0
  have cXx_1 := Xx.out.2 1
  have cXg1_0 := Xg1.out.2 0
  have cXg1_1 := Xg1.out.2 1
  have cXg2_0 := Xg2.out.2 0
  have cXg2_1 := Xg2.out.2 1
  go_wp2_with fail
  clear cXA1_0 cXA1_1 cXo1_0 cXo1_1 cXo2_0 cXo2_1 cXx_0 cXx_1 cXg1_0 cXg1_1 cXg2_0 cXg2_1
  refine (eqTy_all d _ _ (t1.parts 5).2.1 _ Hg2.out.at_ Ho2.out.at_).mono ?_
  rintro e w7 ⟨rfl, hb⟩
  have hz7 := hb.size
  try simp only [World.size_alloc] at hz7
  try simp only [World.size_drew] at hz7
  replace B := Lib.hid (below_thru B.out (Nat.le_refl _) hb)
  replace HA1 := Lib.hid (HA1.out.below hb)
  replace XA1 := Lib.hid (XA1.out.below hb)
  replace Ho1 := Lib.hid (Ho1.out.below hb)
  replace Ho2 := Lib.hid (Ho2.out.below hb)
  replace Xo1 := Lib.hid (Xo1.out.below hb)
  replace Xo2 := Lib.hid (Xo2.out.below hb)
  replace Hx := Lib.hid (Hx.out.below hb)
  replace Xx := Lib.hid (Xx.out.below hb)
  replace Hg1 := Lib.hid (Hg1.out.below hb)
  replace Hg2 := Lib.hid (Hg2.out.below hb)
  replace Xg1 := Lib.hid (Xg1.out.below hb)
  replace Xg2 := Lib.hid (Xg2.out.below hb)
  clear hb
  have cXA1_0 := XA1.out.2 0
  have cXA1_1 := XA1.out.2 1
  have cXo1_0 := Xo1.out.2 0
  have cXo1_1 := Xo1.out.2 1
  have cXo2_0 := Xo2.out.2 0
  have cXo2_1 := Xo2.out.2 1
  have cXx_0 := Xx.out.2 0
  have cXx_1 := Xx.out.2 1
  have cXg1_0 := Xg1.out.2 0
  have cXg1_1 := Xg1.out.2 1
  have cXg2_0 := Xg2.out.2 0
  have cXg2_1 := Xg2.out.2 1
  go_wp2_with fail
  clear cXA1_0 cXA1_1 cXo1_0 cXo1_1 cXo2_0 cXo2_1 cXx_0 cXx_1 cXg1_0 cXg1_1 cXg2_0 cXg2_1
  have hb := below_drew w7
  replace B := Lib.hid (below_thru B.out (Nat.le_refl _) hb)
  replace HA1 := Lib.hid (HA1.out.below hb)
  replace XA1 := Lib.hid (XA1.out.below hb)
  replace Ho1 := Lib.hid (Ho1.out.below hb)
  replace Ho2 := Lib.hid (Ho2.out.below hb)
  replace Xo1 := Lib.hid (Xo1.out.below hb)
  replace Xo2 := Lib.hid (Xo2.out.below hb)
  replace Hx := Lib.hid (Hx.out.below hb)
  replace Xx := Lib.hid (Xx.out.below hb)
  replace Hg1 := Lib.hid (Hg1.out.below hb)
  replace Hg2 := Lib.hid (Hg2.out.below hb)
  replace Xg1 := Lib.hid (Xg1.out.below hb)
  replace Xg2 := Lib.hid (Xg2.out.below hb)
  clear hb
  go_region_held3 (fun w' => w'.cell? ⟨w.heap.size, 0, none⟩ = some (.int .i64 a1k) ∧ w'.cell? ⟨w.heap.size, 1, none⟩ = some (.slice a1a a1n a1c) ∧ w'.cell? ⟨w3.heap.size, 0, none⟩ = some (.int .i64 o1k) ∧ w'.cell? ⟨w3.heap.size, 1, none⟩ = some (.slice o1a o1n o1c) ∧ w'.cell? ⟨w3.heap.size + 1, 0, none⟩ = some (.int .i64 o2k) ∧ w'.cell? ⟨w3.heap.size + 1, 1, none⟩ = some (.slice o2a o2n o2c) ∧ w'.cell? ⟨w4.heap.size, 0, none⟩ = some (.int .i64 xk) ∧ w'.cell? ⟨w4.heap.size, 1, none⟩ = some (.slice xa xn xc) ∧ w'.cell? ⟨w5.heap.size, 0, none⟩ = some (.int .i64 g1k) ∧ w'.cell? ⟨w5.heap.size, 1, none⟩ = some (.slice g1a g1n g1c) ∧ w'.cell? ⟨w5.heap.size + 1, 0, none⟩ = some (.int .i64 g2k) ∧ w'.cell? ⟨w5.heap.size + 1, 1, none⟩ = some (.slice g2a g2n g2c)) (exact ⟨XA1.out.2 0, XA1.out.2 1, Xo1.out.2 0, Xo1.out.2 1, Xo2.out.2 0, Xo2.out.2 1, Xx.out.2 0, Xx.out.2 1, Xg1.out.2 0, Xg1.out.2 1, Xg2.out.2 0, Xg2.out.2 1⟩)
    (first
     | (go_at_call_of 13 (Value.agg #[Value.int IntKind.i64 a1k, Value.slice a1a a1n a1c])
        refine ((toTy_all d).1 _ t1 _ hn1 HA1.out).mono ?_
        rintro e w8 ⟨y, fp, rfl, ht, hf, hb⟩
        have hz8 := hb.size
        try simp only [World.size_drew] at hz8
        replace B := Lib.hid (below_thru B.out (Nat.le_refl _) hb)
        replace HA1 := Lib.hid (HA1.out.below hb)
        replace XA1 := Lib.hid (XA1.out.below hb)
        replace Ho1 := Lib.hid (Ho1.out.below hb)
        replace Ho2 := Lib.hid (Ho2.out.below hb)
        replace Xo1 := Lib.hid (Xo1.out.below hb)
        replace Xo2 := Lib.hid (Xo2.out.below hb)
        replace Hx := Lib.hid (Hx.out.below hb)
        replace Xx := Lib.hid (Xx.out.below hb)
        replace Hg1 := Lib.hid (Hg1.out.below hb)
        replace Hg2 := Lib.hid (Hg2.out.below hb)
        replace Xg1 := Lib.hid (Xg1.out.below hb)
        replace Xg2 := Lib.hid (Xg2.out.below hb)
        clear hb
        have Hy := Lib.hid ht.at_
        clear ht hf)
     | (go_at_call 15
        refine (eqTy_all d _ y t1 _ Hx.out.at_ Hy.out).mono ?_
        rintro e w9 ⟨rfl, hb⟩
        have hz9 := hb.size
        try simp only [World.size_drew] at hz9
        replace B := Lib.hid (below_thru B.out (Nat.le_refl _) hb)
        replace HA1 := Lib.hid (HA1.out.below hb)
        replace XA1 := Lib.hid (XA1.out.below hb)
        replace Ho1 := Lib.hid (Ho1.out.below hb)
        replace Ho2 := Lib.hid (Ho2.out.below hb)
        replace Xo1 := Lib.hid (Xo1.out.below hb)
        replace Xo2 := Lib.hid (Xo2.out.below hb)
        replace Hx := Lib.hid (Hx.out.below hb)
        replace Xx := Lib.hid (Xx.out.below hb)
        replace Hg1 := Lib.hid (Hg1.out.below hb)
        replace Hg2 := Lib.hid (Hg2.out.below hb)
        replace Xg1 := Lib.hid (Xg1.out.below hb)
        replace Xg2 := Lib.hid (Xg2.out.below hb)
        clear hb
        clear Hy))
  have cXA1_0 := XA1.out.2 0
  have cXA1_1 := XA1.out.2 1
  have cXo1_0 := Xo1.out.2 0
  have cXo1_1 := Xo1.out.2 1
  have cXo2_0 := Xo2.out.2 0
  have cXo2_1 := Xo2.out.2 1
  have cXx_0 := Xx.out.2 0
  have cXx_1 := Xx.out.2 1
  have cXg1_0 := Xg1.out.2 0
  have cXg1_1 := Xg1.out.2 1
  have cXg2_0 := Xg2.out.2 0
  have cXg2_1 := Xg2.out.2 1
  go_wp2_with fail
  clear cXA1_0 cXA1_1 cXo1_0 cXo1_1 cXo2_0 cXo2_1 cXx_0 cXx_1 cXg1_0 cXg1_1 cXg2_0 cXg2_1
  refine (markOwn w.heap.size _ _ t1 _ _ 1 _ (by omega) B.out.size (by omega) (by omega) Hx.out).mono ?_
  rintro e w10 ⟨rfl, hm, hb0, hk⟩
  replace B := Lib.hid (B.out.trans hb0)
  replace HA1 := Lib.hid (HA10.out.below B.out)
  replace XA1 := Lib.hid (XA1.out.beside hk (by omega))
  replace Ho1 := Lib.hid (Ho1.out.beside hk (by omega))
  replace Ho2 := Lib.hid (Ho2.out.beside hk (by omega))
  replace Xo1 := Lib.hid (Xo1.out.beside hk (by omega))
  replace Xo2 := Lib.hid (Xo2.out.beside hk (by omega))
  replace Xx := Lib.hid (Xx.out.beside hk (by omega))
  replace Hg1 := Lib.hid (Hg1.out.beside hk (by omega))
  replace Hg2 := Lib.hid (Hg2.out.beside hk (by omega))
  replace Xg1 := Lib.hid (Xg1.out.beside hk (by omega))
  replace Xg2 := Lib.hid (Xg2.out.beside hk (by omega))
  replace Hx := Lib.hid hm
  have hz10 := hk.1
  clear hb0 hk hm
  clear Hx
  have hx0 : (0 : Int) ≤ 1 + ((t1.size - 1 : Nat) : Int) := by omega
  have hx1 : (1 : Int) + ((t1.size - 1 : Nat) : Int) ≤ 1099511627776 := by omega
  have cXA1_0 := XA1.out.2 0
  have cXA1_1 := XA1.out.2 1
  have cXo1_0 := Xo1.out.2 0
  have cXo1_1 := Xo1.out.2 1
  have cXo2_0 := Xo2.out.2 0
  have cXo2_1 := Xo2.out.2 1
  have cXx_0 := Xx.out.2 0
  have cXx_1 := Xx.out.2 1
  have cXg1_0 := Xg1.out.2 0
  have cXg1_1 := Xg1.out.2 1
  have cXg2_0 := Xg2.out.2 0
  have cXg2_1 := Xg2.out.2 1
  go_wp2_with fail
  clear cXA1_0 cXA1_1 cXo1_0 cXo1_1 cXo2_0 cXo2_1 cXx_0 cXx_1 cXg1_0 cXg1_1 cXg2_0 cXg2_1
  refine (eqTy_all d _ _ (t1.parts 5).1 _ Hg1.out.at_ Ho1.out.at_).mono ?_
  rintro e w11 ⟨rfl, hb⟩
  have hz11 := hb.size
  try simp only [World.size_alloc] at hz11
  try simp only [World.size_drew] at hz11
  replace B := Lib.hid (below_thru B.out (Nat.le_refl _) hb)
  replace HA1 := Lib.hid (HA1.out.below hb)
  replace XA1 := Lib.hid (XA1.out.below hb)
  replace Ho1 := Lib.hid (Ho1.out.below hb)
  replace Ho2 := Lib.hid (Ho2.out.below hb)
  replace Xo1 := Lib.hid (Xo1.out.below hb)
  replace Xo2 := Lib.hid (Xo2.out.below hb)
  replace Xx := Lib.hid (Xx.out.below hb)
  replace Hg1 := Lib.hid (Hg1.out.below hb)
  replace Hg2 := Lib.hid (Hg2.out.below hb)
  replace Xg1 := Lib.hid (Xg1.out.below hb)
  replace Xg2 := Lib.hid (Xg2.out.below hb)
  clear hb
  have cXA1_0 := XA1.out.2 0
  have cXA1_1 := XA1.out.2 1
  have cXo1_0 := Xo1.out.2 0
  have cXo1_1 := Xo1.out.2 1
  have cXo2_0 := Xo2.out.2 0
  have cXo2_1 := Xo2.out.2 1
  have cXx_0 := Xx.out.2 0
  have cXx_1 := Xx.out.2 1
  have cXg1_0 := Xg1.out.2 0
  have cXg1_1 := Xg1.out.2 1
  have cXg2_0 := Xg2.out.2 0
  have cXg2_1 := Xg2.out.2 1
  go_wp2_with fail
  clear cXA1_0 cXA1_1 cXo1_0 cXo1_1 cXo2_0 cXo2_1 cXx_0 cXx_1 cXg1_0 cXg1_1 cXg2_0 cXg2_1
  refine (eqTy_all d _ _ (t1.parts 5).2.1 _ Hg2.out.at_ Ho2.out.at_).mono ?_
  rintro e w12 ⟨rfl, hb⟩
  have hz12 := hb.size
  try simp only [World.size_alloc] at hz12
  try simp only [World.size_drew] at hz12
  replace B := Lib.hid (below_thru B.out (Nat.le_refl _) hb)
  replace HA1 := Lib.hid (HA1.out.below hb)
  replace XA1 := Lib.hid (XA1.out.below hb)
  replace Ho1 := Lib.hid (Ho1.out.below hb)
  replace Ho2 := Lib.hid (Ho2.out.below hb)
  replace Xo1 := Lib.hid (Xo1.out.below hb)
  replace Xo2 := Lib.hid (Xo2.out.below hb)
  replace Xx := Lib.hid (Xx.out.below hb)
  replace Hg1 := Lib.hid (Hg1.out.below hb)
  replace Hg2 := Lib.hid (Hg2.out.below hb)
  replace Xg1 := Lib.hid (Xg1.out.below hb)
  replace Xg2 := Lib.hid (Xg2.out.below hb)
  clear hb
  have cXA1_0 := XA1.out.2 0
  have cXA1_1 := XA1.out.2 1
  have cXo1_0 := Xo1.out.2 0
  have cXo1_1 := Xo1.out.2 1
  have cXo2_0 := Xo2.out.2 0
  have cXo2_1 := Xo2.out.2 1
  have cXx_0 := Xx.out.2 0
  have cXx_1 := Xx.out.2 1
  have cXg1_0 := Xg1.out.2 0
  have cXg1_1 := Xg1.out.2 1
  have cXg2_0 := Xg2.out.2 0
  have cXg2_1 := Xg2.out.2 1
  go_wp2_with fail
  clear cXA1_0 cXA1_1 cXo1_0 cXo1_1 cXo2_0 cXo2_1 cXx_0 cXx_1 cXg1_0 cXg1_1 cXg2_0 cXg2_1
  refine (markOwn w.heap.size _ _ (t1.parts 5).1 _ _ 1 _ (by omega) B.out.size (by omega) (by omega) Hg1.out).mono ?_
  rintro e w13 ⟨rfl, hm, hb0, hk⟩
  replace B := Lib.hid (B.out.trans hb0)
  replace HA1 := Lib.hid (HA10.out.below B.out)
  replace XA1 := Lib.hid (XA1.out.beside hk (by omega))
  replace Ho1 := Lib.hid (Ho1.out.beside hk (by omega))
  replace Ho2 := Lib.hid (Ho2.out.beside hk (by omega))
  replace Xo1 := Lib.hid (Xo1.out.beside hk (by omega))
  replace Xo2 := Lib.hid (Xo2.out.beside hk (by omega))
  replace Xx := Lib.hid (Xx.out.beside hk (by omega))
  replace Hg2 := Lib.hid (Hg2.out.beside hk (by omega))
  replace Xg1 := Lib.hid (Xg1.out.beside hk (by omega))
  replace Xg2 := Lib.hid (Xg2.out.beside hk (by omega))
  replace Hg1 := Lib.hid hm
  have hz13 := hk.1
  clear hb0 hk hm
  obtain ⟨m, hm⟩ : ∃ m : Int, m = 1 + (((t1.parts 5).1.size - 1 : Nat) : Int) := ⟨_, rfl⟩
  rw [← hm]
  have HM := Lib.hid hm
  have hm0 : 0 ≤ m := by omega
  have hm1 : m ≤ 1048578 := by omega
  clear hm
  have cXA1_0 := XA1.out.2 0
  have cXA1_1 := XA1.out.2 1
  have cXo1_0 := Xo1.out.2 0
  have cXo1_1 := Xo1.out.2 1
  have cXo2_0 := Xo2.out.2 0
  have cXo2_1 := Xo2.out.2 1
  have cXx_0 := Xx.out.2 0
  have cXx_1 := Xx.out.2 1
  have cXg1_0 := Xg1.out.2 0
  have cXg1_1 := Xg1.out.2 1
  have cXg2_0 := Xg2.out.2 0
  have cXg2_1 := Xg2.out.2 1
  go_wp2_with fail
  clear cXA1_0 cXA1_1 cXo1_0 cXo1_1 cXo2_0 cXo2_1 cXx_0 cXx_1 cXg1_0 cXg1_1 cXg2_0 cXg2_1
  refine (markOwn w.heap.size _ _ (t1.parts 5).2.1 _ _ m _ (by omega) B.out.size (by omega) (by omega) Hg2.out).mono ?_
  rintro e w14 ⟨rfl, hm, hb0, hk⟩
  replace B := Lib.hid (B.out.trans hb0)
  replace HA1 := Lib.hid (HA10.out.below B.out)
  replace XA1 := Lib.hid (XA1.out.beside hk (by omega))
  replace Ho1 := Lib.hid (Ho1.out.beside hk (by omega))
  replace Ho2 := Lib.hid (Ho2.out.beside hk (by omega))
  replace Xo1 := Lib.hid (Xo1.out.beside hk (by omega))
  replace Xo2 := Lib.hid (Xo2.out.beside hk (by omega))
  replace Xx := Lib.hid (Xx.out.beside hk (by omega))
  replace Hg1 := Lib.hid (Hg1.out.beside hk (by omega))
  replace Xg1 := Lib.hid (Xg1.out.beside hk (by omega))
  replace Xg2 := Lib.hid (Xg2.out.beside hk (by omega))
  replace Hg2 := Lib.hid hm
  have hz14 := hk.1
  clear hb0 hk hm
  obtain ⟨q, hq⟩ : ∃ q : Int, q = m + (((t1.parts 5).2.1.size - 1 : Nat) : Int) := ⟨_, rfl⟩
  rw [← hq]
  have HQ := Lib.hid hq
  have hq0 : 0 ≤ q := by omega
  have hq1 : q ≤ 1099511627776 := by omega
  clear hq
  have cXA1_0 := XA1.out.2 0
  have cXA1_1 := XA1.out.2 1
  have cXo1_0 := Xo1.out.2 0
  have cXo1_1 := Xo1.out.2 1
  have cXo2_0 := Xo2.out.2 0
  have cXo2_1 := Xo2.out.2 1
  have cXx_0 := Xx.out.2 0
  have cXx_1 := Xx.out.2 1
  have cXg1_0 := Xg1.out.2 0
  have cXg1_1 := Xg1.out.2 1
  have cXg2_0 := Xg2.out.2 0
  have cXg2_1 := Xg2.out.2 1
  go_wp2_with fail
  clear cXA1_0 cXA1_1 cXo1_0 cXo1_1 cXo2_0 cXo2_1 cXx_0 cXx_1 cXg1_0 cXg1_1 cXg2_0 cXg2_1
  refine (heldOwn _ _ (t1.parts 5).1 _ _ 1 _ (by omega) (by omega) Hg1.out).mono ?_
  rintro e w15 ⟨rfl, hb⟩
  have hz15 := hb.size
  try simp only [World.size_alloc] at hz15
  try simp only [World.size_drew] at hz15
  replace B := Lib.hid (below_thru B.out (Nat.le_refl _) hb)
  replace HA1 := Lib.hid (HA1.out.below hb)
  replace XA1 := Lib.hid (XA1.out.below hb)
  replace Ho1 := Lib.hid (Ho1.out.below hb)
  replace Ho2 := Lib.hid (Ho2.out.below hb)
  replace Xo1 := Lib.hid (Xo1.out.below hb)
  replace Xo2 := Lib.hid (Xo2.out.below hb)
  replace Xx := Lib.hid (Xx.out.below hb)
  replace Hg1 := Lib.hid (Hg1.out.below hb)
  replace Hg2 := Lib.hid (Hg2.out.below hb)
  replace Xg1 := Lib.hid (Xg1.out.below hb)
  replace Xg2 := Lib.hid (Xg2.out.below hb)
  clear hb
  rw [← HM.out]
  have cXA1_0 := XA1.out.2 0
  have cXA1_1 := XA1.out.2 1
  have cXo1_0 := Xo1.out.2 0
  have cXo1_1 := Xo1.out.2 1
  have cXo2_0 := Xo2.out.2 0
  have cXo2_1 := Xo2.out.2 1
  have cXx_0 := Xx.out.2 0
  have cXx_1 := Xx.out.2 1
  have cXg1_0 := Xg1.out.2 0
  have cXg1_1 := Xg1.out.2 1
  have cXg2_0 := Xg2.out.2 0
  have cXg2_1 := Xg2.out.2 1
  go_wp2_with fail
  clear cXA1_0 cXA1_1 cXo1_0 cXo1_1 cXo2_0 cXo2_1 cXx_0 cXx_1 cXg1_0 cXg1_1 cXg2_0 cXg2_1
  refine (heldOwn _ _ (t1.parts 5).2.1 _ _ m _ (by omega) (by omega) Hg2.out).mono ?_
  rintro e w16 ⟨rfl, hb⟩
  have hz16 := hb.size
  try simp only [World.size_alloc] at hz16
  try simp only [World.size_drew] at hz16
  replace B := Lib.hid (below_thru B.out (Nat.le_refl _) hb)
  replace HA1 := Lib.hid (HA1.out.below hb)
  replace XA1 := Lib.hid (XA1.out.below hb)
  replace Ho1 := Lib.hid (Ho1.out.below hb)
  replace Ho2 := Lib.hid (Ho2.out.below hb)
  replace Xo1 := Lib.hid (Xo1.out.below hb)
  replace Xo2 := Lib.hid (Xo2.out.below hb)
  replace Xx := Lib.hid (Xx.out.below hb)
  replace Hg1 := Lib.hid (Hg1.out.below hb)
  replace Hg2 := Lib.hid (Hg2.out.below hb)
  replace Xg1 := Lib.hid (Xg1.out.below hb)
  replace Xg2 := Lib.hid (Xg2.out.below hb)
  clear hb
  rw [← HQ.out]
  have cXA1_0 := XA1.out.2 0
  have cXA1_1 := XA1.out.2 1
  have cXo1_0 := Xo1.out.2 0
  have cXo1_1 := Xo1.out.2 1
  have cXo2_0 := Xo2.out.2 0
  have cXo2_1 := Xo2.out.2 1
  have cXx_0 := Xx.out.2 0
  have cXx_1 := Xx.out.2 1
  have cXg1_0 := Xg1.out.2 0
  have cXg1_1 := Xg1.out.2 1
  have cXg2_0 := Xg2.out.2 0
  have cXg2_1 := Xg2.out.2 1
  go_wp2_with fail
  clear cXA1_0 cXA1_1 cXo1_0 cXo1_1 cXo2_0 cXo2_1 cXx_0 cXx_1 cXg1_0 cXg1_1 cXg2_0 cXg2_1
  refine ((toTy_all d).1 _ t1 _ hn1 HA1.out).mono ?_
  rintro e w17 ⟨h, fp, rfl, ht, hf, hb⟩
  have hz17 := hb.size
  try simp only [World.size_alloc] at hz17
  try simp only [World.size_drew] at hz17
  replace B := Lib.hid (below_thru B.out (Nat.le_refl _) hb)
  replace HA1 := Lib.hid (HA1.out.below hb)
  replace XA1 := Lib.hid (XA1.out.below hb)
  replace Ho1 := Lib.hid (Ho1.out.below hb)
  replace Ho2 := Lib.hid (Ho2.out.below hb)
  replace Xo1 := Lib.hid (Xo1.out.below hb)
  replace Xo2 := Lib.hid (Xo2.out.below hb)
  replace Xx := Lib.hid (Xx.out.below hb)
  replace Hg1 := Lib.hid (Hg1.out.below hb)
  replace Hg2 := Lib.hid (Hg2.out.below hb)
  replace Xg1 := Lib.hid (Xg1.out.below hb)
  replace Xg2 := Lib.hid (Xg2.out.below hb)
  clear hb
  have Hh := Lib.hid ht.at_
  clear ht hf
  have cXA1_0 := XA1.out.2 0
  have cXA1_1 := XA1.out.2 1
  have cXo1_0 := Xo1.out.2 0
  have cXo1_1 := Xo1.out.2 1
  have cXo2_0 := Xo2.out.2 0
  have cXo2_1 := Xo2.out.2 1
  have cXx_0 := Xx.out.2 0
  have cXx_1 := Xx.out.2 1
  have cXg1_0 := Xg1.out.2 0
  have cXg1_1 := Xg1.out.2 1
  have cXg2_0 := Xg2.out.2 0
  have cXg2_1 := Xg2.out.2 1
  go_wp2_with fail
  clear cXA1_0 cXA1_1 cXo1_0 cXo1_1 cXo2_0 cXo2_1 cXx_0 cXx_1 cXg1_0 cXg1_1 cXg2_0 cXg2_1
  refine (implMatchPair d _ t1 _ Hh.out hn1).mono ?_
  rintro e w18 ⟨j1, j2, mj, rfl, hmj, ho1, ho2, hb⟩
  have hz18 := hb.size
  try simp only [World.size_alloc] at hz18
  try simp only [World.size_drew] at hz18
  try simp only [World.size_alloc] at ho1 hmj
  have hnj : mj ≤ w18.heap.size := by obtain ⟨_, _, _, hh⟩ := ho1; exact hh
  replace B := Lib.hid (below_thru B.out (Nat.le_refl _) hb)
  replace HA1 := Lib.hid (HA1.out.below hb)
  replace XA1 := Lib.hid (XA1.out.below hb)
  replace Ho1 := Lib.hid (Ho1.out.below hb)
  replace Ho2 := Lib.hid (Ho2.out.below hb)
  replace Xo1 := Lib.hid (Xo1.out.below hb)
  replace Xo2 := Lib.hid (Xo2.out.below hb)
  replace Xx := Lib.hid (Xx.out.below hb)
  replace Hg1 := Lib.hid (Hg1.out.below hb)
  replace Hg2 := Lib.hid (Hg2.out.below hb)
  replace Xg1 := Lib.hid (Xg1.out.below hb)
  replace Xg2 := Lib.hid (Xg2.out.below hb)
  replace Hh := Lib.hid (Hh.out.below hb)
  clear hb
  obtain ⟨j1k, j1a, j1n, j1c, rfl⟩ := agg_parts ho1.at_
  have Hj1 := Lib.hid ho1
  clear ho1
  obtain ⟨j2k, j2a, j2n, j2c, rfl⟩ := agg_parts ho2.at_
  have Hj2 := Lib.hid ho2
  clear ho2
  have Xj1 : Hid (BoxAt (w18.alloc (.cells #[.int .i64 j1k, .slice j1a j1n j1c] 28)) w18.heap.size #[.int .i64 j1k, .slice j1a j1n j1c]) := BoxAt.new _ _ _
  have hb := below_alloc w18 (.cells #[.int .i64 j1k, .slice j1a j1n j1c] 28)
  replace B := Lib.hid (below_thru B.out (Nat.le_refl _) hb)
  replace HA1 := Lib.hid (HA1.out.below hb)
  replace XA1 := Lib.hid (XA1.out.below hb)
  replace Ho1 := Lib.hid (Ho1.out.below hb)
  replace Ho2 := Lib.hid (Ho2.out.below hb)
  replace Xo1 := Lib.hid (Xo1.out.below hb)
  replace Xo2 := Lib.hid (Xo2.out.below hb)
  replace Xx := Lib.hid (Xx.out.below hb)
  replace Hg1 := Lib.hid (Hg1.out.below hb)
  replace Hg2 := Lib.hid (Hg2.out.below hb)
  replace Xg1 := Lib.hid (Xg1.out.below hb)
  replace Xg2 := Lib.hid (Xg2.out.below hb)
  replace Hh := Lib.hid (Hh.out.below hb)
  replace Hj1 := Lib.hid (Hj1.out.below hb)
  replace Hj2 := Lib.hid (Hj2.out.below hb)
  clear hb
  have Xj2 : Hid (BoxAt ((w18.alloc (.cells #[.int .i64 j1k, .slice j1a j1n j1c] 28)).alloc (.cells #[.int .i64 j2k, .slice j2a j2n j2c] 28)) (w18.heap.size + 1) #[.int .i64 j2k, .slice j2a j2n j2c]) := box_at (BoxAt.new _ _ _) (by simp)
  have hb := below_alloc (w18.alloc (.cells #[.int .i64 j1k, .slice j1a j1n j1c] 28)) (.cells #[.int .i64 j2k, .slice j2a j2n j2c] 28)
  replace B := Lib.hid (below_thru B.out (Nat.le_refl _) hb)
  replace HA1 := Lib.hid (HA1.out.below hb)
  replace XA1 := Lib.hid (XA1.out.below hb)
  replace Ho1 := Lib.hid (Ho1.out.below hb)
  replace Ho2 := Lib.hid (Ho2.out.below hb)
  replace Xo1 := Lib.hid (Xo1.out.below hb)
  replace Xo2 := Lib.hid (Xo2.out.below hb)
  replace Xx := Lib.hid (Xx.out.below hb)
  replace Hg1 := Lib.hid (Hg1.out.below hb)
  replace Hg2 := Lib.hid (Hg2.out.below hb)
  replace Xg1 := Lib.hid (Xg1.out.below hb)
  replace Xg2 := Lib.hid (Xg2.out.below hb)
  replace Hh := Lib.hid (Hh.out.below hb)
  replace Hj1 := Lib.hid (Hj1.out.below hb)
  replace Hj2 := Lib.hid (Hj2.out.below hb)
  replace Xj1 := Lib.hid (Xj1.out.below hb)
  clear hb
  clear Hh
  have cXA1_0 := XA1.out.2 0
  have cXA1_1 := XA1.out.2 1
  have cXo1_0 := Xo1.out.2 0
  have cXo1_1 := Xo1.out.2 1
  have cXo2_0 := Xo2.out.2 0
  have cXo2_1 := Xo2.out.2 1
  have cXx_0 := Xx.out.2 0
  have cXx_1 := Xx.out.2 1
  have cXg1_0 := Xg1.out.2 0
  have cXg1_1 := Xg1.out.2 1
  have cXg2_0 := Xg2.out.2 0
  have cXg2_1 := Xg2.out.2 1
  have cXj1_0 := Xj1.out.2 0
  have cXj1_1 := Xj1.out.2 1
  have cXj2_0 := Xj2.out.2 0
  have cXj2_1 := Xj2.out.2 1
  go_wp2_with fail
  clear cXA1_0 cXA1_1 cXo1_0 cXo1_1 cXo2_0 cXo2_1 cXx_0 cXx_1 cXg1_0 cXg1_1 cXg2_0 cXg2_1 cXj1_0 cXj1_1 cXj2_0 cXj2_1
  refine (eqTy_all d _ _ (t1.parts 5).1 _ Hj1.out.at_ Ho1.out.at_).mono ?_
  rintro e w19 ⟨rfl, hb⟩
  have hz19 := hb.size
  try simp only [World.size_alloc] at hz19
  try simp only [World.size_drew] at hz19
  replace B := Lib.hid (below_thru B.out (Nat.le_refl _) hb)
  replace HA1 := Lib.hid (HA1.out.below hb)
  replace XA1 := Lib.hid (XA1.out.below hb)
  replace Ho1 := Lib.hid (Ho1.out.below hb)
  replace Ho2 := Lib.hid (Ho2.out.below hb)
  replace Xo1 := Lib.hid (Xo1.out.below hb)
  replace Xo2 := Lib.hid (Xo2.out.below hb)
  replace Xx := Lib.hid (Xx.out.below hb)
  replace Hg1 := Lib.hid (Hg1.out.below hb)
  replace Hg2 := Lib.hid (Hg2.out.below hb)
  replace Xg1 := Lib.hid (Xg1.out.below hb)
  replace Xg2 := Lib.hid (Xg2.out.below hb)
  replace Hj1 := Lib.hid (Hj1.out.below hb)
  replace Hj2 := Lib.hid (Hj2.out.below hb)
  replace Xj1 := Lib.hid (Xj1.out.below hb)
  replace Xj2 := Lib.hid (Xj2.out.below hb)
  clear hb
  have cXA1_0 := XA1.out.2 0
  have cXA1_1 := XA1.out.2 1
  have cXo1_0 := Xo1.out.2 0
  have cXo1_1 := Xo1.out.2 1
  have cXo2_0 := Xo2.out.2 0
  have cXo2_1 := Xo2.out.2 1
  have cXx_0 := Xx.out.2 0
  have cXx_1 := Xx.out.2 1
  have cXg1_0 := Xg1.out.2 0
  have cXg1_1 := Xg1.out.2 1
  have cXg2_0 := Xg2.out.2 0
  have cXg2_1 := Xg2.out.2 1
  have cXj1_0 := Xj1.out.2 0
  have cXj1_1 := Xj1.out.2 1
  have cXj2_0 := Xj2.out.2 0
  have cXj2_1 := Xj2.out.2 1
  go_wp2_with fail
  clear cXA1_0 cXA1_1 cXo1_0 cXo1_1 cXo2_0 cXo2_1 cXx_0 cXx_1 cXg1_0 cXg1_1 cXg2_0 cXg2_1 cXj1_0 cXj1_1 cXj2_0 cXj2_1
  refine (eqTy_all d _ _ (t1.parts 5).2.1 _ Hj2.out.at_ Ho2.out.at_).mono ?_
  rintro e w20 ⟨rfl, hb⟩
  have hz20 := hb.size
  try simp only [World.size_alloc] at hz20
  try simp only [World.size_drew] at hz20
  replace B := Lib.hid (below_thru B.out (Nat.le_refl _) hb)
  replace HA1 := Lib.hid (HA1.out.below hb)
  replace XA1 := Lib.hid (XA1.out.below hb)
  replace Ho1 := Lib.hid (Ho1.out.below hb)
  replace Ho2 := Lib.hid (Ho2.out.below hb)
  replace Xo1 := Lib.hid (Xo1.out.below hb)
  replace Xo2 := Lib.hid (Xo2.out.below hb)
  replace Xx := Lib.hid (Xx.out.below hb)
  replace Hg1 := Lib.hid (Hg1.out.below hb)
  replace Hg2 := Lib.hid (Hg2.out.below hb)
  replace Xg1 := Lib.hid (Xg1.out.below hb)
  replace Xg2 := Lib.hid (Xg2.out.below hb)
  replace Hj1 := Lib.hid (Hj1.out.below hb)
  replace Hj2 := Lib.hid (Hj2.out.below hb)
  replace Xj1 := Lib.hid (Xj1.out.below hb)
  replace Xj2 := Lib.hid (Xj2.out.below hb)
  clear hb
  have cXA1_0 := XA1.out.2 0
  have cXA1_1 := XA1.out.2 1
  have cXo1_0 := Xo1.out.2 0
  have cXo1_1 := Xo1.out.2 1
  have cXo2_0 := Xo2.out.2 0
  have cXo2_1 := Xo2.out.2 1
  have cXx_0 := Xx.out.2 0
  have cXx_1 := Xx.out.2 1
  have cXg1_0 := Xg1.out.2 0
  have cXg1_1 := Xg1.out.2 1
  have cXg2_0 := Xg2.out.2 0
  have cXg2_1 := Xg2.out.2 1
  have cXj1_0 := Xj1.out.2 0
  have cXj1_1 := Xj1.out.2 1
  have cXj2_0 := Xj2.out.2 0
  have cXj2_1 := Xj2.out.2 1
  go_wp2_with fail
  clear cXA1_0 cXA1_1 cXo1_0 cXo1_1 cXo2_0 cXo2_1 cXx_0 cXx_1 cXg1_0 cXg1_1 cXg2_0 cXg2_1 cXj1_0 cXj1_1 cXj2_0 cXj2_1
  refine (heldOwn _ _ (t1.parts 5).1 _ _ 1 _ (by omega) (by omega) Hg1.out).mono ?_
  rintro e w21 ⟨rfl, hb⟩
  have hz21 := hb.size
  try simp only [World.size_alloc] at hz21
  try simp only [World.size_drew] at hz21
  replace B := Lib.hid (below_thru B.out (Nat.le_refl _) hb)
  replace HA1 := Lib.hid (HA1.out.below hb)
  replace XA1 := Lib.hid (XA1.out.below hb)
  replace Ho1 := Lib.hid (Ho1.out.below hb)
  replace Ho2 := Lib.hid (Ho2.out.below hb)
  replace Xo1 := Lib.hid (Xo1.out.below hb)
  replace Xo2 := Lib.hid (Xo2.out.below hb)
  replace Xx := Lib.hid (Xx.out.below hb)
  replace Hg1 := Lib.hid (Hg1.out.below hb)
  replace Hg2 := Lib.hid (Hg2.out.below hb)
  replace Xg1 := Lib.hid (Xg1.out.below hb)
  replace Xg2 := Lib.hid (Xg2.out.below hb)
  replace Hj1 := Lib.hid (Hj1.out.below hb)
  replace Hj2 := Lib.hid (Hj2.out.below hb)
  replace Xj1 := Lib.hid (Xj1.out.below hb)
  replace Xj2 := Lib.hid (Xj2.out.below hb)
  clear hb
  rw [← HM.out]
  have cXA1_0 := XA1.out.2 0
  have cXA1_1 := XA1.out.2 1
  have cXo1_0 := Xo1.out.2 0
  have cXo1_1 := Xo1.out.2 1
  have cXo2_0 := Xo2.out.2 0
  have cXo2_1 := Xo2.out.2 1
  have cXx_0 := Xx.out.2 0
  have cXx_1 := Xx.out.2 1
  have cXg1_0 := Xg1.out.2 0
  have cXg1_1 := Xg1.out.2 1
  have cXg2_0 := Xg2.out.2 0
  have cXg2_1 := Xg2.out.2 1
  have cXj1_0 := Xj1.out.2 0
  have cXj1_1 := Xj1.out.2 1
  have cXj2_0 := Xj2.out.2 0
  have cXj2_1 := Xj2.out.2 1
  go_wp2_with fail
  clear cXA1_0 cXA1_1 cXo1_0 cXo1_1 cXo2_0 cXo2_1 cXx_0 cXx_1 cXg1_0 cXg1_1 cXg2_0 cXg2_1 cXj1_0 cXj1_1 cXj2_0 cXj2_1
  refine (heldOwn _ _ (t1.parts 5).2.1 _ _ m _ (by omega) (by omega) Hg2.out).mono ?_
  rintro e w22 ⟨rfl, hb⟩
  have hz22 := hb.size
  try simp only [World.size_alloc] at hz22
  try simp only [World.size_drew] at hz22
  replace B := Lib.hid (below_thru B.out (Nat.le_refl _) hb)
  replace HA1 := Lib.hid (HA1.out.below hb)
  replace XA1 := Lib.hid (XA1.out.below hb)
  replace Ho1 := Lib.hid (Ho1.out.below hb)
  replace Ho2 := Lib.hid (Ho2.out.below hb)
  replace Xo1 := Lib.hid (Xo1.out.below hb)
  replace Xo2 := Lib.hid (Xo2.out.below hb)
  replace Xx := Lib.hid (Xx.out.below hb)
  replace Hg1 := Lib.hid (Hg1.out.below hb)
  replace Hg2 := Lib.hid (Hg2.out.below hb)
  replace Xg1 := Lib.hid (Xg1.out.below hb)
  replace Xg2 := Lib.hid (Xg2.out.below hb)
  replace Hj1 := Lib.hid (Hj1.out.below hb)
  replace Hj2 := Lib.hid (Hj2.out.below hb)
  replace Xj1 := Lib.hid (Xj1.out.below hb)
  replace Xj2 := Lib.hid (Xj2.out.below hb)
  clear hb
  rw [← HQ.out]
  have cXA1_0 := XA1.out.2 0
  have cXA1_1 := XA1.out.2 1
  have cXo1_0 := Xo1.out.2 0
  have cXo1_1 := Xo1.out.2 1
  have cXo2_0 := Xo2.out.2 0
  have cXo2_1 := Xo2.out.2 1
  have cXx_0 := Xx.out.2 0
  have cXx_1 := Xx.out.2 1
  have cXg1_0 := Xg1.out.2 0
  have cXg1_1 := Xg1.out.2 1
  have cXg2_0 := Xg2.out.2 0
  have cXg2_1 := Xg2.out.2 1
  have cXj1_0 := Xj1.out.2 0
  have cXj1_1 := Xj1.out.2 1
  have cXj2_0 := Xj2.out.2 0
  have cXj2_1 := Xj2.out.2 1
  go_wp2_with fail
  go_ret
  exact ⟨rfl, B.out⟩
end Go.Proofs.Ytlpdgmgafabadaa
