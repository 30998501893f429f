/-
  Proved: the law FnExactLookupCtx answers true for every list of typings and every text, and leaves the memory that was there as it was.
-/
import Derived.Test.YtfidcblaabeaaaaSzBinds
import Derived.Test.YtfidcblaabeaaaaToBinds
import Derived.Test.YtfidcblaabeaaaaEqBinds
import Derived.Test.YtfidcblaabeaaaaMarkBis
import Derived.Test.YtfidcblaabeaaaaLookSize
import Derived.Test.YtfidcblaabeaaaaHold
import Derived.Test.YtfidcblaabeaaaaPart
import Derived.Test.YtfidcblaabeaaaaEqType
import Derived.Test.YtfidcblaabeaaaaOwnIn
import Derived.Test.YtfidcblaabeaaaaSpecLook
import Derived.Test.YtfidcblaabeaaaaImplLook
import Derived.Deep.RegionHeld3
namespace Go.Proofs.Ytfidcblaabeaaaa
open Go.RowKit

set_option maxRecDepth 100000 in
set_option maxHeartbeats 4000000 in
theorem lookupCtxWalk (d : Nat) (v : Value) (bs : List Bi) (nm : ByteArray) (w : World) (hnm : nm.size ≤ 9223372036854775807) (h : BisAt w d v bs) :
    Calls Try.prog 4 #[v, .string nm] w fun e w' => e = .returned (.bool true) ∧ Below w.heap.size w w' := by
  have HA0 := Lib.hid h
  have HA := Lib.hid h
  have B : Hid (Below w.heap.size w w) := Below.refl _ _
  obtain ⟨a, cap, rfl, _⟩ := h
  by_cases hs : 1048576 < nm.size
  · go_enter Try.func4, Try.ntmps4
    go_wp2_with fail
    go_ret
    exact ⟨rfl, B.out⟩
  go_enter Try.func4, Try.ntmps4
  go_wp2_with fail
  refine (szBis d _ bs 1048576 _ (by omega) (by omega) HA.out).mono ?_
  rintro e w1 ⟨r1, rfl, hb, hr1⟩
  have hz1 := hb.size
  try simp only [World.size_alloc] at hz1
  try simp only [World.size_drew] at hz1
  replace B := Lib.hid (below_thru B.out (Nat.le_refl _) hb)
  replace HA := Lib.hid (HA.out.below hb)
  clear hb
  rcases hr1 with ⟨hr1, hs1⟩ | ⟨hr1, hs1⟩
  · go_wp2_with fail
    go_ret
    exact ⟨rfl, B.out⟩
  have hn1 : Bi.bulks bs ≤ 1048576 := by omega
  clear hs1
  have hrb := look_size bs nm
  have hnb := Bi.nums_bulks bs
  go_wp2_with fail
  refine (toBisOwn d _ bs _ hn1 HA.out).mono ?_
  rintro e w2 ⟨s, fp, rfl, ht, hf, hb⟩
  have hz2 := hb.size
  try simp only [World.size_alloc] at hz2
  try simp only [World.size_drew] at hz2
  replace B := Lib.hid (below_thru B.out (Nat.le_refl _) hb)
  replace HA := Lib.hid (HA.out.below hb)
  clear hb
  have Hs := Lib.hid ht.at_
  clear ht hf
  go_wp2_with fail
  refine (specLook d _ nm bs _ Hs.out hn1).mono ?_
  rintro e w3 ⟨o, rfl, ho, hb⟩
  have hz3 := hb.size
  try simp only [World.size_alloc] at hz3
  try simp only [World.size_drew] at hz3
  try simp only [World.size_alloc] at ho
  replace B := Lib.hid (below_thru B.out (Nat.le_refl _) hb)
  replace HA := Lib.hid (HA.out.below hb)
  replace Hs := Lib.hid (Hs.out.below hb)
  clear hb
  obtain ⟨ok, oa, on, oc, rfl⟩ := agg_parts ho.at_
  have Ho := Lib.hid ho
  clear ho
  have Xo : Hid (BoxAt (w3.alloc (.cells #[.int .i64 ok, .slice oa on oc] 32)) w3.heap.size #[.int .i64 ok, .slice oa on oc]) := BoxAt.new _ _ _
  have hb := below_alloc w3 (.cells #[.int .i64 ok, .slice oa on oc] 32)
  replace B := Lib.hid (below_thru B.out (Nat.le_refl _) hb)
  replace HA := Lib.hid (HA.out.below hb)
  replace Hs := Lib.hid (Hs.out.below hb)
  replace Ho := Lib.hid (Ho.out.below hb)
  clear hb
  clear Hs
  have cXo_0 := Xo.out.2 0
  have cXo_1 := Xo.out.2 1
  go_wp2_with fail
  clear cXo_0 cXo_1
  refine (toBisOwn d _ bs _ hn1 HA.out).mono ?_
  rintro e w4 ⟨x, fp, rfl, ht, hf, hb⟩
  have hz4 := hb.size
  try simp only [World.size_alloc] at hz4
  try simp only [World.size_drew] at hz4
  replace B := Lib.hid (below_thru B.out (Nat.le_refl _) hb)
  replace HA := Lib.hid (HA.out.below hb)
  replace Ho := Lib.hid (Ho.out.below hb)
  replace Xo := Lib.hid (Xo.out.below hb)
  clear hb
  have Hx := Lib.hid (BisIn.of ht hf (lo := w3.heap.size + 1) (by first | exact Nat.le_refl _ | simp | (simp; omega)))
  clear ht hf
  have cXo_0 := Xo.out.2 0
  have cXo_1 := Xo.out.2 1
  go_wp2_with fail
  clear cXo_0 cXo_1
  refine (implLook d _ nm bs _ Hx.out.at_ hn1).mono ?_
  rintro e w5 ⟨g, rfl, ho, hb⟩
  have hz5 := hb.size
  try simp only [World.size_alloc] at hz5
  try simp only [World.size_drew] at hz5
  try simp only [World.size_alloc] at ho
  replace B := Lib.hid (below_thru B.out (Nat.le_refl _) hb)
  replace HA := Lib.hid (HA.out.below hb)
  replace Ho := Lib.hid (Ho.out.below hb)
  replace Xo := Lib.hid (Xo.out.below hb)
  replace Hx := Lib.hid (Hx.out.below hb)
  clear hb
  obtain ⟨gk, ga, gn, gc, rfl⟩ := agg_parts ho.at_
  have Hg := Lib.hid ho
  clear ho
  have Xg : Hid (BoxAt (w5.alloc (.cells #[.int .i64 gk, .slice ga gn gc] 32)) w5.heap.size #[.int .i64 gk, .slice ga gn gc]) := BoxAt.new _ _ _
  have hb := below_alloc w5 (.cells #[.int .i64 gk, .slice ga gn gc] 32)
  replace B := Lib.hid (below_thru B.out (Nat.le_refl _) hb)
  replace HA := Lib.hid (HA.out.below hb)
  replace Ho := Lib.hid (Ho.out.below hb)
  replace Xo := Lib.hid (Xo.out.below hb)
  replace Hx := Lib.hid (Hx.out.below hb)
  replace Hg := Lib.hid (Hg.out.below hb)
  clear hb
  have cXo_0 := Xo.out.2 0
  have cXo_1 := Xo.out.2 1
  have cXg_0 := Xg.out.2 0
  have cXg_1 := Xg.out.2 1
  go_wp2_with fail
  clear cXo_0 cXo_1 cXg_0 cXg_1
  refine (eqTy_all (d + 1) _ _ ((Bi.look bs nm).getD (.node 0 [])) _ Hg.out.at_ Ho.out.at_).mono ?_
  rintro e w6 ⟨rfl, hb⟩
  have hz6 := hb.size
  try simp only [World.size_alloc] at hz6
  try simp only [World.size_drew] at hz6
  replace B := Lib.hid (below_thru B.out (Nat.le_refl _) hb)
  replace HA := Lib.hid (HA.out.below hb)
  replace Ho := Lib.hid (Ho.out.below hb)
  replace Xo := Lib.hid (Xo.out.below hb)
  replace Hx := Lib.hid (Hx.out.below hb)
  replace Hg := Lib.hid (Hg.out.below hb)
  replace Xg := Lib.hid (Xg.out.below hb)
  clear hb
  have cXo_0 := Xo.out.2 0
  have cXo_1 := Xo.out.2 1
  have cXg_0 := Xg.out.2 0
  have cXg_1 := Xg.out.2 1
  go_wp2_with fail
  clear cXo_0 cXo_1 cXg_0 cXg_1
  refine (toBisOwn d _ bs _ hn1 HA.out).mono ?_
  rintro e w7 ⟨y, fp, rfl, ht, hf, hb⟩
  have hz7 := hb.size
  try simp only [World.size_alloc] at hz7
  try simp only [World.size_drew] at hz7
  replace B := Lib.hid (below_thru B.out (Nat.le_refl _) hb)
  replace HA := Lib.hid (HA.out.below hb)
  replace Ho := Lib.hid (Ho.out.below hb)
  replace Xo := Lib.hid (Xo.out.below hb)
  replace Hx := Lib.hid (Hx.out.below hb)
  replace Hg := Lib.hid (Hg.out.below hb)
  replace Xg := Lib.hid (Xg.out.below hb)
  clear hb
  have Hy := Lib.hid ht.at_
  clear ht hf
  have cXo_0 := Xo.out.2 0
  have cXo_1 := Xo.out.2 1
  have cXg_0 := Xg.out.2 0
  have cXg_1 := Xg.out.2 1
  go_wp2_with fail
  clear cXo_0 cXo_1 cXg_0 cXg_1
  refine (eqBis d x y bs _ Hx.out.at_ Hy.out).mono ?_
  rintro e w8 ⟨rfl, hb⟩
  have hz8 := hb.size
  try simp only [World.size_alloc] at hz8
  try simp only [World.size_drew] at hz8
  replace B := Lib.hid (below_thru B.out (Nat.le_refl _) hb)
  replace HA := Lib.hid (HA.out.below hb)
  replace Ho := Lib.hid (Ho.out.below hb)
  replace Xo := Lib.hid (Xo.out.below hb)
  replace Hx := Lib.hid (Hx.out.below hb)
  replace Hg := Lib.hid (Hg.out.below hb)
  replace Xg := Lib.hid (Xg.out.below hb)
  replace Hy := Lib.hid (Hy.out.below hb)
  clear hb
  clear Hy
  have cXo_0 := Xo.out.2 0
  have cXo_1 := Xo.out.2 1
  have cXg_0 := Xg.out.2 0
  have cXg_1 := Xg.out.2 1
  go_wp2_with fail
  clear cXo_0 cXo_1 cXg_0 cXg_1
  refine (markBisIn w.heap.size d _ bs _ _ 1 _ (by omega) B.out.size (by omega) (by omega) Hx.out).mono ?_
  rintro e w9 ⟨rfl, hb0, hk⟩
  replace B := Lib.hid (B.out.trans hb0)
  replace HA := Lib.hid (HA0.out.below B.out)
  clear Hx
  replace Ho := Lib.hid (Ho.out.beside hk (by omega))
  replace Xo := Lib.hid (Xo.out.beside hk (by omega))
  replace Hg := Lib.hid (Hg.out.beside hk (by omega))
  replace Xg := Lib.hid (Xg.out.beside hk (by omega))
  have hz9 := hk.1
  clear hb0 hk
  have hx0 : (0 : Int) ≤ 1 + (Bi.nums bs : Int) := by omega
  have hx1 : (1 : Int) + (Bi.nums bs : Int) ≤ 1099511627776 := by omega
  have cXo_0 := Xo.out.2 0
  have cXo_1 := Xo.out.2 1
  have cXg_0 := Xg.out.2 0
  have cXg_1 := Xg.out.2 1
  go_wp2_with fail
  clear cXo_0 cXo_1 cXg_0 cXg_1
  refine (eqTy_all (d + 1) _ _ ((Bi.look bs nm).getD (.node 0 [])) _ Hg.out.at_ Ho.out.at_).mono ?_
  rintro e w10 ⟨rfl, hb⟩
  have hz10 := hb.size
  try simp only [World.size_alloc] at hz10
  try simp only [World.size_drew] at hz10
  replace B := Lib.hid (below_thru B.out (Nat.le_refl _) hb)
  replace HA := Lib.hid (HA.out.below hb)
  replace Ho := Lib.hid (Ho.out.below hb)
  replace Xo := Lib.hid (Xo.out.below hb)
  replace Hg := Lib.hid (Hg.out.below hb)
  replace Xg := Lib.hid (Xg.out.below hb)
  clear hb
  have cXo_0 := Xo.out.2 0
  have cXo_1 := Xo.out.2 1
  have cXg_0 := Xg.out.2 0
  have cXg_1 := Xg.out.2 1
  go_wp2_with fail
  clear cXo_0 cXo_1 cXg_0 cXg_1
  refine (markOwn w.heap.size _ _ ((Bi.look bs nm).getD (.node 0 [])) _ _ 1 _ (by omega) B.out.size (by omega) (by omega) Hg.out).mono ?_
  rintro e w11 ⟨rfl, hm, hb0, hk⟩
  replace B := Lib.hid (B.out.trans hb0)
  replace HA := Lib.hid (HA0.out.below B.out)
  replace Ho := Lib.hid (Ho.out.beside hk (by omega))
  replace Xo := Lib.hid (Xo.out.beside hk (by omega))
  replace Xg := Lib.hid (Xg.out.beside hk (by omega))
  replace Hg := Lib.hid hm
  have hz11 := hk.1
  clear hb0 hk hm
  obtain ⟨m, hm⟩ : ∃ m : Int, m = 1 + ((((Bi.look bs nm).getD (.node 0 [])).size - 1 : Nat) : Int) := ⟨_, rfl⟩
  rw [← hm]
  have HM := Lib.hid hm
  have hm0 : 0 ≤ m := by omega
  have hm1 : m ≤ 1099511627776 := by omega
  clear hm
  have cXo_0 := Xo.out.2 0
  have cXo_1 := Xo.out.2 1
  have cXg_0 := Xg.out.2 0
  have cXg_1 := Xg.out.2 1
  go_wp2_with fail
  clear cXo_0 cXo_1 cXg_0 cXg_1
  refine (heldOwn _ _ ((Bi.look bs nm).getD (.node 0 [])) _ _ 1 _ (by omega) (by omega) Hg.out).mono ?_
  rintro e w12 ⟨rfl, hb⟩
  have hz12 := hb.size
  try simp only [World.size_alloc] at hz12
  try simp only [World.size_drew] at hz12
  replace B := Lib.hid (below_thru B.out (Nat.le_refl _) hb)
  replace HA := Lib.hid (HA.out.below hb)
  replace Ho := Lib.hid (Ho.out.below hb)
  replace Xo := Lib.hid (Xo.out.below hb)
  replace Hg := Lib.hid (Hg.out.below hb)
  replace Xg := Lib.hid (Xg.out.below hb)
  clear hb
  rw [← HM.out]
  have cXo_0 := Xo.out.2 0
  have cXo_1 := Xo.out.2 1
  have cXg_0 := Xg.out.2 0
  have cXg_1 := Xg.out.2 1
  go_wp2_with fail
  clear cXo_0 cXo_1 cXg_0 cXg_1
  refine (toBisOwn d _ bs _ hn1 HA.out).mono ?_
  rintro e w13 ⟨h, fp, rfl, ht, hf, hb⟩
  have hz13 := hb.size
  try simp only [World.size_alloc] at hz13
  try simp only [World.size_drew] at hz13
  replace B := Lib.hid (below_thru B.out (Nat.le_refl _) hb)
  replace HA := Lib.hid (HA.out.below hb)
  replace Ho := Lib.hid (Ho.out.below hb)
  replace Xo := Lib.hid (Xo.out.below hb)
  replace Hg := Lib.hid (Hg.out.below hb)
  replace Xg := Lib.hid (Xg.out.below hb)
  clear hb
  have Hh := Lib.hid ht.at_
  clear ht hf
  have cXo_0 := Xo.out.2 0
  have cXo_1 := Xo.out.2 1
  have cXg_0 := Xg.out.2 0
  have cXg_1 := Xg.out.2 1
  go_wp2_with fail
  clear cXo_0 cXo_1 cXg_0 cXg_1
  refine (implLook d _ nm bs _ Hh.out hn1).mono ?_
  rintro e w14 ⟨j, rfl, ho, hb⟩
  have hz14 := hb.size
  try simp only [World.size_alloc] at hz14
  try simp only [World.size_drew] at hz14
  try simp only [World.size_alloc] at ho
  replace B := Lib.hid (below_thru B.out (Nat.le_refl _) hb)
  replace HA := Lib.hid (HA.out.below hb)
  replace Ho := Lib.hid (Ho.out.below hb)
  replace Xo := Lib.hid (Xo.out.below hb)
  replace Hg := Lib.hid (Hg.out.below hb)
  replace Xg := Lib.hid (Xg.out.below hb)
  replace Hh := Lib.hid (Hh.out.below hb)
  clear hb
  obtain ⟨jk, ja, jn, jc, rfl⟩ := agg_parts ho.at_
  have Hj := Lib.hid ho
  clear ho
  have Xj : Hid (BoxAt (w14.alloc (.cells #[.int .i64 jk, .slice ja jn jc] 32)) w14.heap.size #[.int .i64 jk, .slice ja jn jc]) := BoxAt.new _ _ _
  have hb := below_alloc w14 (.cells #[.int .i64 jk, .slice ja jn jc] 32)
  replace B := Lib.hid (below_thru B.out (Nat.le_refl _) hb)
  replace HA := Lib.hid (HA.out.below hb)
  replace Ho := Lib.hid (Ho.out.below hb)
  replace Xo := Lib.hid (Xo.out.below hb)
  replace Hg := Lib.hid (Hg.out.below hb)
  replace Xg := Lib.hid (Xg.out.below hb)
  replace Hh := Lib.hid (Hh.out.below hb)
  replace Hj := Lib.hid (Hj.out.below hb)
  clear hb
  clear Hh
  have cXo_0 := Xo.out.2 0
  have cXo_1 := Xo.out.2 1
  have cXg_0 := Xg.out.2 0
  have cXg_1 := Xg.out.2 1
  have cXj_0 := Xj.out.2 0
  have cXj_1 := Xj.out.2 1
  go_wp2_with fail
  clear cXo_0 cXo_1 cXg_0 cXg_1 cXj_0 cXj_1
  refine (eqTy_all (d + 1) _ _ ((Bi.look bs nm).getD (.node 0 [])) _ Hj.out.at_ Ho.out.at_).mono ?_
  rintro e w15 ⟨rfl, hb⟩
  have hz15 := hb.size
  try simp only [World.size_alloc] at hz15
  try simp only [World.size_drew] at hz15
  replace B := Lib.hid (below_thru B.out (Nat.le_refl _) hb)
  replace HA := Lib.hid (HA.out.below hb)
  replace Ho := Lib.hid (Ho.out.below hb)
  replace Xo := Lib.hid (Xo.out.below hb)
  replace Hg := Lib.hid (Hg.out.below hb)
  replace Xg := Lib.hid (Xg.out.below hb)
  replace Hj := Lib.hid (Hj.out.below hb)
  replace Xj := Lib.hid (Xj.out.below hb)
  clear hb
  have cXo_0 := Xo.out.2 0
  have cXo_1 := Xo.out.2 1
  have cXg_0 := Xg.out.2 0
  have cXg_1 := Xg.out.2 1
  have cXj_0 := Xj.out.2 0
  have cXj_1 := Xj.out.2 1
  go_wp2_with fail
  clear cXo_0 cXo_1 cXg_0 cXg_1 cXj_0 cXj_1
  refine (heldOwn _ _ ((Bi.look bs nm).getD (.node 0 [])) _ _ 1 _ (by omega) (by omega) Hg.out).mono ?_
  rintro e w16 ⟨rfl, hb⟩
  have hz16 := hb.size
  try simp only [World.size_alloc] at hz16
  try simp only [World.size_drew] at hz16
  replace B := Lib.hid (below_thru B.out (Nat.le_refl _) hb)
  replace HA := Lib.hid (HA.out.below hb)
  replace Ho := Lib.hid (Ho.out.below hb)
  replace Xo := Lib.hid (Xo.out.below hb)
  replace Hg := Lib.hid (Hg.out.below hb)
  replace Xg := Lib.hid (Xg.out.below hb)
  replace Hj := Lib.hid (Hj.out.below hb)
  replace Xj := Lib.hid (Xj.out.below hb)
  clear hb
  rw [← HM.out]
  have cXo_0 := Xo.out.2 0
  have cXo_1 := Xo.out.2 1
  have cXg_0 := Xg.out.2 0
  have cXg_1 := Xg.out.2 1
  have cXj_0 := Xj.out.2 0
  have cXj_1 := Xj.out.2 1
  go_wp2_with fail
  go_ret
  exact ⟨rfl, B.out⟩
end Go.Proofs.Ytfidcblaabeaaaa
