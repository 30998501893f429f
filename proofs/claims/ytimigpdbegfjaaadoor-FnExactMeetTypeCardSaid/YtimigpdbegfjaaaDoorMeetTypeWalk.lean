/-
  Proved: the law FnExactMeetType answers true for every two types, and leaves the memory that was there as it was.
-/
import Derived.Test.YtimigpdbegfjaaaDoorToType
import Derived.Test.YtimigpdbegfjaaaDoorHold
import Derived.Test.YtimigpdbegfjaaaDoorPart
import Derived.Test.YtimigpdbegfjaaaDoorSzType
import Derived.Test.YtimigpdbegfjaaaDoorEqType
import Derived.Test.YtimigpdbegfjaaaDoorOwnIn
import Derived.Test.YtimigpdbegfjaaaDoorMade
import Derived.Test.YtimigpdbegfjaaaDoorMeetLaw
import Derived.Deep.RegionHeld3
import Derived.Deep.DeepCutAuto
namespace Go.Proofs.YtimigpdbegfjaaaDoor
open Go.RowKit

set_option maxRecDepth 100000 in
set_option maxHeartbeats 4000000 in
theorem meetTypeWalk (d : Nat) (v1 : Value) (t1 : Ty) (v2 : Value) (t2 : Ty) (w : World) (h1 : TyAt w d v1 t1) (h2 : TyAt w d v2 t2) (htab : MeetTab w) :
    Calls Tryd.prog 3 #[v1, v2] w fun e w' => e = .returned (.bool true) ∧ Below w.heap.size w w' := by
  obtain ⟨a1k, a1a, a1n, a1c, rfl⟩ := agg_parts h1
  obtain ⟨a2k, a2a, a2n, a2c, rfl⟩ := agg_parts h2
  have B : Hid (Below w.heap.size w ((w.alloc (.cells #[.int .i64 a1k, .slice a1a a1n a1c] 24)).alloc (.cells #[.int .i64 a2k, .slice a2a a2n a2c] 24))) := ((Below.refl _ _).alloc (Nat.le_refl _) _).alloc (by simp) _
  have HA10 := Lib.hid h1
  have HA1 := Lib.hid (h1.below B.out)
  have HA20 := Lib.hid h2
  have HA2 := Lib.hid (h2.below B.out)
  have HTAB0 := Lib.hid htab
  have HTAB := Lib.hid (htab.below B.out)
  clear htab
  have XA1 : Hid (BoxAt ((w.alloc (.cells #[.int .i64 a1k, .slice a1a a1n a1c] 24)).alloc (.cells #[.int .i64 a2k, .slice a2a a2n a2c] 24)) w.heap.size #[.int .i64 a1k, .slice a1a a1n a1c]) := (BoxAt.new _ _ _).below (below_alloc _ _)
  have XA2 : Hid (BoxAt ((w.alloc (.cells #[.int .i64 a1k, .slice a1a a1n a1c] 24)).alloc (.cells #[.int .i64 a2k, .slice a2a a2n a2c] 24)) (w.heap.size + 1) #[.int .i64 a2k, .slice a2a a2n a2c]) := box_at (BoxAt.new _ _ _) (by simp)
  clear h1 h2
  go_enter Tryd.func3, Tryd.ntmps3
  go_wp2_with fail
  refine (szTy_all d _ t1 1048576 _ (by omega) (by omega) HA1.out).mono ?_
  rintro e w1 ⟨r1, rfl, hb, hr1⟩
  have hz1 := hb.size
  try simp only [World.size_alloc] at hz1
  try simp only [World.size_drew] at hz1
  replace B := Lib.hid (below_thru B.out (Nat.le_refl _) hb)
  replace HA1 := Lib.hid (HA1.out.below hb)
  replace HA2 := Lib.hid (HA2.out.below hb)
  replace HTAB := Lib.hid (HTAB.out.below hb)
  replace XA1 := Lib.hid (XA1.out.below hb)
  replace XA2 := Lib.hid (XA2.out.below hb)
  clear hb
  rcases hr1 with ⟨hr1, hs1⟩ | ⟨hr1, hs1⟩
  · go_wp2_with fail
    go_ret
    exact ⟨rfl, B.out⟩
  have hp1 := t1.size_pos
  have hq1 : r1 ≤ 1048576 := by omega
  have hn1 : t1.size ≤ 1048577 := by omega
  have cXA1_0 := XA1.out.2 0
  have cXA1_1 := XA1.out.2 1
  have cXA2_0 := XA2.out.2 0
  have cXA2_1 := XA2.out.2 1
  go_wp2_with fail
  clear cXA1_0 cXA1_1 cXA2_0 cXA2_1
  refine (szTy_all d _ t2 r1 _ hr1 hq1 HA2.out).mono ?_
  rintro e w2 ⟨r2, rfl, hb, hr2⟩
  have hz2 := hb.size
  try simp only [World.size_alloc] at hz2
  try simp only [World.size_drew] at hz2
  replace B := Lib.hid (below_thru B.out (Nat.le_refl _) hb)
  replace HA1 := Lib.hid (HA1.out.below hb)
  replace HA2 := Lib.hid (HA2.out.below hb)
  replace HTAB := Lib.hid (HTAB.out.below hb)
  replace XA1 := Lib.hid (XA1.out.below hb)
  replace XA2 := Lib.hid (XA2.out.below hb)
  clear hb
  rcases hr2 with ⟨hr2, hs2⟩ | ⟨hr2, hs2⟩
  · go_wp2_with fail
    go_ret
    exact ⟨rfl, B.out⟩
  have hp2 := t2.size_pos
  have hq2 : r2 ≤ 1048576 := by omega
  have hn2 : t2.size ≤ 1048577 := by omega
  clear hs1 hs2 hp1 hp2
  have hrb : (t1.both t2).size ≤ 3000000 := by have := Ty.both_size t1 t2; omega
  have cXA1_0 := XA1.out.2 0
  have cXA1_1 := XA1.out.2 1
  have cXA2_0 := XA2.out.2 0
  have cXA2_1 := XA2.out.2 1
  go_upto_region 8 with fail
  clear cXA1_0 cXA1_1 cXA2_0 cXA2_1
  clear hr1 hr2 hq1 hq2
  go_cut [6, 7] (fun s u wx => u = .bool (t1.okay t2) ∧ MadeAt w2 d (t1.both t2) s wx)
  case first =>
    have G := Lib.hid (below_drew w2)
    go_region_held3 (fun w' => w'.cell? ⟨w.heap.size, 0, none⟩ = some (.int .i64 a1k) ∧ w'.cell? ⟨w.heap.size, 1, none⟩ = some (.slice a1a a1n a1c) ∧ w'.cell? ⟨w.heap.size + 1, 0, none⟩ = some (.int .i64 a2k) ∧ w'.cell? ⟨w.heap.size + 1, 1, none⟩ = some (.slice a2a a2n a2c)) (first | exact ⟨(XA1.out.below G.out).2 0, (XA1.out.below G.out).2 1, (XA2.out.below G.out).2 0, (XA2.out.below G.out).2 1⟩ | exact ⟨(XA1.out.below (G.out.alloc G.out.size _)).2 0, (XA1.out.below (G.out.alloc G.out.size _)).2 1, (XA2.out.below (G.out.alloc G.out.size _)).2 0, (XA2.out.below (G.out.alloc G.out.size _)).2 1⟩ | exact ⟨(XA1.out.below (below_alloc _ _).drew).2 0, (XA1.out.below (below_alloc _ _).drew).2 1, (XA2.out.below (below_alloc _ _).drew).2 0, (XA2.out.below (below_alloc _ _).drew).2 1⟩ | exact ⟨(XA1.out.below ((G.out.setCell (by dsimp only; omega) _).setCell (by dsimp only; omega) _)).2 0, (XA1.out.below ((G.out.setCell (by dsimp only; omega) _).setCell (by dsimp only; omega) _)).2 1, (XA2.out.below ((G.out.setCell (by dsimp only; omega) _).setCell (by dsimp only; omega) _)).2 0, (XA2.out.below ((G.out.setCell (by dsimp only; omega) _).setCell (by dsimp only; omega) _)).2 1⟩)
      (first
       | (go_at_call_of 7 (Value.agg #[Value.int IntKind.i64 a1k, Value.slice a1a a1n a1c])
          refine ((toTy_all d).1 _ t1 _ hn1 ?_).mono ?_
          · first | exact HA1.out.below G.out | exact HA1.out.below (G.out.alloc G.out.size _) | exact HA1.out.below (below_alloc _ _).drew
          rintro e woa ⟨s1, fp1, rfl, ht, hf, hb⟩
          have Hs1 := Lib.hid ht.at_
          clear ht hf
          have hzoa := hb.size
          try simp only [World.size_drew] at hzoa
          try simp only [World.size_alloc] at hzoa
          try simp only [World.size_drew] at hzoa
          first
            | (have XO : Hid (BoxAt woa w2.heap.size #[.int .i64 0, .slice none 0 0]) := Lib.hid ((BoxAt.new _ _ _).below hb)
               have XF : Hid (FreeAt woa w2.heap.size) := Lib.hid ((FreeAt.new _ #[.int .i64 0, .slice none 0 0] _).below hb)
               have G2 := Lib.hid (below_on (G.out.alloc G.out.size _) hb (G.out.alloc G.out.size _).size)
               clear G
               have G := G2
               clear G2)
            | (have XO : Hid (BoxAt woa w2.heap.size #[.int .i64 0, .slice none 0 0]) := Lib.hid (((BoxAt.new _ _ _).below (below_drew _)).below hb)
               have XF : Hid (FreeAt woa w2.heap.size) := Lib.hid (((FreeAt.new _ #[.int .i64 0, .slice none 0 0] _).below (below_drew _)).below hb)
               have G2 := Lib.hid (below_on (below_alloc w2 _).drew hb (below_alloc w2 _).drew.size)
               clear G
               have G := G2
               clear G2)
            | (replace G := Lib.hid (below_on G.out hb G.out.size)
               try replace XO := Lib.hid (XO.out.below hb)
               try replace XF := Lib.hid (XF.out.below hb))
          clear hb)
       | (go_at_call_of 7 (Value.agg #[Value.int IntKind.i64 a2k, Value.slice a2a a2n a2c])
          refine ((toTy_all d).1 _ t2 _ hn2 ?_).mono ?_
          · first | exact HA2.out.below G.out | exact HA2.out.below (G.out.alloc G.out.size _) | exact HA2.out.below (below_alloc _ _).drew
          rintro e wob ⟨s2, fp2, rfl, ht, hf, hb⟩
          have Hs2 := Lib.hid ht.at_
          clear ht hf
          first | replace Hs1 := Lib.hid (Hs1.out.below hb) | replace Hs1 := Lib.hid ((Hs1.out.below (below_alloc _ _)).below hb)
          have hzob := hb.size
          try simp only [World.size_drew] at hzob
          try simp only [World.size_alloc] at hzob
          try simp only [World.size_drew] at hzob
          first
            | (have XO : Hid (BoxAt wob woa.heap.size #[.int .i64 0, .slice none 0 0]) := Lib.hid ((BoxAt.new _ _ _).below hb)
               have XF : Hid (FreeAt wob woa.heap.size) := Lib.hid ((FreeAt.new _ #[.int .i64 0, .slice none 0 0] _).below hb)
               have G2 := Lib.hid (below_on (G.out.alloc G.out.size _) hb (G.out.alloc G.out.size _).size)
               clear G
               have G := G2
               clear G2)
            | (have XO : Hid (BoxAt wob woa.heap.size #[.int .i64 0, .slice none 0 0]) := Lib.hid (((BoxAt.new _ _ _).below (below_drew _)).below hb)
               have XF : Hid (FreeAt wob woa.heap.size) := Lib.hid (((FreeAt.new _ #[.int .i64 0, .slice none 0 0] _).below (below_drew _)).below hb)
               have G2 := Lib.hid (below_on (below_alloc w2 _).drew hb (below_alloc w2 _).drew.size)
               clear G
               have G := G2
               clear G2)
            | (replace G := Lib.hid (below_on G.out hb G.out.size)
               try replace XO := Lib.hid (XO.out.below hb)
               try replace XF := Lib.hid (XF.out.below hb))
          clear hb)
       | (go_at_call 6
          refine (specMeetL d _ _ t1 t2 _ hn1 hn2 ?_ ?_).mono ?_
          · first | exact Hs1.out | exact Hs1.out.below (below_alloc _ _)
          · first | exact Hs2.out | exact Hs2.out.below (below_alloc _ _)
          rintro e woc ⟨o, fp, rfl, ht, hf, hb⟩
          obtain ⟨ok, oa, on, oc, rfl, HY⟩ := ty_parts ht
          have Ho := Lib.hid (OwnIn.of HY.out hf (Nat.le_refl _))
          clear ht hf HY Hs1 Hs2
          have hzoc := hb.size
          try simp only [World.size_drew] at hzoc
          try simp only [World.size_alloc] at hzoc
          try simp only [World.size_drew] at hzoc
          first
            | (have XO : Hid (BoxAt woc wob.heap.size #[.int .i64 0, .slice none 0 0]) := Lib.hid ((BoxAt.new _ _ _).below hb)
               have XF : Hid (FreeAt woc wob.heap.size) := Lib.hid ((FreeAt.new _ #[.int .i64 0, .slice none 0 0] _).below hb)
               have G2 := Lib.hid (below_on (G.out.alloc G.out.size _) hb (G.out.alloc G.out.size _).size)
               clear G
               have G := G2
               clear G2)
            | (have XO : Hid (BoxAt woc wob.heap.size #[.int .i64 0, .slice none 0 0]) := Lib.hid (((BoxAt.new _ _ _).below (below_drew _)).below hb)
               have XF : Hid (FreeAt woc wob.heap.size) := Lib.hid (((FreeAt.new _ #[.int .i64 0, .slice none 0 0] _).below (below_drew _)).below hb)
               have G2 := Lib.hid (below_on (below_alloc w2 _).drew hb (below_alloc w2 _).drew.size)
               clear G
               have G := G2
               clear G2)
            | (replace G := Lib.hid (below_on G.out hb G.out.size)
               try replace XO := Lib.hid (XO.out.below hb)
               try replace XF := Lib.hid (XF.out.below hb))
          clear hb
          try (have r0 := XO.out.2 0
               have r1 := XO.out.2 1
               have q0 := XF.out.2 0
               have q1 := XF.out.2 1)))
    all_goals go_wp2_with fail
    all_goals go_meet
    all_goals first | refine ⟨rfl, made_new G.out Ho.out ?_⟩ | refine ⟨rfl, made_old G.out Ho.out ?_ ?_ ?_ XO.out⟩
    all_goals ((try simp only [World.size_drew]); (try simp only [World.size_alloc]); (try simp only [World.size_drew]); omega)
  case rest =>
    obtain ⟨w3, hwc⟩ : ∃ u, u = wc := ⟨_, rfl⟩
    subst hwc
    obtain ⟨rfl, po, ok, oa, on, oc, rfl, hpo, hXo, hHo, hb⟩ := hcut
    have Xo := Lib.hid hXo
    have Ho := Lib.hid hHo
    have hqo := hXo.1
    clear hXo hHo
    have hz3 := hb.size
    replace B := Lib.hid (below_thru B.out (Nat.le_refl _) hb)
    replace HA1 := Lib.hid (HA1.out.below hb)
    replace HA2 := Lib.hid (HA2.out.below hb)
    replace HTAB := Lib.hid (HTAB.out.below hb)
    replace XA1 := Lib.hid (XA1.out.below hb)
    replace XA2 := Lib.hid (XA2.out.below hb)
    clear hb
    have cXA1_0 := XA1.out.2 0
    have cXA1_1 := XA1.out.2 1
    have cXA2_0 := XA2.out.2 0
    have cXA2_1 := XA2.out.2 1
    have cXo_0 := Xo.out.2 0
    have cXo_1 := Xo.out.2 1
    go_wp2_with fail
    clear cXA1_0 cXA1_1 cXA2_0 cXA2_1 cXo_0 cXo_1
    refine ((toTy_all d).1 _ t1 _ hn1 HA1.out).mono ?_
    rintro e w4 ⟨x, fp, rfl, ht, hf, hb⟩
    have hz4 := hb.size
    try simp only [World.size_alloc] at hz4
    try simp only [World.size_drew] at hz4
    replace B := Lib.hid (below_thru B.out (Nat.le_refl _) hb)
    replace HA1 := Lib.hid (HA1.out.below hb)
    replace HA2 := Lib.hid (HA2.out.below hb)
    replace HTAB := Lib.hid (HTAB.out.below hb)
    replace XA1 := Lib.hid (XA1.out.below hb)
    replace XA2 := Lib.hid (XA2.out.below hb)
    replace Xo := Lib.hid (Xo.out.below hb)
    replace Ho := Lib.hid (Ho.out.below hb)
    clear hb
    obtain ⟨xk, xa, xn, xc, rfl, HY⟩ := ty_parts ht
    have Hx := Lib.hid (OwnIn.of HY.out hf (lo := w3.heap.size) (by first | exact Nat.le_refl _ | simp | (simp; omega)))
    clear ht hf HY
    have Xx : Hid (BoxAt (w4.alloc (.cells #[.int .i64 xk, .slice xa xn xc] 28)) w4.heap.size #[.int .i64 xk, .slice xa xn xc]) := BoxAt.new _ _ _
    have hb := below_alloc w4 (.cells #[.int .i64 xk, .slice xa xn xc] 28)
    replace B := Lib.hid (below_thru B.out (Nat.le_refl _) hb)
    replace HA1 := Lib.hid (HA1.out.below hb)
    replace HA2 := Lib.hid (HA2.out.below hb)
    replace HTAB := Lib.hid (HTAB.out.below hb)
    replace XA1 := Lib.hid (XA1.out.below hb)
    replace XA2 := Lib.hid (XA2.out.below hb)
    replace Xo := Lib.hid (Xo.out.below hb)
    replace Ho := Lib.hid (Ho.out.below hb)
    replace Hx := Lib.hid (Hx.out.below hb)
    clear hb
    have cXA1_0 := XA1.out.2 0
    have cXA1_1 := XA1.out.2 1
    have cXA2_0 := XA2.out.2 0
    have cXA2_1 := XA2.out.2 1
    have cXo_0 := Xo.out.2 0
    have cXo_1 := Xo.out.2 1
    have cXx_0 := Xx.out.2 0
    have cXx_1 := Xx.out.2 1
    go_wp2_with fail
    clear cXA1_0 cXA1_1 cXA2_0 cXA2_1 cXo_0 cXo_1 cXx_0 cXx_1
    refine ((toTy_all d).1 _ t2 _ hn2 HA2.out).mono ?_
    rintro e w5 ⟨y, fp, rfl, ht, hf, hb⟩
    have hz5 := hb.size
    try simp only [World.size_alloc] at hz5
    try simp only [World.size_drew] at hz5
    replace B := Lib.hid (below_thru B.out (Nat.le_refl _) hb)
    replace HA1 := Lib.hid (HA1.out.below hb)
    replace HA2 := Lib.hid (HA2.out.below hb)
    replace HTAB := Lib.hid (HTAB.out.below hb)
    replace XA1 := Lib.hid (XA1.out.below hb)
    replace XA2 := Lib.hid (XA2.out.below hb)
    replace Xo := Lib.hid (Xo.out.below hb)
    replace Ho := Lib.hid (Ho.out.below hb)
    replace Hx := Lib.hid (Hx.out.below hb)
    replace Xx := Lib.hid (Xx.out.below hb)
    clear hb
    obtain ⟨yk, ya, yn, yc, rfl, HY⟩ := ty_parts ht
    have Hy := Lib.hid (OwnIn.of HY.out hf (lo := w4.heap.size + 1) (by first | exact Nat.le_refl _ | simp | (simp; omega)))
    clear ht hf HY
    have Xy : Hid (BoxAt (w5.alloc (.cells #[.int .i64 yk, .slice ya yn yc] 28)) w5.heap.size #[.int .i64 yk, .slice ya yn yc]) := BoxAt.new _ _ _
    have hb := below_alloc w5 (.cells #[.int .i64 yk, .slice ya yn yc] 28)
    replace B := Lib.hid (below_thru B.out (Nat.le_refl _) hb)
    replace HA1 := Lib.hid (HA1.out.below hb)
    replace HA2 := Lib.hid (HA2.out.below hb)
    replace HTAB := Lib.hid (HTAB.out.below hb)
    replace XA1 := Lib.hid (XA1.out.below hb)
    replace XA2 := Lib.hid (XA2.out.below hb)
    replace Xo := Lib.hid (Xo.out.below hb)
    replace Ho := Lib.hid (Ho.out.below hb)
    replace Hx := Lib.hid (Hx.out.below hb)
    replace Xx := Lib.hid (Xx.out.below hb)
    replace Hy := Lib.hid (Hy.out.below hb)
    clear hb
    have cXA1_0 := XA1.out.2 0
    have cXA1_1 := XA1.out.2 1
    have cXA2_0 := XA2.out.2 0
    have cXA2_1 := XA2.out.2 1
    have cXo_0 := Xo.out.2 0
    have cXo_1 := Xo.out.2 1
    have cXx_0 := Xx.out.2 0
    have cXx_1 := Xx.out.2 1
    have cXy_0 := Xy.out.2 0
    have cXy_1 := Xy.out.2 1
    go_wp2_with fail
    clear cXA1_0 cXA1_1 cXA2_0 cXA2_1 cXo_0 cXo_1 cXx_0 cXx_1 cXy_0 cXy_1
    refine (implMeetL d _ _ t1 t2 _ hn1 hn2 Hx.out.at_ Hy.out.at_ HTAB.out).mono ?_
    rintro e w6 ⟨g, fp, rfl, ht, hf, hb⟩
    have hz6 := hb.size
    try simp only [World.size_alloc] at hz6
    try simp only [World.size_drew] at hz6
    replace B := Lib.hid (below_thru B.out (Nat.le_refl _) hb)
    replace HA1 := Lib.hid (HA1.out.below hb)
    replace HA2 := Lib.hid (HA2.out.below hb)
    replace HTAB := Lib.hid (HTAB.out.below hb)
    replace XA1 := Lib.hid (XA1.out.below hb)
    replace XA2 := Lib.hid (XA2.out.below hb)
    replace Xo := Lib.hid (Xo.out.below hb)
    replace Ho := Lib.hid (Ho.out.below hb)
    replace Hx := Lib.hid (Hx.out.below hb)
    replace Xx := Lib.hid (Xx.out.below hb)
    replace Hy := Lib.hid (Hy.out.below hb)
    replace Xy := Lib.hid (Xy.out.below hb)
    clear hb
    obtain ⟨gk, ga, gn, gc, rfl, HY⟩ := ty_parts ht
    have Hg := Lib.hid (OwnIn.of HY.out hf (lo := w5.heap.size + 1) (by first | exact Nat.le_refl _ | simp | (simp; omega)))
    clear ht hf HY
    have Xg : Hid (BoxAt (w6.alloc (.cells #[.int .i64 gk, .slice ga gn gc] 28)) w6.heap.size #[.int .i64 gk, .slice ga gn gc]) := BoxAt.new _ _ _
    have hb := below_alloc w6 (.cells #[.int .i64 gk, .slice ga gn gc] 28)
    replace B := Lib.hid (below_thru B.out (Nat.le_refl _) hb)
    replace HA1 := Lib.hid (HA1.out.below hb)
    replace HA2 := Lib.hid (HA2.out.below hb)
    replace HTAB := Lib.hid (HTAB.out.below hb)
    replace XA1 := Lib.hid (XA1.out.below hb)
    replace XA2 := Lib.hid (XA2.out.below hb)
    replace Xo := Lib.hid (Xo.out.below hb)
    replace Ho := Lib.hid (Ho.out.below hb)
    replace Hx := Lib.hid (Hx.out.below hb)
    replace Xx := Lib.hid (Xx.out.below hb)
    replace Hy := Lib.hid (Hy.out.below hb)
    replace Xy := Lib.hid (Xy.out.below hb)
    replace Hg := Lib.hid (Hg.out.below hb)
    clear hb
    have cXA1_0 := XA1.out.2 0
    have cXA1_1 := XA1.out.2 1
    have cXA2_0 := XA2.out.2 0
    have cXA2_1 := XA2.out.2 1
    have cXo_0 := Xo.out.2 0
    have cXo_1 := Xo.out.2 1
    have cXx_0 := Xx.out.2 0
    have cXx_1 := Xx.out.2 1
    have cXy_0 := Xy.out.2 0
    have cXy_1 := Xy.out.2 1
    have cXg_0 := Xg.out.2 0
    have cXg_1 := Xg.out.2 1
    go_wp2_with fail
    clear cXA1_0 cXA1_1 cXA2_0 cXA2_1 cXo_0 cXo_1 cXx_0 cXx_1 cXy_0 cXy_1 cXg_0 cXg_1
    refine (eqTy_all d _ _ (t1.both t2) _ Hg.out.at_ Ho.out.at_).mono ?_
    rintro e w7 ⟨rfl, hb⟩
    have hz7 := hb.size
    try simp only [World.size_alloc] at hz7
    try simp only [World.size_drew] at hz7
    replace B := Lib.hid (below_thru B.out (Nat.le_refl _) hb)
    replace HA1 := Lib.hid (HA1.out.below hb)
    replace HA2 := Lib.hid (HA2.out.below hb)
    replace HTAB := Lib.hid (HTAB.out.below hb)
    replace XA1 := Lib.hid (XA1.out.below hb)
    replace XA2 := Lib.hid (XA2.out.below hb)
    replace Xo := Lib.hid (Xo.out.below hb)
    replace Ho := Lib.hid (Ho.out.below hb)
    replace Hx := Lib.hid (Hx.out.below hb)
    replace Xx := Lib.hid (Xx.out.below hb)
    replace Hy := Lib.hid (Hy.out.below hb)
    replace Xy := Lib.hid (Xy.out.below hb)
    replace Hg := Lib.hid (Hg.out.below hb)
    replace Xg := Lib.hid (Xg.out.below hb)
    clear hb
    have cXA1_0 := XA1.out.2 0
    have cXA1_1 := XA1.out.2 1
    have cXA2_0 := XA2.out.2 0
    have cXA2_1 := XA2.out.2 1
    have cXo_0 := Xo.out.2 0
    have cXo_1 := Xo.out.2 1
    have cXx_0 := Xx.out.2 0
    have cXx_1 := Xx.out.2 1
    have cXy_0 := Xy.out.2 0
    have cXy_1 := Xy.out.2 1
    have cXg_0 := Xg.out.2 0
    have cXg_1 := Xg.out.2 1
    go_wp2_with fail
    clear cXA1_0 cXA1_1 cXA2_0 cXA2_1 cXo_0 cXo_1 cXx_0 cXx_1 cXy_0 cXy_1 cXg_0 cXg_1
    have hb := below_drew w7
    replace B := Lib.hid (below_thru B.out (Nat.le_refl _) hb)
    replace HA1 := Lib.hid (HA1.out.below hb)
    replace HA2 := Lib.hid (HA2.out.below hb)
    replace HTAB := Lib.hid (HTAB.out.below hb)
    replace XA1 := Lib.hid (XA1.out.below hb)
    replace XA2 := Lib.hid (XA2.out.below hb)
    replace Xo := Lib.hid (Xo.out.below hb)
    replace Ho := Lib.hid (Ho.out.below hb)
    replace Hx := Lib.hid (Hx.out.below hb)
    replace Xx := Lib.hid (Xx.out.below hb)
    replace Hy := Lib.hid (Hy.out.below hb)
    replace Xy := Lib.hid (Xy.out.below hb)
    replace Hg := Lib.hid (Hg.out.below hb)
    replace Xg := Lib.hid (Xg.out.below hb)
    clear hb
    go_region_held3 (fun w' => w'.cell? ⟨w.heap.size, 0, none⟩ = some (.int .i64 a1k) ∧ w'.cell? ⟨w.heap.size, 1, none⟩ = some (.slice a1a a1n a1c) ∧ w'.cell? ⟨w.heap.size + 1, 0, none⟩ = some (.int .i64 a2k) ∧ w'.cell? ⟨w.heap.size + 1, 1, none⟩ = some (.slice a2a a2n a2c) ∧ w'.cell? ⟨po, 0, none⟩ = some (.int .i64 ok) ∧ w'.cell? ⟨po, 1, none⟩ = some (.slice oa on oc) ∧ w'.cell? ⟨w4.heap.size, 0, none⟩ = some (.int .i64 xk) ∧ w'.cell? ⟨w4.heap.size, 1, none⟩ = some (.slice xa xn xc) ∧ w'.cell? ⟨w5.heap.size, 0, none⟩ = some (.int .i64 yk) ∧ w'.cell? ⟨w5.heap.size, 1, none⟩ = some (.slice ya yn yc) ∧ w'.cell? ⟨w6.heap.size, 0, none⟩ = some (.int .i64 gk) ∧ w'.cell? ⟨w6.heap.size, 1, none⟩ = some (.slice ga gn gc)) (exact ⟨XA1.out.2 0, XA1.out.2 1, XA2.out.2 0, XA2.out.2 1, Xo.out.2 0, Xo.out.2 1, Xx.out.2 0, Xx.out.2 1, Xy.out.2 0, Xy.out.2 1, Xg.out.2 0, Xg.out.2 1⟩)
      (first
       | (go_at_call_of 7 (Value.agg #[Value.int IntKind.i64 a1k, Value.slice a1a a1n a1c])
          refine ((toTy_all d).1 _ t1 _ hn1 HA1.out).mono ?_
          rintro e w8 ⟨c, fp, rfl, ht, hf, hb⟩
          have hz8 := hb.size
          try simp only [World.size_drew] at hz8
          replace B := Lib.hid (below_thru B.out (Nat.le_refl _) hb)
          replace HA1 := Lib.hid (HA1.out.below hb)
          replace HA2 := Lib.hid (HA2.out.below hb)
          replace HTAB := Lib.hid (HTAB.out.below hb)
          replace XA1 := Lib.hid (XA1.out.below hb)
          replace XA2 := Lib.hid (XA2.out.below hb)
          replace Xo := Lib.hid (Xo.out.below hb)
          replace Ho := Lib.hid (Ho.out.below hb)
          replace Hx := Lib.hid (Hx.out.below hb)
          replace Xx := Lib.hid (Xx.out.below hb)
          replace Hy := Lib.hid (Hy.out.below hb)
          replace Xy := Lib.hid (Xy.out.below hb)
          replace Hg := Lib.hid (Hg.out.below hb)
          replace Xg := Lib.hid (Xg.out.below hb)
          clear hb
          have Hc := Lib.hid ht.at_
          clear ht hf)
       | (go_at_call 9
          refine (eqTy_all d _ c t1 _ Hx.out.at_ Hc.out).mono ?_
          rintro e w9 ⟨rfl, hb⟩
          have hz9 := hb.size
          try simp only [World.size_drew] at hz9
          replace B := Lib.hid (below_thru B.out (Nat.le_refl _) hb)
          replace HA1 := Lib.hid (HA1.out.below hb)
          replace HA2 := Lib.hid (HA2.out.below hb)
          replace HTAB := Lib.hid (HTAB.out.below hb)
          replace XA1 := Lib.hid (XA1.out.below hb)
          replace XA2 := Lib.hid (XA2.out.below hb)
          replace Xo := Lib.hid (Xo.out.below hb)
          replace Ho := Lib.hid (Ho.out.below hb)
          replace Hx := Lib.hid (Hx.out.below hb)
          replace Xx := Lib.hid (Xx.out.below hb)
          replace Hy := Lib.hid (Hy.out.below hb)
          replace Xy := Lib.hid (Xy.out.below hb)
          replace Hg := Lib.hid (Hg.out.below hb)
          replace Xg := Lib.hid (Xg.out.below hb)
          clear hb
          clear Hc))
    have cXA1_0 := XA1.out.2 0
    have cXA1_1 := XA1.out.2 1
    have cXA2_0 := XA2.out.2 0
    have cXA2_1 := XA2.out.2 1
    have cXo_0 := Xo.out.2 0
    have cXo_1 := Xo.out.2 1
    have cXx_0 := Xx.out.2 0
    have cXx_1 := Xx.out.2 1
    have cXy_0 := Xy.out.2 0
    have cXy_1 := Xy.out.2 1
    have cXg_0 := Xg.out.2 0
    have cXg_1 := Xg.out.2 1
    go_wp2_with fail
    clear cXA1_0 cXA1_1 cXA2_0 cXA2_1 cXo_0 cXo_1 cXx_0 cXx_1 cXy_0 cXy_1 cXg_0 cXg_1
    have hb := below_drew w9
    replace B := Lib.hid (below_thru B.out (Nat.le_refl _) hb)
    replace HA1 := Lib.hid (HA1.out.below hb)
    replace HA2 := Lib.hid (HA2.out.below hb)
    replace HTAB := Lib.hid (HTAB.out.below hb)
    replace XA1 := Lib.hid (XA1.out.below hb)
    replace XA2 := Lib.hid (XA2.out.below hb)
    replace Xo := Lib.hid (Xo.out.below hb)
    replace Ho := Lib.hid (Ho.out.below hb)
    replace Hx := Lib.hid (Hx.out.below hb)
    replace Xx := Lib.hid (Xx.out.below hb)
    replace Hy := Lib.hid (Hy.out.below hb)
    replace Xy := Lib.hid (Xy.out.below hb)
    replace Hg := Lib.hid (Hg.out.below hb)
    replace Xg := Lib.hid (Xg.out.below hb)
    clear hb
    go_region_held3 (fun w' => w'.cell? ⟨w.heap.size, 0, none⟩ = some (.int .i64 a1k) ∧ w'.cell? ⟨w.heap.size, 1, none⟩ = some (.slice a1a a1n a1c) ∧ w'.cell? ⟨w.heap.size + 1, 0, none⟩ = some (.int .i64 a2k) ∧ w'.cell? ⟨w.heap.size + 1, 1, none⟩ = some (.slice a2a a2n a2c) ∧ w'.cell? ⟨po, 0, none⟩ = some (.int .i64 ok) ∧ w'.cell? ⟨po, 1, none⟩ = some (.slice oa on oc) ∧ w'.cell? ⟨w4.heap.size, 0, none⟩ = some (.int .i64 xk) ∧ w'.cell? ⟨w4.heap.size, 1, none⟩ = some (.slice xa xn xc) ∧ w'.cell? ⟨w5.heap.size, 0, none⟩ = some (.int .i64 yk) ∧ w'.cell? ⟨w5.heap.size, 1, none⟩ = some (.slice ya yn yc) ∧ w'.cell? ⟨w6.heap.size, 0, none⟩ = some (.int .i64 gk) ∧ w'.cell? ⟨w6.heap.size, 1, none⟩ = some (.slice ga gn gc)) (exact ⟨XA1.out.2 0, XA1.out.2 1, XA2.out.2 0, XA2.out.2 1, Xo.out.2 0, Xo.out.2 1, Xx.out.2 0, Xx.out.2 1, Xy.out.2 0, Xy.out.2 1, Xg.out.2 0, Xg.out.2 1⟩)
      (first
       | (go_at_call_of 7 (Value.agg #[Value.int IntKind.i64 a2k, Value.slice a2a a2n a2c])
          refine ((toTy_all d).1 _ t2 _ hn2 HA2.out).mono ?_
          rintro e w10 ⟨c, fp, rfl, ht, hf, hb⟩
          have hz10 := hb.size
          try simp only [World.size_drew] at hz10
          replace B := Lib.hid (below_thru B.out (Nat.le_refl _) hb)
          replace HA1 := Lib.hid (HA1.out.below hb)
          replace HA2 := Lib.hid (HA2.out.below hb)
          replace HTAB := Lib.hid (HTAB.out.below hb)
          replace XA1 := Lib.hid (XA1.out.below hb)
          replace XA2 := Lib.hid (XA2.out.below hb)
          replace Xo := Lib.hid (Xo.out.below hb)
          replace Ho := Lib.hid (Ho.out.below hb)
          replace Hx := Lib.hid (Hx.out.below hb)
          replace Xx := Lib.hid (Xx.out.below hb)
          replace Hy := Lib.hid (Hy.out.below hb)
          replace Xy := Lib.hid (Xy.out.below hb)
          replace Hg := Lib.hid (Hg.out.below hb)
          replace Xg := Lib.hid (Xg.out.below hb)
          clear hb
          have Hc := Lib.hid ht.at_
          clear ht hf)
       | (go_at_call 9
          refine (eqTy_all d _ c t2 _ Hy.out.at_ Hc.out).mono ?_
          rintro e w11 ⟨rfl, hb⟩
          have hz11 := hb.size
          try simp only [World.size_drew] at hz11
          replace B := Lib.hid (below_thru B.out (Nat.le_refl _) hb)
          replace HA1 := Lib.hid (HA1.out.below hb)
          replace HA2 := Lib.hid (HA2.out.below hb)
          replace HTAB := Lib.hid (HTAB.out.below hb)
          replace XA1 := Lib.hid (XA1.out.below hb)
          replace XA2 := Lib.hid (XA2.out.below hb)
          replace Xo := Lib.hid (Xo.out.below hb)
          replace Ho := Lib.hid (Ho.out.below hb)
          replace Hx := Lib.hid (Hx.out.below hb)
          replace Xx := Lib.hid (Xx.out.below hb)
          replace Hy := Lib.hid (Hy.out.below hb)
          replace Xy := Lib.hid (Xy.out.below hb)
          replace Hg := Lib.hid (Hg.out.below hb)
          replace Xg := Lib.hid (Xg.out.below hb)
          clear hb
          clear Hc))
    have cXA1_0 := XA1.out.2 0
    have cXA1_1 := XA1.out.2 1
    have cXA2_0 := XA2.out.2 0
    have cXA2_1 := XA2.out.2 1
    have cXo_0 := Xo.out.2 0
    have cXo_1 := Xo.out.2 1
    have cXx_0 := Xx.out.2 0
    have cXx_1 := Xx.out.2 1
    have cXy_0 := Xy.out.2 0
    have cXy_1 := Xy.out.2 1
    have cXg_0 := Xg.out.2 0
    have cXg_1 := Xg.out.2 1
    go_wp2_with fail
    clear cXA1_0 cXA1_1 cXA2_0 cXA2_1 cXo_0 cXo_1 cXx_0 cXx_1 cXy_0 cXy_1 cXg_0 cXg_1
    refine (markOwn w.heap.size _ _ t1 _ _ 1 _ (by omega) B.out.size (by omega) (by omega) Hx.out).mono ?_
    rintro e w12 ⟨rfl, hm, hb0, hk⟩
    replace B := Lib.hid (B.out.trans hb0)
    replace HA1 := Lib.hid (HA10.out.below B.out)
    replace HA2 := Lib.hid (HA20.out.below B.out)
    replace HTAB := Lib.hid (HTAB0.out.below B.out)
    replace XA1 := Lib.hid (XA1.out.beside hk (by omega))
    replace XA2 := Lib.hid (XA2.out.beside hk (by omega))
    replace Xo := Lib.hid (Xo.out.beside hk (by omega))
    replace Ho := Lib.hid (Ho.out.beside hk (by omega))
    replace Xx := Lib.hid (Xx.out.beside hk (by omega))
    replace Hy := Lib.hid (Hy.out.beside hk (by omega))
    replace Xy := Lib.hid (Xy.out.beside hk (by omega))
    replace Hg := Lib.hid (Hg.out.beside hk (by omega))
    replace Xg := Lib.hid (Xg.out.beside hk (by omega))
    replace Hx := Lib.hid hm
    have hz12 := hk.1
    clear hb0 hk hm
    clear Hx
    obtain ⟨k1, hk1⟩ : ∃ m : Int, m = 1 + ((t1.size - 1 : Nat) : Int) := ⟨_, rfl⟩
    rw [← hk1]
    have k10 : 0 ≤ k1 := by omega
    have k11 : k1 ≤ 2000000 := by omega
    clear hk1
    have cXA1_0 := XA1.out.2 0
    have cXA1_1 := XA1.out.2 1
    have cXA2_0 := XA2.out.2 0
    have cXA2_1 := XA2.out.2 1
    have cXo_0 := Xo.out.2 0
    have cXo_1 := Xo.out.2 1
    have cXx_0 := Xx.out.2 0
    have cXx_1 := Xx.out.2 1
    have cXy_0 := Xy.out.2 0
    have cXy_1 := Xy.out.2 1
    have cXg_0 := Xg.out.2 0
    have cXg_1 := Xg.out.2 1
    go_wp2_with fail
    clear cXA1_0 cXA1_1 cXA2_0 cXA2_1 cXo_0 cXo_1 cXx_0 cXx_1 cXy_0 cXy_1 cXg_0 cXg_1
    refine (markOwn w.heap.size _ _ t2 _ _ k1 _ (by omega) B.out.size (by omega) (by omega) Hy.out).mono ?_
    rintro e w13 ⟨rfl, hm, hb0, hk⟩
    replace B := Lib.hid (B.out.trans hb0)
    replace HA1 := Lib.hid (HA10.out.below B.out)
    replace HA2 := Lib.hid (HA20.out.below B.out)
    replace HTAB := Lib.hid (HTAB0.out.below B.out)
    replace XA1 := Lib.hid (XA1.out.beside hk (by omega))
    replace XA2 := Lib.hid (XA2.out.beside hk (by omega))
    replace Xo := Lib.hid (Xo.out.beside hk (by omega))
    replace Ho := Lib.hid (Ho.out.beside hk (by omega))
    replace Xx := Lib.hid (Xx.out.beside hk (by omega))
    replace Xy := Lib.hid (Xy.out.beside hk (by omega))
    replace Hg := Lib.hid (Hg.out.beside hk (by omega))
    replace Xg := Lib.hid (Xg.out.beside hk (by omega))
    replace Hy := Lib.hid hm
    have hz13 := hk.1
    clear hb0 hk hm
    clear Hy
    obtain ⟨k2, hk2⟩ : ∃ m : Int, m = k1 + ((t2.size - 1 : Nat) : Int) := ⟨_, rfl⟩
    rw [← hk2]
    have k20 : 0 ≤ k2 := by omega
    have k21 : k2 ≤ 4000000 := by omega
    clear hk2
    have cXA1_0 := XA1.out.2 0
    have cXA1_1 := XA1.out.2 1
    have cXA2_0 := XA2.out.2 0
    have cXA2_1 := XA2.out.2 1
    have cXo_0 := Xo.out.2 0
    have cXo_1 := Xo.out.2 1
    have cXx_0 := Xx.out.2 0
    have cXx_1 := Xx.out.2 1
    have cXy_0 := Xy.out.2 0
    have cXy_1 := Xy.out.2 1
    have cXg_0 := Xg.out.2 0
    have cXg_1 := Xg.out.2 1
    go_wp2_with fail
    clear cXA1_0 cXA1_1 cXA2_0 cXA2_1 cXo_0 cXo_1 cXx_0 cXx_1 cXy_0 cXy_1 cXg_0 cXg_1
    refine (eqTy_all d _ _ (t1.both t2) _ Hg.out.at_ Ho.out.at_).mono ?_
    rintro e w14 ⟨rfl, hb⟩
    have hz14 := hb.size
    try simp only [World.size_alloc] at hz14
    try simp only [World.size_drew] at hz14
    replace B := Lib.hid (below_thru B.out (Nat.le_refl _) hb)
    replace HA1 := Lib.hid (HA1.out.below hb)
    replace HA2 := Lib.hid (HA2.out.below hb)
    replace HTAB := Lib.hid (HTAB.out.below hb)
    replace XA1 := Lib.hid (XA1.out.below hb)
    replace XA2 := Lib.hid (XA2.out.below hb)
    replace Xo := Lib.hid (Xo.out.below hb)
    replace Ho := Lib.hid (Ho.out.below hb)
    replace Xx := Lib.hid (Xx.out.below hb)
    replace Xy := Lib.hid (Xy.out.below hb)
    replace Hg := Lib.hid (Hg.out.below hb)
    replace Xg := Lib.hid (Xg.out.below hb)
    clear hb
    have cXA1_0 := XA1.out.2 0
    have cXA1_1 := XA1.out.2 1
    have cXA2_0 := XA2.out.2 0
    have cXA2_1 := XA2.out.2 1
    have cXo_0 := Xo.out.2 0
    have cXo_1 := Xo.out.2 1
    have cXx_0 := Xx.out.2 0
    have cXx_1 := Xx.out.2 1
    have cXy_0 := Xy.out.2 0
    have cXy_1 := Xy.out.2 1
    have cXg_0 := Xg.out.2 0
    have cXg_1 := Xg.out.2 1
    go_wp2_with fail
    clear cXA1_0 cXA1_1 cXA2_0 cXA2_1 cXo_0 cXo_1 cXx_0 cXx_1 cXy_0 cXy_1 cXg_0 cXg_1
    refine (markOwn w.heap.size _ _ (t1.both t2) _ _ 1 _ (by omega) B.out.size (by omega) (by omega) Hg.out).mono ?_
    rintro e w15 ⟨rfl, hm, hb0, hk⟩
    replace B := Lib.hid (B.out.trans hb0)
    replace HA1 := Lib.hid (HA10.out.below B.out)
    replace HA2 := Lib.hid (HA20.out.below B.out)
    replace HTAB := Lib.hid (HTAB0.out.below B.out)
    replace XA1 := Lib.hid (XA1.out.beside hk (by omega))
    replace XA2 := Lib.hid (XA2.out.beside hk (by omega))
    replace Xo := Lib.hid (Xo.out.beside hk (by omega))
    replace Ho := Lib.hid (Ho.out.beside hk (by omega))
    replace Xx := Lib.hid (Xx.out.beside hk (by omega))
    replace Xy := Lib.hid (Xy.out.beside hk (by omega))
    replace Xg := Lib.hid (Xg.out.beside hk (by omega))
    replace Hg := Lib.hid hm
    have hz15 := hk.1
    clear hb0 hk hm
    obtain ⟨m, hm⟩ : ∃ m : Int, m = 1 + (((t1.both t2).size - 1 : Nat) : Int) := ⟨_, rfl⟩
    rw [← hm]
    have HM := Lib.hid hm
    have hm0 : 0 ≤ m := by omega
    have hm1 : m ≤ 1099511627776 := by omega
    clear hm
    have cXA1_0 := XA1.out.2 0
    have cXA1_1 := XA1.out.2 1
    have cXA2_0 := XA2.out.2 0
    have cXA2_1 := XA2.out.2 1
    have cXo_0 := Xo.out.2 0
    have cXo_1 := Xo.out.2 1
    have cXx_0 := Xx.out.2 0
    have cXx_1 := Xx.out.2 1
    have cXy_0 := Xy.out.2 0
    have cXy_1 := Xy.out.2 1
    have cXg_0 := Xg.out.2 0
    have cXg_1 := Xg.out.2 1
    go_wp2_with fail
    clear cXA1_0 cXA1_1 cXA2_0 cXA2_1 cXo_0 cXo_1 cXx_0 cXx_1 cXy_0 cXy_1 cXg_0 cXg_1
    refine (heldOwn _ _ (t1.both t2) _ _ 1 _ (by omega) (by omega) Hg.out).mono ?_
    rintro e w16 ⟨rfl, hb⟩
    have hz16 := hb.size
    try simp only [World.size_alloc] at hz16
    try simp only [World.size_drew] at hz16
    replace B := Lib.hid (below_thru B.out (Nat.le_refl _) hb)
    replace HA1 := Lib.hid (HA1.out.below hb)
    replace HA2 := Lib.hid (HA2.out.below hb)
    replace HTAB := Lib.hid (HTAB.out.below hb)
    replace XA1 := Lib.hid (XA1.out.below hb)
    replace XA2 := Lib.hid (XA2.out.below hb)
    replace Xo := Lib.hid (Xo.out.below hb)
    replace Ho := Lib.hid (Ho.out.below hb)
    replace Xx := Lib.hid (Xx.out.below hb)
    replace Xy := Lib.hid (Xy.out.below hb)
    replace Hg := Lib.hid (Hg.out.below hb)
    replace Xg := Lib.hid (Xg.out.below hb)
    clear hb
    rw [← HM.out]
    have cXA1_0 := XA1.out.2 0
    have cXA1_1 := XA1.out.2 1
    have cXA2_0 := XA2.out.2 0
    have cXA2_1 := XA2.out.2 1
    have cXo_0 := Xo.out.2 0
    have cXo_1 := Xo.out.2 1
    have cXx_0 := Xx.out.2 0
    have cXx_1 := Xx.out.2 1
    have cXy_0 := Xy.out.2 0
    have cXy_1 := Xy.out.2 1
    have cXg_0 := Xg.out.2 0
    have cXg_1 := Xg.out.2 1
    go_upto_region 31 with fail
    clear cXA1_0 cXA1_1 cXA2_0 cXA2_1 cXo_0 cXo_1 cXx_0 cXx_1 cXy_0 cXy_1 cXg_0 cXg_1
    go_cut [15, 16] (fun s u wx => u = .bool (t1.okay t2) ∧ MadeAt w16 d (t1.both t2) s wx)
    case first =>
      have G := Lib.hid (below_drew w16)
      go_region_held3 (fun w' => w'.cell? ⟨w.heap.size, 0, none⟩ = some (.int .i64 a1k) ∧ w'.cell? ⟨w.heap.size, 1, none⟩ = some (.slice a1a a1n a1c) ∧ w'.cell? ⟨w.heap.size + 1, 0, none⟩ = some (.int .i64 a2k) ∧ w'.cell? ⟨w.heap.size + 1, 1, none⟩ = some (.slice a2a a2n a2c)) (first | exact ⟨(XA1.out.below G.out).2 0, (XA1.out.below G.out).2 1, (XA2.out.below G.out).2 0, (XA2.out.below G.out).2 1⟩ | exact ⟨(XA1.out.below (G.out.alloc G.out.size _)).2 0, (XA1.out.below (G.out.alloc G.out.size _)).2 1, (XA2.out.below (G.out.alloc G.out.size _)).2 0, (XA2.out.below (G.out.alloc G.out.size _)).2 1⟩ | exact ⟨(XA1.out.below (below_alloc _ _).drew).2 0, (XA1.out.below (below_alloc _ _).drew).2 1, (XA2.out.below (below_alloc _ _).drew).2 0, (XA2.out.below (below_alloc _ _).drew).2 1⟩ | exact ⟨(XA1.out.below ((G.out.setCell (by dsimp only; omega) _).setCell (by dsimp only; omega) _)).2 0, (XA1.out.below ((G.out.setCell (by dsimp only; omega) _).setCell (by dsimp only; omega) _)).2 1, (XA2.out.below ((G.out.setCell (by dsimp only; omega) _).setCell (by dsimp only; omega) _)).2 0, (XA2.out.below ((G.out.setCell (by dsimp only; omega) _).setCell (by dsimp only; omega) _)).2 1⟩)
        (first
         | (go_at_call_of 7 (Value.agg #[Value.int IntKind.i64 a1k, Value.slice a1a a1n a1c])
            refine ((toTy_all d).1 _ t1 _ hn1 ?_).mono ?_
            · first | exact HA1.out.below G.out | exact HA1.out.below (G.out.alloc G.out.size _) | exact HA1.out.below (below_alloc _ _).drew
            rintro e wha ⟨s1, fp1, rfl, ht, hf, hb⟩
            have Hs1 := Lib.hid ht.at_
            clear ht hf
            have hzha := hb.size
            try simp only [World.size_drew] at hzha
            try simp only [World.size_alloc] at hzha
            try simp only [World.size_drew] at hzha
            first
              | (have XO : Hid (BoxAt wha w16.heap.size #[.int .i64 0, .slice none 0 0]) := Lib.hid ((BoxAt.new _ _ _).below hb)
                 have XF : Hid (FreeAt wha w16.heap.size) := Lib.hid ((FreeAt.new _ #[.int .i64 0, .slice none 0 0] _).below hb)
                 have G2 := Lib.hid (below_on (G.out.alloc G.out.size _) hb (G.out.alloc G.out.size _).size)
                 clear G
                 have G := G2
                 clear G2)
              | (have XO : Hid (BoxAt wha w16.heap.size #[.int .i64 0, .slice none 0 0]) := Lib.hid (((BoxAt.new _ _ _).below (below_drew _)).below hb)
                 have XF : Hid (FreeAt wha w16.heap.size) := Lib.hid (((FreeAt.new _ #[.int .i64 0, .slice none 0 0] _).below (below_drew _)).below hb)
                 have G2 := Lib.hid (below_on (below_alloc w16 _).drew hb (below_alloc w16 _).drew.size)
                 clear G
                 have G := G2
                 clear G2)
              | (replace G := Lib.hid (below_on G.out hb G.out.size)
                 try replace XO := Lib.hid (XO.out.below hb)
                 try replace XF := Lib.hid (XF.out.below hb))
            clear hb)
         | (go_at_call_of 7 (Value.agg #[Value.int IntKind.i64 a2k, Value.slice a2a a2n a2c])
            refine ((toTy_all d).1 _ t2 _ hn2 ?_).mono ?_
            · first | exact HA2.out.below G.out | exact HA2.out.below (G.out.alloc G.out.size _) | exact HA2.out.below (below_alloc _ _).drew
            rintro e whb ⟨s2, fp2, rfl, ht, hf, hb⟩
            have Hs2 := Lib.hid ht.at_
            clear ht hf
            first | replace Hs1 := Lib.hid (Hs1.out.below hb) | replace Hs1 := Lib.hid ((Hs1.out.below (below_alloc _ _)).below hb)
            have hzhb := hb.size
            try simp only [World.size_drew] at hzhb
            try simp only [World.size_alloc] at hzhb
            try simp only [World.size_drew] at hzhb
            first
              | (have XO : Hid (BoxAt whb wha.heap.size #[.int .i64 0, .slice none 0 0]) := Lib.hid ((BoxAt.new _ _ _).below hb)
                 have XF : Hid (FreeAt whb wha.heap.size) := Lib.hid ((FreeAt.new _ #[.int .i64 0, .slice none 0 0] _).below hb)
                 have G2 := Lib.hid (below_on (G.out.alloc G.out.size _) hb (G.out.alloc G.out.size _).size)
                 clear G
                 have G := G2
                 clear G2)
              | (have XO : Hid (BoxAt whb wha.heap.size #[.int .i64 0, .slice none 0 0]) := Lib.hid (((BoxAt.new _ _ _).below (below_drew _)).below hb)
                 have XF : Hid (FreeAt whb wha.heap.size) := Lib.hid (((FreeAt.new _ #[.int .i64 0, .slice none 0 0] _).below (below_drew _)).below hb)
                 have G2 := Lib.hid (below_on (below_alloc w16 _).drew hb (below_alloc w16 _).drew.size)
                 clear G
                 have G := G2
                 clear G2)
              | (replace G := Lib.hid (below_on G.out hb G.out.size)
                 try replace XO := Lib.hid (XO.out.below hb)
                 try replace XF := Lib.hid (XF.out.below hb))
            clear hb)
         | (go_at_call 8
            refine (implMeetL d _ _ t1 t2 _ hn1 hn2 ?_ ?_ ?_).mono ?_
            · first | exact Hs1.out | exact Hs1.out.below (below_alloc _ _)
            · first | exact Hs2.out | exact Hs2.out.below (below_alloc _ _)
            · first | exact HTAB.out.below G.out | exact HTAB.out.below (G.out.alloc G.out.size _) | exact HTAB.out.below (below_alloc _ _).drew
            rintro e whc ⟨o, fp, rfl, ht, hf, hb⟩
            obtain ⟨ok, oa, on, oc, rfl, HY⟩ := ty_parts ht
            have Ho := Lib.hid (OwnIn.of HY.out hf (Nat.le_refl _))
            clear ht hf HY Hs1 Hs2
            have hzhc := hb.size
            try simp only [World.size_drew] at hzhc
            try simp only [World.size_alloc] at hzhc
            try simp only [World.size_drew] at hzhc
            first
              | (have XO : Hid (BoxAt whc whb.heap.size #[.int .i64 0, .slice none 0 0]) := Lib.hid ((BoxAt.new _ _ _).below hb)
                 have XF : Hid (FreeAt whc whb.heap.size) := Lib.hid ((FreeAt.new _ #[.int .i64 0, .slice none 0 0] _).below hb)
                 have G2 := Lib.hid (below_on (G.out.alloc G.out.size _) hb (G.out.alloc G.out.size _).size)
                 clear G
                 have G := G2
                 clear G2)
              | (have XO : Hid (BoxAt whc whb.heap.size #[.int .i64 0, .slice none 0 0]) := Lib.hid (((BoxAt.new _ _ _).below (below_drew _)).below hb)
                 have XF : Hid (FreeAt whc whb.heap.size) := Lib.hid (((FreeAt.new _ #[.int .i64 0, .slice none 0 0] _).below (below_drew _)).below hb)
                 have G2 := Lib.hid (below_on (below_alloc w16 _).drew hb (below_alloc w16 _).drew.size)
                 clear G
                 have G := G2
                 clear G2)
              | (replace G := Lib.hid (below_on G.out hb G.out.size)
                 try replace XO := Lib.hid (XO.out.below hb)
                 try replace XF := Lib.hid (XF.out.below hb))
            clear hb
            try (have r0 := XO.out.2 0
                 have r1 := XO.out.2 1
                 have q0 := XF.out.2 0
                 have q1 := XF.out.2 1)))
      all_goals go_wp2_with fail
      all_goals go_meet
      all_goals first | refine ⟨rfl, made_new G.out Ho.out ?_⟩ | refine ⟨rfl, made_old G.out Ho.out ?_ ?_ ?_ XO.out⟩
      all_goals ((try simp only [World.size_drew]); (try simp only [World.size_alloc]); (try simp only [World.size_drew]); omega)
    case rest =>
      obtain ⟨w17, hwc⟩ : ∃ u, u = wc := ⟨_, rfl⟩
      subst hwc
      obtain ⟨rfl, ph, hk, ha, hn, hc, rfl, hph, hXh, hHh, hb⟩ := hcut
      have Xh := Lib.hid hXh
      have Hh := Lib.hid hHh
      have hqh := hXh.1
      clear hXh hHh
      have hz17 := hb.size
      replace B := Lib.hid (below_thru B.out (Nat.le_refl _) hb)
      replace HA1 := Lib.hid (HA1.out.below hb)
      replace HA2 := Lib.hid (HA2.out.below hb)
      replace HTAB := Lib.hid (HTAB.out.below hb)
      replace XA1 := Lib.hid (XA1.out.below hb)
      replace XA2 := Lib.hid (XA2.out.below hb)
      replace Xo := Lib.hid (Xo.out.below hb)
      replace Ho := Lib.hid (Ho.out.below hb)
      replace Xx := Lib.hid (Xx.out.below hb)
      replace Xy := Lib.hid (Xy.out.below hb)
      replace Hg := Lib.hid (Hg.out.below hb)
      replace Xg := Lib.hid (Xg.out.below hb)
      clear hb
      have cXA1_0 := XA1.out.2 0
      have cXA1_1 := XA1.out.2 1
      have cXA2_0 := XA2.out.2 0
      have cXA2_1 := XA2.out.2 1
      have cXo_0 := Xo.out.2 0
      have cXo_1 := Xo.out.2 1
      have cXx_0 := Xx.out.2 0
      have cXx_1 := Xx.out.2 1
      have cXy_0 := Xy.out.2 0
      have cXy_1 := Xy.out.2 1
      have cXg_0 := Xg.out.2 0
      have cXg_1 := Xg.out.2 1
      have cXh_0 := Xh.out.2 0
      have cXh_1 := Xh.out.2 1
      go_wp2_with fail
      clear cXA1_0 cXA1_1 cXA2_0 cXA2_1 cXo_0 cXo_1 cXx_0 cXx_1 cXy_0 cXy_1 cXg_0 cXg_1 cXh_0 cXh_1
      refine (eqTy_all d _ _ (t1.both t2) _ Hh.out.at_ Ho.out.at_).mono ?_
      rintro e w18 ⟨rfl, hb⟩
      have hz18 := hb.size
      try simp only [World.size_alloc] at hz18
      try simp only [World.size_drew] at hz18
      replace B := Lib.hid (below_thru B.out (Nat.le_refl _) hb)
      replace HA1 := Lib.hid (HA1.out.below hb)
      replace HA2 := Lib.hid (HA2.out.below hb)
      replace HTAB := Lib.hid (HTAB.out.below hb)
      replace XA1 := Lib.hid (XA1.out.below hb)
      replace XA2 := Lib.hid (XA2.out.below hb)
      replace Xo := Lib.hid (Xo.out.below hb)
      replace Ho := Lib.hid (Ho.out.below hb)
      replace Xx := Lib.hid (Xx.out.below hb)
      replace Xy := Lib.hid (Xy.out.below hb)
      replace Hg := Lib.hid (Hg.out.below hb)
      replace Xg := Lib.hid (Xg.out.below hb)
      replace Xh := Lib.hid (Xh.out.below hb)
      replace Hh := Lib.hid (Hh.out.below hb)
      clear hb
      have cXA1_0 := XA1.out.2 0
      have cXA1_1 := XA1.out.2 1
      have cXA2_0 := XA2.out.2 0
      have cXA2_1 := XA2.out.2 1
      have cXo_0 := Xo.out.2 0
      have cXo_1 := Xo.out.2 1
      have cXx_0 := Xx.out.2 0
      have cXx_1 := Xx.out.2 1
      have cXy_0 := Xy.out.2 0
      have cXy_1 := Xy.out.2 1
      have cXg_0 := Xg.out.2 0
      have cXg_1 := Xg.out.2 1
      have cXh_0 := Xh.out.2 0
      have cXh_1 := Xh.out.2 1
      go_wp2_with fail
      clear cXA1_0 cXA1_1 cXA2_0 cXA2_1 cXo_0 cXo_1 cXx_0 cXx_1 cXy_0 cXy_1 cXg_0 cXg_1 cXh_0 cXh_1
      refine (heldOwn _ _ (t1.both t2) _ _ 1 _ (by omega) (by omega) Hg.out).mono ?_
      rintro e w19 ⟨rfl, hb⟩
      have hz19 := hb.size
      try simp only [World.size_alloc] at hz19
      try simp only [World.size_drew] at hz19
      replace B := Lib.hid (below_thru B.out (Nat.le_refl _) hb)
      replace HA1 := Lib.hid (HA1.out.below hb)
      replace HA2 := Lib.hid (HA2.out.below hb)
      replace HTAB := Lib.hid (HTAB.out.below hb)
      replace XA1 := Lib.hid (XA1.out.below hb)
      replace XA2 := Lib.hid (XA2.out.below hb)
      replace Xo := Lib.hid (Xo.out.below hb)
      replace Ho := Lib.hid (Ho.out.below hb)
      replace Xx := Lib.hid (Xx.out.below hb)
      replace Xy := Lib.hid (Xy.out.below hb)
      replace Hg := Lib.hid (Hg.out.below hb)
      replace Xg := Lib.hid (Xg.out.below hb)
      replace Xh := Lib.hid (Xh.out.below hb)
      replace Hh := Lib.hid (Hh.out.below hb)
      clear hb
      rw [← HM.out]
      have cXA1_0 := XA1.out.2 0
      have cXA1_1 := XA1.out.2 1
      have cXA2_0 := XA2.out.2 0
      have cXA2_1 := XA2.out.2 1
      have cXo_0 := Xo.out.2 0
      have cXo_1 := Xo.out.2 1
      have cXx_0 := Xx.out.2 0
      have cXx_1 := Xx.out.2 1
      have cXy_0 := Xy.out.2 0
      have cXy_1 := Xy.out.2 1
      have cXg_0 := Xg.out.2 0
      have cXg_1 := Xg.out.2 1
      have cXh_0 := Xh.out.2 0
      have cXh_1 := Xh.out.2 1
      go_wp2_with fail
      go_ret
      exact ⟨rfl, B.out⟩
end Go.Proofs.YtimigpdbegfjaaaDoor
