/-
  Proved: the law FnExactParseType answers true for every text, and leaves the memory that was there as it was.
-/
import Derived.Test.YtgoohelkgaklgaaImplTypeAt
import Derived.Test.YtgoohelkgaklgaaSpecParseType
import Derived.Test.YtgoohelkgaklgaaEqType
import Derived.Test.YtgoohelkgaklgaaOwnIn
namespace Go.Proofs.Ytgoohelkgaklgaa
open Go.RowKit

set_option maxRecDepth 100000 in
set_option maxHeartbeats 4000000 in
theorem parseTypeWalk (s : ByteArray) (w : World) (hs : s.size ≤ maxLen) :
    Calls Try.prog 4 #[.string s] w fun e w' => e = .returned (.bool true) ∧ Below w.heap.size w w' := by
  unfold maxLen at hs
  by_cases h : (1048576 : Int) < (s.size : Int)
  · go_enter Try.func4, Try.ntmps4
    go_wp2_with fail
    go_ret
    exact ⟨rfl, Below.refl _ _⟩
  · have B : Hid (Below w.heap.size w w) := Below.refl _ _
    go_enter Try.func4, Try.ntmps4
    go_wp2_with fail
    refine (specParseType s w (by omega)).mono ?_
    rintro e w1 ⟨ok, t, ok, oa, on, oc, of, rfl, ht, hf, hb, h1, h2⟩
    have hzw1 := hb.size
    have Ho : Hid (OwnIn w1 25 (.agg #[.int .i64 ok, .slice oa on oc]) t w.heap.size w1.heap.size) := Lib.hid ⟨_, ht, hf, Nat.le_refl _⟩
    replace B := Lib.hid (below_thru B.out (Nat.le_refl _) hb)
    clear hb ht hf
    have hl := below_alloc w1 (.cells #[.int .i64 ok, .slice oa on oc] 26)
    replace B := Lib.hid (below_thru B.out (Nat.le_refl _) hl)
    replace Ho := Lib.hid (Ho.out.below hl)
    have Xo : Hid (BoxAt (w1.alloc (.cells #[.int .i64 ok, .slice oa on oc] 26)) w1.heap.size #[.int .i64 ok, .slice oa on oc]) := BoxAt.new _ _ _
    clear hl
    go_wp2_with fail
    refine (implParseType s _ (by omega)).mono ?_
    rintro e w2 ⟨ok2, t2, gk, ga, gn, gc, gf, rfl, ht, hf, hb, g1, g2⟩
    have hzw2 := hb.size
    have Hg : Hid (OwnIn w2 25 (.agg #[.int .i64 gk, .slice ga gn gc]) t2 (w1.alloc (.cells #[.int .i64 ok, .slice oa on oc] 26)).heap.size w2.heap.size) := Lib.hid ⟨_, ht, hf, Nat.le_refl _⟩
    replace B := Lib.hid (below_thru B.out (Nat.le_refl _) hb)
    replace Ho := Lib.hid (Ho.out.below hb)
    replace Xo := Lib.hid (Xo.out.below hb)
    clear hb ht hf
    have hl := below_alloc w2 (.cells #[.int .i64 gk, .slice ga gn gc] 26)
    replace B := Lib.hid (below_thru B.out (Nat.le_refl _) hl)
    replace Ho := Lib.hid (Ho.out.below hl)
    replace Xo := Lib.hid (Xo.out.below hl)
    replace Hg := Lib.hid (Hg.out.below hl)
    have Xg : Hid (BoxAt (w2.alloc (.cells #[.int .i64 gk, .slice ga gn gc] 26)) w2.heap.size #[.int .i64 gk, .slice ga gn gc]) := BoxAt.new _ _ _
    clear hl
    obtain ⟨hok, htt⟩ := ParseTyEnd.agree g1 g2 h1 h2
    subst hok
    subst htt
    have hts : t2.size ≤ 800 := by
      cases ok2 with
      | true => exact valid_size (g1 rfl).1
      | false => rw [(g2 rfl).1]; simp [Ty.size, Ty.sizes]
    clear h1 h2
    have HA := Lib.hid g1
    have HA2 := Lib.hid g2
    clear g1 g2
    have n2 : (ok2 != ok2) = false := by cases ok2 <;> rfl
    have cg0 := Xg.out.2 0
    have cg1 := Xg.out.2 1
    have co0 := Xo.out.2 0
    have co1 := Xo.out.2 1
    go_wp2_with fail
    clear cg0 cg1 co0 co1
    refine (eqTy_all 25 _ _ t2 _ Hg.out.at_ Ho.out.at_).mono ?_
    rintro e w3 ⟨rfl, hb⟩
    replace B := Lib.hid (below_thru B.out (Nat.le_refl _) hb)
    replace Ho := Lib.hid (Ho.out.below hb)
    replace Xo := Lib.hid (Xo.out.below hb)
    replace Hg := Lib.hid (Hg.out.below hb)
    replace Xg := Lib.hid (Xg.out.below hb)
    clear hb
    have cg0 := Xg.out.2 0
    have cg1 := Xg.out.2 1
    go_wp2_with fail
    clear cg0 cg1
    refine (markOwn w.heap.size 25 _ t2 _ _ 1 _ (by simp; omega) B.out.size (by omega) (by omega) Hg.out).mono ?_
    rintro e w4 ⟨rfl, hm, hb0, hk⟩
    replace B := Lib.hid (B.out.trans hb0)
    replace Ho := Lib.hid (Ho.out.beside hk (Or.inl (by simp)))
    replace Xo := Lib.hid (Xo.out.beside hk (Or.inl (by simp)))
    replace Xg := Lib.hid (Xg.out.beside hk (Or.inr (Nat.le_refl _)))
    replace Hg := Lib.hid hm
    clear hm hb0 hk
    obtain ⟨k1, hk1⟩ : ∃ k : Int, k = 1 + ((t2.size - 1 : Nat) : Int) := ⟨_, rfl⟩
    have HK := Lib.hid hk1
    have hk0 : 0 < k1 := by omega
    have hk2 : k1 ≤ 1099511627776 := by omega
    rw [← hk1]
    clear hk1
    have hkn : decide (k1 < 0) = false := by simp; omega
    have n3 : (k1 != k1) = false := by simp
    have cg0 := Xg.out.2 0
    have cg1 := Xg.out.2 1
    go_wp2_with fail
    clear cg0 cg1
    refine (heldOwn 25 _ t2 _ _ 1 _ (by omega) (by omega) Hg.out).mono ?_
    rintro e w5 ⟨rfl, hb⟩
    rw [← HK.out]
    replace B := Lib.hid (below_thru B.out (Nat.le_refl _) hb)
    replace Ho := Lib.hid (Ho.out.below hb)
    replace Xo := Lib.hid (Xo.out.below hb)
    replace Hg := Lib.hid (Hg.out.below hb)
    replace Xg := Lib.hid (Xg.out.below hb)
    clear hb
    go_wp2_with fail
    refine (implParseType s _ (by omega)).mono ?_
    rintro e w6 ⟨ok3, t3, pk, pa, pn, pc, pf, rfl, ht, hf, hb, h1, h2⟩
    obtain ⟨hok, htt⟩ := ParseTyEnd.agree HA.out HA2.out h1 h2
    subst hok
    subst htt
    clear h1 h2
    have Hp : Hid (TyAt w6 25 (.agg #[.int .i64 pk, .slice pa pn pc]) t2) := Lib.hid ht.at_
    replace B := Lib.hid (below_thru B.out (Nat.le_refl _) hb)
    replace Ho := Lib.hid (Ho.out.below hb)
    replace Xo := Lib.hid (Xo.out.below hb)
    replace Hg := Lib.hid (Hg.out.below hb)
    replace Xg := Lib.hid (Xg.out.below hb)
    clear hb ht hf
    have hl := below_alloc w6 (.cells #[.int .i64 pk, .slice pa pn pc] 26)
    replace B := Lib.hid (below_thru B.out (Nat.le_refl _) hl)
    replace Ho := Lib.hid (Ho.out.below hl)
    replace Xo := Lib.hid (Xo.out.below hl)
    replace Hg := Lib.hid (Hg.out.below hl)
    replace Xg := Lib.hid (Xg.out.below hl)
    replace Hp := Lib.hid (Hp.out.below hl)
    have Xp : Hid (BoxAt (w6.alloc (.cells #[.int .i64 pk, .slice pa pn pc] 26)) w6.heap.size #[.int .i64 pk, .slice pa pn pc]) := BoxAt.new _ _ _
    clear hl
    have cp0 := Xp.out.2 0
    have cp1 := Xp.out.2 1
    have co0 := Xo.out.2 0
    have co1 := Xo.out.2 1
    go_wp2_with fail
    clear cp0 cp1 co0 co1
    refine (eqTy_all 25 _ _ t2 _ Hp.out Ho.out.at_).mono ?_
    rintro e w7 ⟨rfl, hb⟩
    replace B := Lib.hid (below_thru B.out (Nat.le_refl _) hb)
    replace Ho := Lib.hid (Ho.out.below hb)
    replace Xo := Lib.hid (Xo.out.below hb)
    replace Hg := Lib.hid (Hg.out.below hb)
    replace Xg := Lib.hid (Xg.out.below hb)
    replace Hp := Lib.hid (Hp.out.below hb)
    replace Xp := Lib.hid (Xp.out.below hb)
    clear hb
    have cg0 := Xg.out.2 0
    have cg1 := Xg.out.2 1
    go_wp2_with fail
    clear cg0 cg1
    refine (heldOwn 25 _ t2 _ _ 1 _ (by omega) (by omega) Hg.out).mono ?_
    rintro e w8 ⟨rfl, hb⟩
    rw [← HK.out]
    replace B := Lib.hid (below_thru B.out (Nat.le_refl _) hb)
    replace Ho := Lib.hid (Ho.out.below hb)
    replace Xo := Lib.hid (Xo.out.below hb)
    replace Hg := Lib.hid (Hg.out.below hb)
    replace Xg := Lib.hid (Xg.out.below hb)
    replace Hp := Lib.hid (Hp.out.below hb)
    replace Xp := Lib.hid (Xp.out.below hb)
    clear hb
    go_wp2_with fail
    go_ret
    exact ⟨rfl, B.out⟩
end Go.Proofs.Ytgoohelkgaklgaa
