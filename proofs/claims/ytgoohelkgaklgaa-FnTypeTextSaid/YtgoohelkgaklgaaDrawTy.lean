/-
  Proved: the reference's draw of a type gives a type of few parts in new memory; the memory that was there stays as it was, but for the draw's cursor.
-/
import Derived.Test.YtgoohelkgaklgaaCurTy
import Derived.Test.YtgoohelkgaklgaaSpecArrow
import Derived.Test.YtgoohelkgaklgaaSpecPair
namespace Go.Proofs.Ytgoohelkgaklgaa
open Go.RowKit

/-- What drawing a type ends in. -/
def DrawTyEnd (B p m : Nat) (w : World) (e : Ending) (w' : World) : Prop :=
  ∃ v t, e = .returned v ∧ t.size + 1 ≤ 2 ^ (m + 1) ∧ Built w' w.heap.size m v t ∧ Cur B w' p ∧ w.grownBy w' (some p)
theorem BoxAt.grownPast {w w' : World} {p q : Nat} {cs : Array Value} (h : BoxAt w q cs) (hg : w.grownBy w' (some p)) (hne : q ≠ p) : BoxAt w' q cs :=
  h.kept hg.size (hg.block q h.1 (fun e => hne (Option.some.inj e)))
theorem FreeAt.grownPast {w w' : World} {p q : Nat} (h : FreeAt w q) (hg : w.grownBy w' (some p)) (hne : q ≠ p) : FreeAt w' q :=
  ⟨Nat.lt_of_lt_of_le h.1 hg.size, fun j => (World.frozen?_of_block (hg.block q h.1 (fun e => hne (Option.some.inj e)))).trans (h.2 j)⟩
theorem Cur.stored {B p q j : Nat} {w : World} {u : Value} (h : Cur B w p) (hne : q ≠ p) (hB : B ≤ q) : Cur B (w.setCell ⟨q, j, none⟩ u) p :=
  h.past (grown_set w q j u) (fun e => hne (Option.some.inj e).symm) (fun k e => by cases e; exact hB)
theorem Built.form {w : World} {base d : Nat} {v : Value} {t : Ty} (h : Built w base d v t) : ∃ k a n c, v = .agg #[.int .i64 k, .slice a n c] := by
  obtain ⟨k, sl, ts, rfl, rfl, h0, h1, h⟩ := h
  obtain ⟨a, c, rfl⟩ := h.form
  exact ⟨_, _, _, _, rfl⟩
theorem Built.far {w w' : World} {base d p : Nat} {v : Value} {t : Ty} (h : Built w base d v t) (hg : w.grownBy w' (some p)) (hp : p < base) : Built w' base d v t := by
  obtain ⟨k, sl, ts, rfl, rfl, h0, h1, h⟩ := h
  exact ⟨k, sl, ts, rfl, rfl, h0, h1, h.kept hg.size fun b h2 h3 => hg.block b h3 (fun e => by have := Option.some.inj e; omega)⟩
theorem Built.base {w : World} {base base' d : Nat} {v : Value} {t : Ty} (h : Built w base d v t) (hp : base' ≤ base) : Built w base' d v t := by
  obtain ⟨k, sl, ts, rfl, rfl, h0, h1, h⟩ := h
  exact ⟨k, sl, ts, rfl, rfl, h0, h1, h.lower hp⟩
theorem two_small {m : Nat} (hm : m ≤ 10) {n : Nat} (h : n + 1 ≤ 2 ^ (m + 1)) : n ≤ 1048577 := by
  have := Nat.pow_le_pow_right (n := 2) (by omega) (show m + 1 ≤ 11 by omega)
  omega
def leafKinds : List Int := [2, 3, 1, 2]
theorem leaf_kind {x : Value} (h : x ∈ leafKinds.map (Value.int .i64)) : ∃ k : Int, x = .int .i64 k ∧ 0 ≤ k ∧ k ≤ 255 := by
  obtain ⟨k, hk, rfl⟩ := List.mem_map.1 h
  refine ⟨k, rfl, ?_⟩
  simp [leafKinds] at hk
  omega
set_option maxRecDepth 100000 in
set_option maxHeartbeats 2000000 in
theorem drawTy (B p : Nat) : ∀ (m : Nat) (x : Int) (w : World), x = (m : Int) + 1 → m ≤ 10 → Cur B w p →
    Calls Try.prog 31 #[.pointer (some ⟨p, 0, none⟩), .int .i64 x] w (DrawTyEnd B p m w)
  | 0, x, w, hx, _, h => by
    obtain rfl : x = 1 := by omega
    clear hx
    have HP := Lib.hid h.inside
    have HL := Lib.hid h.lo
    have HC := Lib.hid (h.keeps (World.grownBy_alloc w (.cells #[.int .i64 0, .slice none 0 0] 26) none)); clear h
    have XR : Hid (BoxAt (w.alloc (.cells #[.int .i64 0, .slice none 0 0] 26)) w.heap.size #[.int .i64 0, .slice none 0 0]) := BoxAt.new _ _ _
    have XF : Hid (FreeAt (w.alloc (.cells #[.int .i64 0, .slice none 0 0] 26)) w.heap.size) := FreeAt.new _ _ _
    have G := Lib.hid (World.grownBy_alloc w (.cells #[.int .i64 0, .slice none 0 0] 26) (some p))
    go_enter Try.func31, Try.ntmps31
    go_wp2_with fail
    refine (curPickInt B p (w.heap.size + 1) 4 leafKinds (by decide) (by decide) (by have := HC.out.inside; have := HP.out; omega) _ _ _ (by rw [show w.heap.size + 1 = (w.alloc (.cells #[.int .i64 0, .slice none 0 0] 26)).heap.size from by simp]; exact heap_alloc_new _ _) rfl (HC.out.keeps (World.grownBy_alloc (w.alloc (.cells #[.int .i64 0, .slice none 0 0] 26)) _ none))).mono ?_
    rintro e w9 ⟨y, rfl, hy, hc9, hg9⟩
    obtain ⟨k, rfl, hk0, hk1⟩ := leaf_kind hy
    clear hy
    have XR9 := (XR.out.below (below_alloc _ _)).grownPast hg9 (by have := HP.out; omega)
    have XF9 := (XF.out.below (below_alloc _ _)).grownPast hg9 (by have := HP.out; omega)
    have G9 := Lib.hid ((G.out.trans (World.grownBy_alloc _ _ _)).trans hg9)
    have HC9 := Lib.hid hc9
    clear hc9 hg9
    have r0 := XR9.2 0
    have r1 := XR9.2 1
    have q0 := XF9.2 0
    have q1 := XF9.2 1
    have XR9 := Lib.hid XR9
    have XF9 := Lib.hid XF9
    go_wp2_with fail
    refine bodyPost_ret (v := .agg #[.int .i64 k, .slice none 0 0]) (by simp [results, Try.results31, go_sem, r0, r1]) rfl ?_
    have hpw := HP.out
    have hlo := HL.out
    exact ⟨_, .node k [], rfl, by simp only [Ty.size, Ty.sizes]; rw [Nat.pow_succ]; have := Nat.one_le_two_pow (n := 0); omega, ⟨k, _, [], rfl, rfl, hk0, hk1, CopyRow.nil _ _ _⟩, (HC9.out.stored (by omega) (by omega)).stored (by omega) (by omega), grown_own (grown_own G9.out (grown_set _ w.heap.size 0 _) (fun k e => by cases e; exact Nat.le_refl _)) (grown_set _ w.heap.size 1 _) (fun k e => by cases e; exact Nat.le_refl _)⟩
  | m + 1, x, w, hx, hm, h => by
    have IH : Hid (∀ (x : Int) (w : World), x = (m : Int) + 1 → m ≤ 10 → Cur B w p → Calls Try.prog 31 #[.pointer (some ⟨p, 0, none⟩), .int .i64 x] w (DrawTyEnd B p m w)) := drawTy B p m
    have hx1 : 2 ≤ x := by omega
    have hx2 : x ≤ 100 := by omega
    have HX : Hid (x - 1 = (m : Int) + 1) := by show _ = _; omega
    clear hx
    have HP := Lib.hid h.inside
    have HL := Lib.hid h.lo
    have HC := Lib.hid (h.keeps (World.grownBy_alloc w (.cells #[.int .i64 0, .slice none 0 0] 26) none)); clear h
    have XR : Hid (BoxAt (w.alloc (.cells #[.int .i64 0, .slice none 0 0] 26)) w.heap.size #[.int .i64 0, .slice none 0 0]) := BoxAt.new _ _ _
    have XF : Hid (FreeAt (w.alloc (.cells #[.int .i64 0, .slice none 0 0] 26)) w.heap.size) := FreeAt.new _ _ _
    have G := Lib.hid (World.grownBy_alloc w (.cells #[.int .i64 0, .slice none 0 0] 26) (some p))
    go_enter Try.func31, Try.ntmps31
    go_wp2_with fail
    refine (curOnce B p 2 (by omega) (by omega) _ HC.out).mono ?_
    rintro e w1 ⟨ho, hc1, hg1⟩
    replace HC := Lib.hid hc1
    replace XR := Lib.hid (XR.out.grownPast hg1 (by have := HP.out; omega))
    replace XF := Lib.hid (XF.out.grownPast hg1 (by have := HP.out; omega))
    replace G := Lib.hid (G.out.trans hg1)
    have hz1 : w.heap.size + 1 ≤ w1.heap.size := XR.out.1
    clear hc1 hg1
    rcases ho with rfl | rfl
    · go_wp2_with fail
      refine (curPickInt B p w1.heap.size 4 leafKinds (by decide) (by decide) (by have := HC.out.inside; have := HP.out; omega) _ _ _ (heap_alloc_new _ _) rfl (HC.out.keeps (World.grownBy_alloc w1 _ none))).mono ?_
      rintro e w9 ⟨y, rfl, hy, hc9, hg9⟩
      obtain ⟨k, rfl, hk0, hk1⟩ := leaf_kind hy
      clear hy
      have XR9 := (XR.out.below (below_alloc _ _)).grownPast hg9 (by have := HP.out; omega)
      have XF9 := (XF.out.below (below_alloc _ _)).grownPast hg9 (by have := HP.out; omega)
      have G9 := Lib.hid ((G.out.trans (World.grownBy_alloc _ _ _)).trans hg9)
      have HC9 := Lib.hid hc9
      clear hc9 hg9
      have r0 := XR9.2 0
      have r1 := XR9.2 1
      have q0 := XF9.2 0
      have q1 := XF9.2 1
      have XR9 := Lib.hid XR9
      have XF9 := Lib.hid XF9
      go_wp2_with fail
      refine bodyPost_ret (v := .agg #[.int .i64 k, .slice none 0 0]) (by simp [results, Try.results31, go_sem, r0, r1]) rfl ?_
      have hpw := HP.out
      have hlo := HL.out
      exact ⟨_, .node k [], rfl, by simp only [Ty.size, Ty.sizes]; rw [Nat.pow_succ]; have := Nat.one_le_two_pow (n := m + 1); omega, ⟨k, _, [], rfl, rfl, hk0, hk1, CopyRow.nil _ _ _⟩, (HC9.out.stored (by omega) (by omega)).stored (by omega) (by omega), grown_own (grown_own G9.out (grown_set _ w.heap.size 0 _) (fun k e => by cases e; exact Nat.le_refl _)) (grown_set _ w.heap.size 1 _) (fun k e => by cases e; exact Nat.le_refl _)⟩
    · go_wp2_with fail
      refine (IH.out _ _ HX.out (by omega) HC.out).mono ?_
      rintro e w2 ⟨v2, t1, rfl, hn1, hb2, hc2, hg2⟩
      obtain ⟨ak, aa, an, ac, rfl⟩ := hb2.form
      have hz2 := hg2.size
      have hs1 := two_small (by omega) hn1
      have HT1 := Lib.hid (hb2.below (below_alloc w2 (.cells #[.int .i64 ak, .slice aa an ac] 26)))
      have XA : Hid (BoxAt (w2.alloc (.cells #[.int .i64 ak, .slice aa an ac] 26)) w2.heap.size #[.int .i64 ak, .slice aa an ac]) := BoxAt.new _ _ _
      replace HC := Lib.hid (hc2.beside (below_alloc w2 (.cells #[.int .i64 ak, .slice aa an ac] 26)))
      replace XR := Lib.hid ((XR.out.grownPast hg2 (by have := HP.out; omega)).below (below_alloc w2 (.cells #[.int .i64 ak, .slice aa an ac] 26)))
      replace XF := Lib.hid ((XF.out.grownPast hg2 (by have := HP.out; omega)).below (below_alloc w2 (.cells #[.int .i64 ak, .slice aa an ac] 26)))
      replace G := Lib.hid (grown_thru (G.out.trans hg2) (below_alloc w2 (.cells #[.int .i64 ak, .slice aa an ac] 26)))
      clear hb2 hc2 hg2
      go_wp2_with fail
      refine (IH.out _ _ HX.out (by omega) HC.out).mono ?_
      rintro e w3 ⟨v3, t2, rfl, hn2, hb3, hc3, hg3⟩
      obtain ⟨bk, ba, bn, bc, rfl⟩ := hb3.form
      have hz3 := hg3.size
      simp only [World.size_alloc] at hz3
      have hs2 := two_small (by omega) hn2
      have HT2 := Lib.hid ((hb3.base (base' := w2.heap.size) (by simp)).below (below_alloc w3 (.cells #[.int .i64 bk, .slice ba bn bc] 26)))
      replace HT1 := Lib.hid ((HT1.out.far hg3 (by have := HP.out; omega)).below (below_alloc w3 (.cells #[.int .i64 bk, .slice ba bn bc] 26)))
      replace XA := Lib.hid ((XA.out.grownPast hg3 (by have := HP.out; omega)).below (below_alloc w3 (.cells #[.int .i64 bk, .slice ba bn bc] 26)))
      have XB : Hid (BoxAt (w3.alloc (.cells #[.int .i64 bk, .slice ba bn bc] 26)) w3.heap.size #[.int .i64 bk, .slice ba bn bc]) := BoxAt.new _ _ _
      replace HC := Lib.hid (hc3.beside (below_alloc w3 (.cells #[.int .i64 bk, .slice ba bn bc] 26)))
      replace XR := Lib.hid ((XR.out.grownPast hg3 (by have := HP.out; omega)).below (below_alloc w3 (.cells #[.int .i64 bk, .slice ba bn bc] 26)))
      replace XF := Lib.hid ((XF.out.grownPast hg3 (by have := HP.out; omega)).below (below_alloc w3 (.cells #[.int .i64 bk, .slice ba bn bc] 26)))
      replace G := Lib.hid (grown_thru (G.out.trans hg3) (below_alloc w3 (.cells #[.int .i64 bk, .slice ba bn bc] 26)))
      clear hb3 hc3 hg3
      go_wp2_with fail
      refine (curOnce B p 3 (by omega) (by omega) _ HC.out).mono ?_
      rintro e w5 ⟨ho, hc5, hg5⟩
      have hz5 := hg5.size
      simp only [World.size_alloc] at hz5
      replace HC := Lib.hid hc5
      replace XR := Lib.hid (XR.out.grownPast hg5 (by have := HP.out; omega))
      replace XF := Lib.hid (XF.out.grownPast hg5 (by have := HP.out; omega))
      replace XA := Lib.hid (XA.out.grownPast hg5 (by have := HP.out; omega))
      replace XB := Lib.hid (XB.out.grownPast hg5 (by have := HP.out; omega))
      replace HT1 := Lib.hid (HT1.out.far hg5 (by have := HP.out; omega))
      replace HT2 := Lib.hid (HT2.out.far hg5 (by have := HP.out; omega))
      replace G := Lib.hid (G.out.trans hg5)
      clear hc5 hg5
      have a0 := XA.out.2 0
      have a1 := XA.out.2 1
      have b0 := XB.out.2 0
      have b1 := XB.out.2 1
      rcases ho with rfl | rfl
      · go_wp2_with fail
        refine (specPairBuilt (m + 1) _ _ t1 t2 _ hs1 hs2 HT1.out.at_ HT2.out.at_).mono ?_
        rintro e w6 ⟨v6, rfl, hbt, hb⟩
        obtain ⟨ck, ca, cn, cc, rfl⟩ := hbt.form
        have HT6 := Lib.hid (hbt.base (by omega))
        clear hbt
        have XR6 := XR.out.below hb
        have XF6 := XF.out.below hb
        have G6 := Lib.hid (grown_thru G.out hb)
        have HC6 := Lib.hid (HC.out.beside hb)
        clear hb
        have r0 := XR6.2 0
        have r1 := XR6.2 1
        have q0 := XF6.2 0
        have q1 := XF6.2 1
        have XR6 := Lib.hid XR6
        have XF6 := Lib.hid XF6
        go_wp2_with fail
        refine bodyPost_ret (v := .agg #[.int .i64 ck, .slice ca cn cc]) (by simp [results, Try.results31, go_sem, r0, r1]) rfl ?_
        have hpw := HP.out
        have hlo := HL.out
        exact ⟨_, _, rfl, by simp only [Ty.size, Ty.sizes]; rw [Nat.pow_succ]; omega, ((HT6.out.far (grown_set _ w.heap.size 0 _) (by omega)).far (grown_set _ w.heap.size 1 _) (by omega)).base (by omega), (HC6.out.stored (by omega) (by omega)).stored (by omega) (by omega), grown_own (grown_own G6.out (grown_set _ w.heap.size 0 _) (fun k e => by cases e; exact Nat.le_refl _)) (grown_set _ w.heap.size 1 _) (fun k e => by cases e; exact Nat.le_refl _)⟩
      · go_wp2_with fail
        refine (specArrowBuilt (m + 1) _ _ t1 t2 _ hs1 hs2 HT1.out.at_ HT2.out.at_).mono ?_
        rintro e w6 ⟨v6, rfl, hbt, hb⟩
        obtain ⟨ck, ca, cn, cc, rfl⟩ := hbt.form
        have HT6 := Lib.hid (hbt.base (by omega))
        clear hbt
        have XR6 := XR.out.below hb
        have XF6 := XF.out.below hb
        have G6 := Lib.hid (grown_thru G.out hb)
        have HC6 := Lib.hid (HC.out.beside hb)
        clear hb
        have r0 := XR6.2 0
        have r1 := XR6.2 1
        have q0 := XF6.2 0
        have q1 := XF6.2 1
        have XR6 := Lib.hid XR6
        have XF6 := Lib.hid XF6
        go_wp2_with fail
        refine bodyPost_ret (v := .agg #[.int .i64 ck, .slice ca cn cc]) (by simp [results, Try.results31, go_sem, r0, r1]) rfl ?_
        have hpw := HP.out
        have hlo := HL.out
        exact ⟨_, _, rfl, by simp only [Ty.size, Ty.sizes]; rw [Nat.pow_succ]; omega, ((HT6.out.far (grown_set _ w.heap.size 0 _) (by omega)).far (grown_set _ w.heap.size 1 _) (by omega)).base (by omega), (HC6.out.stored (by omega) (by omega)).stored (by omega) (by omega), grown_own (grown_own G6.out (grown_set _ w.heap.size 0 _) (fun k e => by cases e; exact Nat.le_refl _)) (grown_set _ w.heap.size 1 _) (fun k e => by cases e; exact Nat.le_refl _)⟩
end Go.Proofs.Ytgoohelkgaklgaa
