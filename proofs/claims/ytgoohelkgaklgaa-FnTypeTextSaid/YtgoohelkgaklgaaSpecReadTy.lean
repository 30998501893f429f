/-
  Proved: spec.l4Type reads a type from a text as rdS does; it changes the reader alone, and what it returns lies in new memory.
-/
import Derived.Test.YtgoohelkgaklgaaSpecTake
import Derived.Test.YtgoohelkgaklgaaTypeLeaves
import Derived.Test.YtgoohelkgaklgaaDrawTy
import Derived.Test.YtgoohelkgaklgaaGround
import Derived.Test.YtgoohelkgaklgaaPut
import Derived.Test.YtgoohelkgaklgaaTwoRow
import Derived.Deep.DeepCutAuto
namespace Go.Proofs.Ytgoohelkgaklgaa
open Go.RowKit

/-- What reading a type at the place p of s ends in. -/
def ReadEnd (R n : Nat) (s : ByteArray) (p : Nat) (w : World) (e : Ending) (w' : World) : Prop :=
  w.grownBy w' (some R) ∧
  match rdS n (s.data.toList.drop p) with
  | some (t, r) => ∃ k a m c q fp, e = .returned (.agg #[.int .i64 k, .slice a m c]) ∧ TyOwn w' (n + 1) (.agg #[.int .i64 k, .slice a m c]) t fp ∧ Fp w.heap.size w'.heap.size fp ∧ r = s.data.toList.drop q ∧ q ≤ s.size ∧ RdAt w' R s q false
  | none => ∃ k a m c q, e = .returned (.agg #[.int .i64 k, .slice a m c]) ∧ RdAt w' R s q true
theorem read_leaf {R n p q : Nat} {s : ByteArray} {w w' : World} {k : Int} (hg : w.grownBy w' (some R)) (e : rdS n (s.data.toList.drop p) = some (.node k [], s.data.toList.drop q)) (hq : q ≤ s.size) (hr : RdAt w' R s q false) (h0 : 0 ≤ k) (h1 : k ≤ 255) :
    ReadEnd R n s p w (.returned (.agg #[.int .i64 k, .slice none 0 0])) w' := by
  refine ⟨hg, ?_⟩
  rw [e]
  exact ⟨k, none, 0, 0, q, [], rfl, own_zero _ _ _ (by omega) (by omega), Fp.nil _ _, rfl, hq, hr⟩
theorem read_bad {R n p q : Nat} {s : ByteArray} {w w' : World} {k : Int} {a : Option Addr} {m c : Nat} (hg : w.grownBy w' (some R)) (e : rdS n (s.data.toList.drop p) = none) (hr : RdAt w' R s q true) :
    ReadEnd R n s p w (.returned (.agg #[.int .i64 k, .slice a m c])) w' := by
  refine ⟨hg, ?_⟩
  rw [e]
  exact ⟨k, a, m, c, q, rfl, hr⟩
theorem RdAt.past {R p : Nat} {s : ByteArray} {bad : Bool} {w w' : World} (h : RdAt w R s p bad) (hg : w.grownBy w' none) : RdAt w' R s p bad := by
  unfold RdAt; rw [hg.block R h.in (by simp)]; exact h
theorem RdAt.set {R p q j : Nat} {s : ByteArray} {bad : Bool} {w : World} {u : Value} (h : RdAt w R s p bad) (hne : R ≠ q) : RdAt (w.setCell ⟨q, j, none⟩ u) R s p bad := by
  unfold RdAt; rw [heap_setCell_other _ _ _ _ hne]; exact h
theorem drop_at (s : ByteArray) (p : Nat) (h : p < s.size) : s.data.toList.drop p = s[p] :: s.data.toList.drop (p + 1) := by
  have h2 : p < s.data.toList.length := by rw [Array.length_toList]; exact h
  rw [List.drop_eq_getElem_cons h2]; rfl
theorem drop_end (s : ByteArray) (p : Nat) (h : ¬ p < s.size) : s.data.toList.drop p = [] := by
  apply List.drop_eq_nil_of_le
  rw [Array.length_toList]
  exact Nat.le_of_not_lt h
theorem rdS_end (n : Nat) : rdS n [] = none := by cases n <;> rfl
theorem rdS_leaf {n : Nat} {c : UInt8} {r : List UInt8} {k : Int} (h : leafOf c = some k) : rdS n (c :: r) = some (.node k [], r) := by
  cases n <;> simp [rdS, h]
theorem rdS_none {n : Nat} {c : UInt8} {r : List UInt8} (h : leafOf c = none) (hc : c ≠ 40) : rdS n (c :: r) = none := by
  cases n <;> simp [rdS, h, hc]
theorem rdS_deep {r : List UInt8} {c : UInt8} (h : leafOf c = none) : rdS 0 (c :: r) = none := by simp [rdS, h]
theorem rdS_first {n : Nat} {r : List UInt8} (h : rdS n r = none) : rdS (n + 1) (40 :: r) = none := by simp [rdS, leafOf_open, h]
theorem rdS_cut {n : Nat} {r : List UInt8} {t : Ty} (h : rdS n r = some (t, [])) : rdS (n + 1) (40 :: r) = none := by simp [rdS, leafOf_open, h]
theorem rdS_sign {n : Nat} {r r1 : List UInt8} {t : Ty} {d : UInt8} (h : rdS n r = some (t, d :: r1)) (hd : signOf d = none) : rdS (n + 1) (40 :: r) = none := by simp [rdS, leafOf_open, h, hd]
theorem rdS_second {n : Nat} {r r1 : List UInt8} {t : Ty} {d : UInt8} {k : Int} (h : rdS n r = some (t, d :: r1)) (hd : signOf d = some k) (h2 : rdS n r1 = none) : rdS (n + 1) (40 :: r) = none := by simp [rdS, leafOf_open, h, hd, h2]
theorem rdS_short {n : Nat} {r r1 : List UInt8} {t u : Ty} {d : UInt8} {k : Int} (h : rdS n r = some (t, d :: r1)) (hd : signOf d = some k) (h2 : rdS n r1 = some (u, [])) : rdS (n + 1) (40 :: r) = none := by simp [rdS, leafOf_open, h, hd, h2]
theorem rdS_close {n : Nat} {r r1 r2 : List UInt8} {t u : Ty} {d c : UInt8} {k : Int} (h : rdS n r = some (t, d :: r1)) (hd : signOf d = some k) (h2 : rdS n r1 = some (u, c :: r2)) (hc : c ≠ 41) : rdS (n + 1) (40 :: r) = none := by simp [rdS, leafOf_open, h, hd, h2, hc]
theorem rdS_node {n : Nat} {r r1 r2 : List UInt8} {t u : Ty} {d : UInt8} {k : Int} (h : rdS n r = some (t, d :: r1)) (hd : signOf d = some k) (h2 : rdS n r1 = some (u, 41 :: r2)) : rdS (n + 1) (40 :: r) = some (.node k [t, u], r2) := by simp [rdS, leafOf_open, h, hd, h2]
theorem noleaf {s : ByteArray} {p : Nat} (c63 : ¬ ∃ h : p < s.size, s[p] = 63) (c78 : ¬ ∃ h : p < s.size, s[p] = 78) (c66 : ¬ ∃ h : p < s.size, s[p] = 66) (h : p < s.size) : leafOf s[p] = none := by
  unfold leafOf
  rw [if_neg (fun e => c63 ⟨h, e⟩), if_neg (fun e => c78 ⟨h, e⟩), if_neg (fun e => c66 ⟨h, e⟩)]
theorem nosign {s : ByteArray} {q : Nat} (c62 : ¬ ∃ h : q < s.size, s[q] = 62) (c42 : ¬ ∃ h : q < s.size, s[q] = 42) (h : q < s.size) : signOf s[q] = none := by
  unfold signOf
  rw [if_neg (fun e => c62 ⟨h, e⟩), if_neg (fun e => c42 ⟨h, e⟩)]
theorem own_far {w w' : World} {d lo hi R : Nat} {v : Value} {t : Ty} {fp : List Nat} (h : TyOwn w d v t fp) (hf : Fp lo hi fp) (hg : w.grownBy w' (some R)) (hR : R < lo) : TyOwn w' d v t fp :=
  h.kept hg.size fun b hb => hg.block b (h.lt b hb) (fun e => by cases e; have := (hf.2 _ hb).1; omega)
theorem box_row {X : World} {b : Nat} {z0 z1 : Value} (y0 y1 : Value) (o : Obj) (h : BoxAt X b #[z0, z1]) :
    (((X.setCell ⟨b, 0, none⟩ y0).setCell ⟨b, 1, none⟩ y1).alloc o).cell? ⟨b, 0, none⟩ = some y0 ∧ (((X.setCell ⟨b, 0, none⟩ y0).setCell ⟨b, 1, none⟩ y1).alloc o).cell? ⟨b, 1, none⟩ = some y1 := by
  have k := ((h.put (j := 0) (u := y0) (by simp)).put (j := 1) (u := y1) (by simp)).below (below_alloc _ o)
  exact ⟨k.2 0, k.2 1⟩
theorem read_out {R : Nat} {w X : World} (y0 y1 : Value) (o : Obj) (hg : w.grownBy X (some R)) : w.grownBy (((X.setCell ⟨w.heap.size, 0, none⟩ y0).setCell ⟨w.heap.size, 1, none⟩ y1).alloc o) (some R) :=
  (grown_own (grown_own hg (grown_set _ w.heap.size 0 _) (fun k e => by cases e; exact Nat.le_refl _)) (grown_set _ w.heap.size 1 _) (fun k e => by cases e; exact Nat.le_refl _)).trans (World.grownBy_alloc _ _ _)
theorem read_rd {R q : Nat} {s : ByteArray} {bad : Bool} {w X : World} (y0 y1 : Value) (o : Obj) (hr : RdAt X R s q bad) (hR : R < w.heap.size) : RdAt (((X.setCell ⟨w.heap.size, 0, none⟩ y0).setCell ⟨w.heap.size, 1, none⟩ y1).alloc o) R s q bad :=
  ((hr.set (by omega)).set (by omega)).past (World.grownBy_alloc _ _ _)
theorem read_node {R n p q lo mid hi : Nat} {s : ByteArray} {w X : World} {k : Int} {c0 c1 d0 d1 : Value} {t u : Ty} {f1 f2 : List Nat} (e : rdS (n + 1) (s.data.toList.drop p) = some (.node k [t, u], s.data.toList.drop q)) (hk : k = 4 ∨ k = 5) (hq : q ≤ s.size)
    (hg : w.grownBy X (some R)) (hr : RdAt X R s q false) (hR : R < w.heap.size) (hX : hi = X.heap.size) (HC : TyOwn X (n + 1) (.agg #[c0, c1]) t f1) (HD : TyOwn X (n + 1) (.agg #[d0, d1]) u f2) (F1 : Fp lo mid f1) (F2 : Fp mid hi f2) (h1 : lo ≤ mid) (h2 : mid ≤ hi) (hlo : w.heap.size < lo) (y0 y1 : Value) :
    ReadEnd R (n + 1) s p w (.returned (.agg #[.int .i64 k, .slice (some ⟨hi, 0, none⟩) 2 2])) (((X.setCell ⟨w.heap.size, 0, none⟩ y0).setCell ⟨w.heap.size, 1, none⟩ y1).alloc (.cells #[c0, c1, d0, d1] 26)) := by
  have hkeep : ∀ b, lo ≤ b → ((X.setCell ⟨w.heap.size, 0, none⟩ y0).setCell ⟨w.heap.size, 1, none⟩ y1).heap[b]? = X.heap[b]? := fun b hb => by
    rw [heap_setCell_other _ _ _ _ (show b ≠ w.heap.size by omega), heap_setCell_other _ _ _ _ (show b ≠ w.heap.size by omega)]
  have hrow := row_two (X := (X.setCell ⟨w.heap.size, 0, none⟩ y0).setCell ⟨w.heap.size, 1, none⟩ y1) (hi := hi) (by simpa using hX) (HC.kept (by simp) fun b hb => hkeep b (F1.2 b hb).1) (HD.kept (by simp) fun b hb => hkeep b (by have := (F2.2 b hb).1; omega)) F1 F2 h1 h2
  obtain ⟨fp, ht, hf⟩ := hrow.tree k (by omega) (by omega)
  refine ⟨read_out _ _ _ hg, ?_⟩
  rw [e]
  exact ⟨k, _, 2, 2, q, fp, rfl, ht, hf.mono (by omega) (Nat.le_refl _), rfl, hq, read_rd _ _ _ hr hR⟩
set_option maxRecDepth 100000 in
set_option maxHeartbeats 8000000 in
theorem specReadStep (R : Nat) (s : ByteArray) (hs : s.size ≤ 1048576) (n : Nat)
    (IH : ∀ m, n = m + 1 → ∀ (p : Nat) (x : Int) (w : World), x = 25 - (m : Int) → p ≤ s.size → RdAt w R s p false → Calls Try.prog 27 #[.pointer (some ⟨R, 0, none⟩), .int .i64 x] w (ReadEnd R m s p w))
    (p : Nat) (x : Int) (w : World) (hx : x = 25 - (n : Int)) (hn : n ≤ 24) (hp : p ≤ s.size) (h : RdAt w R s p false) :
    Calls Try.prog 27 #[.pointer (some ⟨R, 0, none⟩), .int .i64 x] w (ReadEnd R n s p w) := by
  have HN : Hid (R < w.heap.size) := Lib.hid h.in
  have IHH := Lib.hid IH; clear IH
  have XR : Hid (BoxAt (w.alloc (.cells #[.int .i64 0, .slice none 0 0] 26)) w.heap.size #[.int .i64 0, .slice none 0 0]) := BoxAt.new _ _ _
  have XF : Hid (FreeAt (w.alloc (.cells #[.int .i64 0, .slice none 0 0] 26)) w.heap.size) := FreeAt.new _ _ _
  have G := Lib.hid (World.grownBy_alloc w (.cells #[.int .i64 0, .slice none 0 0] 26) (some R))
  have HR := Lib.hid (h.past (World.grownBy_alloc w (.cells #[.int .i64 0, .slice none 0 0] 26) none)); clear h
  have hx1 : 1 ≤ x := by omega
  have hx2 : x ≤ 25 := by omega
  have HX := Lib.hid hx; clear hx
  go_enter Try.func27, Try.ntmps27
  go_wp2_with fail
  by_cases c63 : ∃ h : p < s.size, s[p] = 63
  · obtain ⟨hlt, hc⟩ := c63
    refine (specTakeHit R s p 63 _ hs HR.out hlt hc).mono ?_
    rintro e w2 ⟨rfl, hr, hg⟩
    replace XR := Lib.hid (XR.out.grownPast hg (by have := HN.out; omega))
    replace XF := Lib.hid (XF.out.grownPast hg (by have := HN.out; omega))
    replace G := Lib.hid (G.out.trans hg)
    replace HR := Lib.hid hr
    have hzw2 := hg.size
    clear hr hg
    go_wp2_with fail
    refine (specUnknownType _).mono ?_
    rintro e wz ⟨rfl, hb⟩
    replace XR := Lib.hid (XR.out.below hb)
    replace XF := Lib.hid (XF.out.below hb)
    replace G := Lib.hid (grown_thru G.out hb)
    replace HR := Lib.hid (HR.out.past (below_grown hb))
    clear hb
    have r0 := XR.out.2 0
    have r1 := XR.out.2 1
    have q0 := XF.out.2 0
    have q1 := XF.out.2 1
    go_wp2_with fail
    refine bodyPost_ret (v := .agg #[.int .i64 1, .slice none 0 0]) (by simp [results, Try.results27, go_sem, r0, r1]) rfl ?_
    exact read_leaf (grown_own (grown_own G.out (grown_set _ w.heap.size 0 _) (fun k e => by cases e; exact Nat.le_refl _)) (grown_set _ w.heap.size 1 _) (fun k e => by cases e; exact Nat.le_refl _)) (q := p + 1) (by rw [drop_at s p hlt, hc]; exact rdS_leaf rfl) (by omega) ((HR.out.set (by have := HN.out; omega)).set (by have := HN.out; omega)) (by omega) (by omega)
  · refine (specTakeMiss R s p 63 _ hs (by omega) HR.out (fun h e => c63 ⟨h, e⟩)).mono ?_
    rintro e w2 ⟨rfl, hr, hg⟩
    replace XR := Lib.hid (XR.out.grownPast hg (by have := HN.out; omega))
    replace XF := Lib.hid (XF.out.grownPast hg (by have := HN.out; omega))
    replace G := Lib.hid (G.out.trans hg)
    replace HR := Lib.hid hr
    have hzw2 := hg.size
    clear hr hg
    go_wp2_with fail
    by_cases c78 : ∃ h : p < s.size, s[p] = 78
    · obtain ⟨hlt, hc⟩ := c78
      refine (specTakeHit R s p 78 _ hs HR.out hlt hc).mono ?_
      rintro e w3 ⟨rfl, hr, hg⟩
      replace XR := Lib.hid (XR.out.grownPast hg (by have := HN.out; omega))
      replace XF := Lib.hid (XF.out.grownPast hg (by have := HN.out; omega))
      replace G := Lib.hid (G.out.trans hg)
      replace HR := Lib.hid hr
      have hzw3 := hg.size
      clear hr hg
      go_wp2_with fail
      refine (specNumType _).mono ?_
      rintro e wz ⟨rfl, hb⟩
      replace XR := Lib.hid (XR.out.below hb)
      replace XF := Lib.hid (XF.out.below hb)
      replace G := Lib.hid (grown_thru G.out hb)
      replace HR := Lib.hid (HR.out.past (below_grown hb))
      clear hb
      have r0 := XR.out.2 0
      have r1 := XR.out.2 1
      have q0 := XF.out.2 0
      have q1 := XF.out.2 1
      go_wp2_with fail
      refine bodyPost_ret (v := .agg #[.int .i64 2, .slice none 0 0]) (by simp [results, Try.results27, go_sem, r0, r1]) rfl ?_
      exact read_leaf (grown_own (grown_own G.out (grown_set _ w.heap.size 0 _) (fun k e => by cases e; exact Nat.le_refl _)) (grown_set _ w.heap.size 1 _) (fun k e => by cases e; exact Nat.le_refl _)) (q := p + 1) (by rw [drop_at s p hlt, hc]; exact rdS_leaf rfl) (by omega) ((HR.out.set (by have := HN.out; omega)).set (by have := HN.out; omega)) (by omega) (by omega)
    · refine (specTakeMiss R s p 78 _ hs (by omega) HR.out (fun h e => c78 ⟨h, e⟩)).mono ?_
      rintro e w3 ⟨rfl, hr, hg⟩
      replace XR := Lib.hid (XR.out.grownPast hg (by have := HN.out; omega))
      replace XF := Lib.hid (XF.out.grownPast hg (by have := HN.out; omega))
      replace G := Lib.hid (G.out.trans hg)
      replace HR := Lib.hid hr
      have hzw3 := hg.size
      clear hr hg
      go_wp2_with fail
      by_cases c66 : ∃ h : p < s.size, s[p] = 66
      · obtain ⟨hlt, hc⟩ := c66
        refine (specTakeHit R s p 66 _ hs HR.out hlt hc).mono ?_
        rintro e w4 ⟨rfl, hr, hg⟩
        replace XR := Lib.hid (XR.out.grownPast hg (by have := HN.out; omega))
        replace XF := Lib.hid (XF.out.grownPast hg (by have := HN.out; omega))
        replace G := Lib.hid (G.out.trans hg)
        replace HR := Lib.hid hr
        have hzw4 := hg.size
        clear hr hg
        go_wp2_with fail
        refine (specBoolType _).mono ?_
        rintro e wz ⟨rfl, hb⟩
        replace XR := Lib.hid (XR.out.below hb)
        replace XF := Lib.hid (XF.out.below hb)
        replace G := Lib.hid (grown_thru G.out hb)
        replace HR := Lib.hid (HR.out.past (below_grown hb))
        clear hb
        have r0 := XR.out.2 0
        have r1 := XR.out.2 1
        have q0 := XF.out.2 0
        have q1 := XF.out.2 1
        go_wp2_with fail
        refine bodyPost_ret (v := .agg #[.int .i64 3, .slice none 0 0]) (by simp [results, Try.results27, go_sem, r0, r1]) rfl ?_
        exact read_leaf (grown_own (grown_own G.out (grown_set _ w.heap.size 0 _) (fun k e => by cases e; exact Nat.le_refl _)) (grown_set _ w.heap.size 1 _) (fun k e => by cases e; exact Nat.le_refl _)) (q := p + 1) (by rw [drop_at s p hlt, hc]; exact rdS_leaf rfl) (by omega) ((HR.out.set (by have := HN.out; omega)).set (by have := HN.out; omega)) (by omega) (by omega)
      · refine (specTakeMiss R s p 66 _ hs (by omega) HR.out (fun h e => c66 ⟨h, e⟩)).mono ?_
        rintro e w4 ⟨rfl, hr, hg⟩
        replace XR := Lib.hid (XR.out.grownPast hg (by have := HN.out; omega))
        replace XF := Lib.hid (XF.out.grownPast hg (by have := HN.out; omega))
        replace G := Lib.hid (G.out.trans hg)
        replace HR := Lib.hid hr
        have hzw4 := hg.size
        clear hr hg
        have NL : Hid (∀ h : p < s.size, leafOf s[p] = none) := Lib.hid (fun h => noleaf c63 c78 c66 h)
        clear c63 c78 c66
        cases n with
        | zero =>
          have hd3 : decide (24 < x) = true := by have := HX.out; simp; omega
          have x2 := cell_of_row _ R 2 _ _ _ HR.out
          have f2 := frozen_of_row _ R 2 _ _ HR.out
          go_wp2_with fail
          clear x2 f2
          have hg := grown_set w4 R 2 (.bool true)
          replace XR := Lib.hid (XR.out.grownPast hg (by have := HN.out; omega))
          replace XF := Lib.hid (XF.out.grownPast hg (by have := HN.out; omega))
          replace G := Lib.hid (G.out.trans hg)
          replace HR : Hid (RdAt (w4.setCell ⟨R, 2, none⟩ (.bool true)) R s p true) := Lib.hid (heap_setCell_same w4 R 2 _ 46 (.bool true) HR.out)
          clear hg
          refine (specUnknownType _).mono ?_
          rintro e wz ⟨rfl, hb⟩
          replace XR := Lib.hid (XR.out.below hb)
          replace XF := Lib.hid (XF.out.below hb)
          replace G := Lib.hid (grown_thru G.out hb)
          replace HR := Lib.hid (HR.out.past (below_grown hb))
          clear hb
          have r0 := XR.out.2 0
          have r1 := XR.out.2 1
          have q0 := XF.out.2 0
          have q1 := XF.out.2 1
          go_wp2_with fail
          refine bodyPost_ret (v := .agg #[.int .i64 1, .slice none 0 0]) (by simp [results, Try.results27, go_sem, r0, r1]) rfl ?_
          exact read_bad (grown_own (grown_own G.out (grown_set _ w.heap.size 0 _) (fun k e => by cases e; exact Nat.le_refl _)) (grown_set _ w.heap.size 1 _) (fun k e => by cases e; exact Nat.le_refl _)) (by first | (by_cases hlt : p < s.size; (rw [drop_at s p hlt]; exact rdS_deep (NL.out hlt)); (rw [drop_end s p hlt]; exact rdS_end _))) ((HR.out.set (by have := HN.out; omega)).set (by have := HN.out; omega))
        | succ m =>
          have hd3 : decide (24 < x) = false := by have := HX.out; simp; omega
          have HX1 : Hid (x + 1 = 25 - (m : Int)) := by have := HX.out; show _ = _; omega
          replace IHH := Lib.hid (IHH.out m rfl)
          have x2 := cell_of_row _ R 2 _ _ _ HR.out
          have f2 := frozen_of_row _ R 2 _ _ HR.out
          go_wp2_with fail
          clear x2 f2
          by_cases c40 : ∃ h : p < s.size, s[p] = 40
          · obtain ⟨hlt, hc⟩ := c40
            have HD0 : Hid (s.data.toList.drop p = 40 :: s.data.toList.drop (p + 1)) := by show _ = _; rw [drop_at s p hlt, hc]
            refine (specTakeHit R s p 40 _ hs HR.out hlt hc).mono ?_
            rintro e w5 ⟨rfl, hr, hg⟩
            replace XR := Lib.hid (XR.out.grownPast hg (by have := HN.out; omega))
            replace XF := Lib.hid (XF.out.grownPast hg (by have := HN.out; omega))
            replace G := Lib.hid (G.out.trans hg)
            replace HR := Lib.hid hr
            have hzw5 := hg.size
            clear hr hg
            clear hc NL
            have x2 := cell_of_row _ R 2 _ _ _ HR.out
            have f2 := frozen_of_row _ R 2 _ _ HR.out
            go_wp2_with fail
            clear x2 f2
            have hg := grown_set w5 R 2 (.bool false)
            replace XR := Lib.hid (XR.out.grownPast hg (by have := HN.out; omega))
            replace XF := Lib.hid (XF.out.grownPast hg (by have := HN.out; omega))
            replace G := Lib.hid (G.out.trans hg)
            replace HR : Hid (RdAt (w5.setCell ⟨R, 2, none⟩ (.bool false)) R s (p + 1) false) := Lib.hid (heap_setCell_same w5 R 2 _ 46 (.bool false) HR.out)
            clear hg
            generalize (w5.setCell ⟨R, 2, none⟩ (.bool false)) = w6 at XR XF G HR ⊢
            have hz6 := G.out.size
            have XRL := XR.out.1
            refine (IHH.out (p + 1) (x + 1) _ HX1.out (by omega) HR.out).mono ?_
            rintro e w7 ⟨hg, hr⟩
            replace XR := Lib.hid (XR.out.grownPast hg (by have := HN.out; omega))
            replace XF := Lib.hid (XF.out.grownPast hg (by have := HN.out; omega))
            replace G := Lib.hid (G.out.trans hg)
            have hz7 := hg.size
            clear hg
            obtain ⟨o, ho⟩ : ∃ o, o = rdS m (s.data.toList.drop (p + 1)) := ⟨_, rfl⟩
            rw [← ho] at hr
            have HO := Lib.hid ho.symm; clear ho
            cases o with
            | none =>
              obtain ⟨ak, aa, an, ac, q, rfl, hr⟩ := hr
              replace HR := Lib.hid hr; clear hr
              have hb := below_alloc w7 (.cells #[.int .i64 ak, .slice aa an ac] 26)
              replace XR := Lib.hid (XR.out.below hb)
              replace XF := Lib.hid (XF.out.below hb)
              replace G := Lib.hid (grown_thru G.out hb)
              replace HR := Lib.hid (HR.out.past (below_grown hb))
              clear hb
              go_wp2_with fail
              refine (specTakeBad R s _ 62 _ HR.out).mono ?_
              rintro e w8 ⟨rfl, hr, hg⟩
              replace XR := Lib.hid (XR.out.grownPast hg (by have := HN.out; omega))
              replace XF := Lib.hid (XF.out.grownPast hg (by have := HN.out; omega))
              replace G := Lib.hid (G.out.trans hg)
              replace HR := Lib.hid hr
              have hzw8 := hg.size
              clear hr hg
              go_wp2_with fail
              refine (specTakeBad R s _ 42 _ HR.out).mono ?_
              rintro e w9 ⟨rfl, hr, hg⟩
              replace XR := Lib.hid (XR.out.grownPast hg (by have := HN.out; omega))
              replace XF := Lib.hid (XF.out.grownPast hg (by have := HN.out; omega))
              replace G := Lib.hid (G.out.trans hg)
              replace HR := Lib.hid hr
              have hzw9 := hg.size
              clear hr hg
              have x2 := cell_of_row _ R 2 _ _ _ HR.out
              have f2 := frozen_of_row _ R 2 _ _ HR.out
              go_wp2_with fail
              clear x2 f2
              have hg := grown_set w9 R 2 (.bool true)
              replace XR := Lib.hid (XR.out.grownPast hg (by have := HN.out; omega))
              replace XF := Lib.hid (XF.out.grownPast hg (by have := HN.out; omega))
              replace G := Lib.hid (G.out.trans hg)
              replace HR : Hid (RdAt (w9.setCell ⟨R, 2, none⟩ (.bool true)) R s q true) := Lib.hid (heap_setCell_same w9 R 2 _ 46 (.bool true) HR.out)
              clear hg
              refine (specUnknownType _).mono ?_
              rintro e wz ⟨rfl, hb⟩
              replace XR := Lib.hid (XR.out.below hb)
              replace XF := Lib.hid (XF.out.below hb)
              replace G := Lib.hid (grown_thru G.out hb)
              replace HR := Lib.hid (HR.out.past (below_grown hb))
              clear hb
              have r0 := XR.out.2 0
              have r1 := XR.out.2 1
              have q0 := XF.out.2 0
              have q1 := XF.out.2 1
              go_wp2_with fail
              refine bodyPost_ret (v := .agg #[.int .i64 1, .slice none 0 0]) (by simp [results, Try.results27, go_sem, r0, r1]) rfl ?_
              exact read_bad (grown_own (grown_own G.out (grown_set _ w.heap.size 0 _) (fun k e => by cases e; exact Nat.le_refl _)) (grown_set _ w.heap.size 1 _) (fun k e => by cases e; exact Nat.le_refl _)) (by rw [HD0.out]; exact rdS_first HO.out) ((HR.out.set (by have := HN.out; omega)).set (by have := HN.out; omega))
            | some tr =>
              obtain ⟨t, r⟩ := tr
              obtain ⟨ak, aa, an, ac, q, fp, rfl, ht, hf, hrq, hq, hr⟩ := hr
              subst hrq
              replace HR := Lib.hid hr; clear hr
              have HT := Lib.hid ht; clear ht
              have HF := Lib.hid hf; clear hf
              have XA : Hid (BoxAt (w7.alloc (.cells #[.int .i64 ak, .slice aa an ac] 26)) w7.heap.size #[.int .i64 ak, .slice aa an ac]) := BoxAt.new _ _ _
              have hb := below_alloc w7 (.cells #[.int .i64 ak, .slice aa an ac] 26)
              replace XR := Lib.hid (XR.out.below hb)
              replace XF := Lib.hid (XF.out.below hb)
              replace HT := Lib.hid (HT.out.below hb)
              replace G := Lib.hid (grown_thru G.out hb)
              replace HR := Lib.hid (HR.out.past (below_grown hb))
              clear hb
              go_wp2_with fail
              by_cases c62 : ∃ h : q < s.size, s[q] = 62
              · obtain ⟨hlt, hc⟩ := c62
                have HD1 : Hid (s.data.toList.drop q = 62 :: s.data.toList.drop (q + 1)) := by show _ = _; rw [drop_at s q hlt, hc]
                refine (specTakeHit R s q 62 _ hs HR.out hlt hc).mono ?_
                rintro e w8 ⟨rfl, hr, hg⟩
                replace XR := Lib.hid (XR.out.grownPast hg (by have := HN.out; omega))
                replace XF := Lib.hid (XF.out.grownPast hg (by have := HN.out; omega))
                replace XA := Lib.hid (XA.out.grownPast hg (by have := HN.out; omega))
                replace HT := Lib.hid (own_far HT.out HF.out hg (by have := HN.out; omega))
                replace G := Lib.hid (G.out.trans hg)
                replace HR := Lib.hid hr
                have hzw8 := hg.size
                clear hr hg
                clear hc
                have x2 := cell_of_row _ R 2 _ _ _ HR.out
                go_wp2_with fail
                clear x2
                have XAL := XA.out.1
                refine (IHH.out (q + 1) (x + 1) _ HX1.out (by omega) HR.out).mono ?_
                rintro e w11 ⟨hg, hr⟩
                replace XR := Lib.hid (XR.out.grownPast hg (by have := HN.out; omega))
                replace XF := Lib.hid (XF.out.grownPast hg (by have := HN.out; omega))
                replace XA := Lib.hid (XA.out.grownPast hg (by have := HN.out; omega))
                replace HT := Lib.hid (own_far HT.out HF.out hg (by have := HN.out; omega))
                replace G := Lib.hid (G.out.trans hg)
                have hz11 := hg.size
                clear hg
                obtain ⟨o2, ho⟩ : ∃ o, o = rdS m (s.data.toList.drop (q + 1)) := ⟨_, rfl⟩
                rw [← ho] at hr
                have HO2 := Lib.hid ho.symm; clear ho
                cases o2 with
                | none =>
                  obtain ⟨bk, ba, bn, bc, q2, rfl, hr⟩ := hr
                  replace HR := Lib.hid hr; clear hr
                  have XB : Hid (BoxAt (w11.alloc (.cells #[.int .i64 bk, .slice ba bn bc] 26)) w11.heap.size #[.int .i64 bk, .slice ba bn bc]) := BoxAt.new _ _ _
                  have hb := below_alloc w11 (.cells #[.int .i64 bk, .slice ba bn bc] 26)
                  replace XR := Lib.hid (XR.out.below hb)
                  replace XF := Lib.hid (XF.out.below hb)
                  replace XA := Lib.hid (XA.out.below hb)
                  replace HT := Lib.hid (HT.out.below hb)
                  replace G := Lib.hid (grown_thru G.out hb)
                  replace HR := Lib.hid (HR.out.past (below_grown hb))
                  clear hb
                  go_upto_region 19 with fail
                  generalize (w11.alloc (.cells #[.int .i64 bk, .slice ba bn bc] 26)) = w12 at XR XF G HR XA XB HT ⊢
                  have x2 := cell_of_row _ R 2 _ _ _ HR.out
                  have f2 := frozen_of_row _ R 2 _ _ HR.out
                  go_upto_region 20 with fail
                  clear x2 f2
                  have hg := grown_set w12 R 2 (.bool true)
                  replace XR := Lib.hid (XR.out.grownPast hg (by have := HN.out; omega))
                  replace XF := Lib.hid (XF.out.grownPast hg (by have := HN.out; omega))
                  replace XA := Lib.hid (XA.out.grownPast hg (by have := HN.out; omega))
                  replace XB := Lib.hid (XB.out.grownPast hg (by have := HN.out; omega))
                  replace HT := Lib.hid (own_far HT.out HF.out hg (by have := HN.out; omega))
                  replace G := Lib.hid (G.out.trans hg)
                  replace HR : Hid (RdAt (w12.setCell ⟨R, 2, none⟩ (.bool true)) R s q2 true) := Lib.hid (heap_setCell_same w12 R 2 _ 46 (.bool true) HR.out)
                  clear hg
                  have HZ13 : Hid (w12.heap.size ≤ (w12.setCell ⟨R, 2, none⟩ (.bool true)).heap.size) := by show _ ≤ _; simp
                  generalize (w12.setCell ⟨R, 2, none⟩ (.bool true)) = w13 at HZ13 XR XF G HR XA XB HT ⊢
                  have cXA0 := XA.out.2 0
                  have cXA1 := XA.out.2 1
                  have cXB0 := XB.out.2 0
                  have cXB1 := XB.out.2 1
                  have r0 := XR.out.2 0
                  have r1 := XR.out.2 1
                  have q0 := XF.out.2 0
                  have q1 := XF.out.2 1
                  have hr13 := XR.out.1
                  go_wp2_with fail
                  obtain ⟨g0, g1⟩ := box_row (.int .i64 4) (.slice (some ⟨w13.heap.size, 0, none⟩) 2 2) (.cells #[.int .i64 ak, .slice aa an ac, .int .i64 bk, .slice ba bn bc] 26) XR.out
                  refine bodyPost_ret (v := .agg #[.int .i64 4, .slice (some ⟨w13.heap.size, 0, none⟩) 2 2]) (by simp [results, Try.results27, go_sem, g0, g1]) rfl ?_
                  exact read_bad (read_out _ _ _ G.out) (by rw [HD0.out]; exact rdS_second (by rw [← HD1.out]; exact HO.out) rfl HO2.out) (read_rd _ _ _ HR.out HN.out)
                | some ur =>
                  obtain ⟨u, r2⟩ := ur
                  obtain ⟨bk, ba, bn, bc, q2, fp2, rfl, hu, hf2, hrq, hq2, hr⟩ := hr
                  subst hrq
                  replace HR := Lib.hid hr; clear hr
                  have HU := Lib.hid hu; clear hu
                  have HF2 := Lib.hid hf2; clear hf2
                  have XB : Hid (BoxAt (w11.alloc (.cells #[.int .i64 bk, .slice ba bn bc] 26)) w11.heap.size #[.int .i64 bk, .slice ba bn bc]) := BoxAt.new _ _ _
                  have hb := below_alloc w11 (.cells #[.int .i64 bk, .slice ba bn bc] 26)
                  replace XR := Lib.hid (XR.out.below hb)
                  replace XF := Lib.hid (XF.out.below hb)
                  replace XA := Lib.hid (XA.out.below hb)
                  replace HT := Lib.hid (HT.out.below hb)
                  replace HU := Lib.hid (HU.out.below hb)
                  replace G := Lib.hid (grown_thru G.out hb)
                  replace HR := Lib.hid (HR.out.past (below_grown hb))
                  clear hb
                  have hz12 : (w11.alloc (.cells #[.int .i64 bk, .slice ba bn bc] 26)).heap.size = w11.heap.size + 1 := by simp
                  have HZ12 := Lib.hid hz12; clear hz12
                  go_upto_region 19 with fail
                  generalize (w11.alloc (.cells #[.int .i64 bk, .slice ba bn bc] 26)) = w12 at XR XF G HR XA XB HT HU HZ12 ⊢
                  have x2 := cell_of_row _ R 2 _ _ _ HR.out
                  go_wp2_with fail
                  clear x2
                  by_cases c41 : ∃ h : q2 < s.size, s[q2] = 41
                  · obtain ⟨hlt, hc⟩ := c41
                    have HD2 : Hid (s.data.toList.drop q2 = 41 :: s.data.toList.drop (q2 + 1)) := by show _ = _; rw [drop_at s q2 hlt, hc]
                    refine (specTakeHit R s q2 41 _ hs HR.out hlt hc).mono ?_
                    rintro e w14 ⟨rfl, hr, hg⟩
                    replace XR := Lib.hid (XR.out.grownPast hg (by have := HN.out; omega))
                    replace XF := Lib.hid (XF.out.grownPast hg (by have := HN.out; omega))
                    replace XA := Lib.hid (XA.out.grownPast hg (by have := HN.out; omega))
                    replace XB := Lib.hid (XB.out.grownPast hg (by have := HN.out; omega))
                    replace HT := Lib.hid (own_far HT.out HF.out hg (by have := HN.out; omega))
                    replace HU := Lib.hid (own_far HU.out HF2.out hg (by have := HN.out; omega))
                    replace G := Lib.hid (G.out.trans hg)
                    replace HR := Lib.hid hr
                    have hzw14 := hg.size
                    clear hr hg
                    clear hc
                    have x2 := cell_of_row _ R 2 _ _ _ HR.out
                    have f2 := frozen_of_row _ R 2 _ _ HR.out
                    go_upto_region 20 with fail
                    clear x2 f2
                    have hg := grown_set w14 R 2 (.bool false)
                    replace XR := Lib.hid (XR.out.grownPast hg (by have := HN.out; omega))
                    replace XF := Lib.hid (XF.out.grownPast hg (by have := HN.out; omega))
                    replace XA := Lib.hid (XA.out.grownPast hg (by have := HN.out; omega))
                    replace XB := Lib.hid (XB.out.grownPast hg (by have := HN.out; omega))
                    replace HT := Lib.hid (own_far HT.out HF.out hg (by have := HN.out; omega))
                    replace HU := Lib.hid (own_far HU.out HF2.out hg (by have := HN.out; omega))
                    replace G := Lib.hid (G.out.trans hg)
                    replace HR : Hid (RdAt (w14.setCell ⟨R, 2, none⟩ (.bool false)) R s (q2 + 1) false) := Lib.hid (heap_setCell_same w14 R 2 _ 46 (.bool false) HR.out)
                    clear hg
                    have HZ13 : Hid (w14.heap.size ≤ (w14.setCell ⟨R, 2, none⟩ (.bool false)).heap.size) := by show _ ≤ _; simp
                    generalize (w14.setCell ⟨R, 2, none⟩ (.bool false)) = w13 at HZ13 XR XF G HR XA XB HT HU ⊢
                    have cXA0 := XA.out.2 0
                    have cXA1 := XA.out.2 1
                    have cXB0 := XB.out.2 0
                    have cXB1 := XB.out.2 1
                    have r0 := XR.out.2 0
                    have r1 := XR.out.2 1
                    have q0 := XF.out.2 0
                    have q1 := XF.out.2 1
                    have hr13 := XR.out.1
                    go_wp2_with fail
                    obtain ⟨g0, g1⟩ := box_row (.int .i64 4) (.slice (some ⟨w13.heap.size, 0, none⟩) 2 2) (.cells #[.int .i64 ak, .slice aa an ac, .int .i64 bk, .slice ba bn bc] 26) XR.out
                    refine bodyPost_ret (v := .agg #[.int .i64 4, .slice (some ⟨w13.heap.size, 0, none⟩) 2 2]) (by simp [results, Try.results27, go_sem, g0, g1]) rfl ?_
                    have HSZ := G.out.size
                    exact read_node (p := p) (q := q2 + 1) (lo := w6.heap.size) (mid := w7.heap.size) (hi := w13.heap.size) (by rw [HD0.out]; exact rdS_node (by rw [← HD1.out]; exact HO.out) rfl (by rw [← HD2.out]; exact HO2.out)) (by omega) (by omega) G.out HR.out HN.out rfl HT.out HU.out HF.out (HF2.out.mono (by omega) (by have := HZ12.out; have := HZ13.out; omega)) (by omega) (by have := HZ12.out; have := HZ13.out; omega) (by omega) _ _
                  · refine (specTakeMiss R s q2 41 _ hs (by omega) HR.out (fun h e => c41 ⟨h, e⟩)).mono ?_
                    rintro e w14 ⟨rfl, hr, hg⟩
                    replace XR := Lib.hid (XR.out.grownPast hg (by have := HN.out; omega))
                    replace XF := Lib.hid (XF.out.grownPast hg (by have := HN.out; omega))
                    replace XA := Lib.hid (XA.out.grownPast hg (by have := HN.out; omega))
                    replace XB := Lib.hid (XB.out.grownPast hg (by have := HN.out; omega))
                    replace HT := Lib.hid (own_far HT.out HF.out hg (by have := HN.out; omega))
                    replace HU := Lib.hid (own_far HU.out HF2.out hg (by have := HN.out; omega))
                    replace G := Lib.hid (G.out.trans hg)
                    replace HR := Lib.hid hr
                    have hzw14 := hg.size
                    clear hr hg
                    have x2 := cell_of_row _ R 2 _ _ _ HR.out
                    have f2 := frozen_of_row _ R 2 _ _ HR.out
                    go_upto_region 20 with fail
                    clear x2 f2
                    have hg := grown_set w14 R 2 (.bool true)
                    replace XR := Lib.hid (XR.out.grownPast hg (by have := HN.out; omega))
                    replace XF := Lib.hid (XF.out.grownPast hg (by have := HN.out; omega))
                    replace XA := Lib.hid (XA.out.grownPast hg (by have := HN.out; omega))
                    replace XB := Lib.hid (XB.out.grownPast hg (by have := HN.out; omega))
                    replace HT := Lib.hid (own_far HT.out HF.out hg (by have := HN.out; omega))
                    replace HU := Lib.hid (own_far HU.out HF2.out hg (by have := HN.out; omega))
                    replace G := Lib.hid (G.out.trans hg)
                    replace HR : Hid (RdAt (w14.setCell ⟨R, 2, none⟩ (.bool true)) R s q2 true) := Lib.hid (heap_setCell_same w14 R 2 _ 46 (.bool true) HR.out)
                    clear hg
                    have HZ13 : Hid (w14.heap.size ≤ (w14.setCell ⟨R, 2, none⟩ (.bool true)).heap.size) := by show _ ≤ _; simp
                    generalize (w14.setCell ⟨R, 2, none⟩ (.bool true)) = w13 at HZ13 XR XF G HR XA XB HT HU ⊢
                    have cXA0 := XA.out.2 0
                    have cXA1 := XA.out.2 1
                    have cXB0 := XB.out.2 0
                    have cXB1 := XB.out.2 1
                    have r0 := XR.out.2 0
                    have r1 := XR.out.2 1
                    have q0 := XF.out.2 0
                    have q1 := XF.out.2 1
                    have hr13 := XR.out.1
                    go_wp2_with fail
                    obtain ⟨g0, g1⟩ := box_row (.int .i64 4) (.slice (some ⟨w13.heap.size, 0, none⟩) 2 2) (.cells #[.int .i64 ak, .slice aa an ac, .int .i64 bk, .slice ba bn bc] 26) XR.out
                    refine bodyPost_ret (v := .agg #[.int .i64 4, .slice (some ⟨w13.heap.size, 0, none⟩) 2 2]) (by simp [results, Try.results27, go_sem, g0, g1]) rfl ?_
                    exact read_bad (read_out _ _ _ G.out) (by rw [HD0.out]; first | (by_cases hlt : q2 < s.size; (refine rdS_close (by rw [← HD1.out]; exact HO.out) rfl (c := s[q2]) (by rw [← drop_at s q2 hlt]; exact HO2.out) (fun e => c41 ⟨hlt, e⟩)); (refine rdS_short (by rw [← HD1.out]; exact HO.out) rfl (u := u) ?_; rw [← drop_end s q2 hlt]; exact HO2.out))) (read_rd _ _ _ HR.out HN.out)
              · refine (specTakeMiss R s q 62 _ hs (by omega) HR.out (fun h e => c62 ⟨h, e⟩)).mono ?_
                rintro e w8 ⟨rfl, hr, hg⟩
                replace XR := Lib.hid (XR.out.grownPast hg (by have := HN.out; omega))
                replace XF := Lib.hid (XF.out.grownPast hg (by have := HN.out; omega))
                replace XA := Lib.hid (XA.out.grownPast hg (by have := HN.out; omega))
                replace HT := Lib.hid (own_far HT.out HF.out hg (by have := HN.out; omega))
                replace G := Lib.hid (G.out.trans hg)
                replace HR := Lib.hid hr
                have hzw8 := hg.size
                clear hr hg
                go_wp2_with fail
                by_cases c42 : ∃ h : q < s.size, s[q] = 42
                · obtain ⟨hlt, hc⟩ := c42
                  have HD1 : Hid (s.data.toList.drop q = 42 :: s.data.toList.drop (q + 1)) := by show _ = _; rw [drop_at s q hlt, hc]
                  refine (specTakeHit R s q 42 _ hs HR.out hlt hc).mono ?_
                  rintro e w9 ⟨rfl, hr, hg⟩
                  replace XR := Lib.hid (XR.out.grownPast hg (by have := HN.out; omega))
                  replace XF := Lib.hid (XF.out.grownPast hg (by have := HN.out; omega))
                  replace XA := Lib.hid (XA.out.grownPast hg (by have := HN.out; omega))
                  replace HT := Lib.hid (own_far HT.out HF.out hg (by have := HN.out; omega))
                  replace G := Lib.hid (G.out.trans hg)
                  replace HR := Lib.hid hr
                  have hzw9 := hg.size
                  clear hr hg
                  clear hc
                  have x2 := cell_of_row _ R 2 _ _ _ HR.out
                  go_wp2_with fail
                  clear x2
                  have XAL := XA.out.1
                  refine (IHH.out (q + 1) (x + 1) _ HX1.out (by omega) HR.out).mono ?_
                  rintro e w11 ⟨hg, hr⟩
                  replace XR := Lib.hid (XR.out.grownPast hg (by have := HN.out; omega))
                  replace XF := Lib.hid (XF.out.grownPast hg (by have := HN.out; omega))
                  replace XA := Lib.hid (XA.out.grownPast hg (by have := HN.out; omega))
                  replace HT := Lib.hid (own_far HT.out HF.out hg (by have := HN.out; omega))
                  replace G := Lib.hid (G.out.trans hg)
                  have hz11 := hg.size
                  clear hg
                  obtain ⟨o2, ho⟩ : ∃ o, o = rdS m (s.data.toList.drop (q + 1)) := ⟨_, rfl⟩
                  rw [← ho] at hr
                  have HO2 := Lib.hid ho.symm; clear ho
                  cases o2 with
                  | none =>
                    obtain ⟨bk, ba, bn, bc, q2, rfl, hr⟩ := hr
                    replace HR := Lib.hid hr; clear hr
                    have XB : Hid (BoxAt (w11.alloc (.cells #[.int .i64 bk, .slice ba bn bc] 26)) w11.heap.size #[.int .i64 bk, .slice ba bn bc]) := BoxAt.new _ _ _
                    have hb := below_alloc w11 (.cells #[.int .i64 bk, .slice ba bn bc] 26)
                    replace XR := Lib.hid (XR.out.below hb)
                    replace XF := Lib.hid (XF.out.below hb)
                    replace XA := Lib.hid (XA.out.below hb)
                    replace HT := Lib.hid (HT.out.below hb)
                    replace G := Lib.hid (grown_thru G.out hb)
                    replace HR := Lib.hid (HR.out.past (below_grown hb))
                    clear hb
                    go_upto_region 19 with fail
                    generalize (w11.alloc (.cells #[.int .i64 bk, .slice ba bn bc] 26)) = w12 at XR XF G HR XA XB HT ⊢
                    have x2 := cell_of_row _ R 2 _ _ _ HR.out
                    have f2 := frozen_of_row _ R 2 _ _ HR.out
                    go_upto_region 20 with fail
                    clear x2 f2
                    have hg := grown_set w12 R 2 (.bool true)
                    replace XR := Lib.hid (XR.out.grownPast hg (by have := HN.out; omega))
                    replace XF := Lib.hid (XF.out.grownPast hg (by have := HN.out; omega))
                    replace XA := Lib.hid (XA.out.grownPast hg (by have := HN.out; omega))
                    replace XB := Lib.hid (XB.out.grownPast hg (by have := HN.out; omega))
                    replace HT := Lib.hid (own_far HT.out HF.out hg (by have := HN.out; omega))
                    replace G := Lib.hid (G.out.trans hg)
                    replace HR : Hid (RdAt (w12.setCell ⟨R, 2, none⟩ (.bool true)) R s q2 true) := Lib.hid (heap_setCell_same w12 R 2 _ 46 (.bool true) HR.out)
                    clear hg
                    have HZ13 : Hid (w12.heap.size ≤ (w12.setCell ⟨R, 2, none⟩ (.bool true)).heap.size) := by show _ ≤ _; simp
                    generalize (w12.setCell ⟨R, 2, none⟩ (.bool true)) = w13 at HZ13 XR XF G HR XA XB HT ⊢
                    have cXA0 := XA.out.2 0
                    have cXA1 := XA.out.2 1
                    have cXB0 := XB.out.2 0
                    have cXB1 := XB.out.2 1
                    have r0 := XR.out.2 0
                    have r1 := XR.out.2 1
                    have q0 := XF.out.2 0
                    have q1 := XF.out.2 1
                    have hr13 := XR.out.1
                    go_wp2_with fail
                    obtain ⟨g0, g1⟩ := box_row (.int .i64 5) (.slice (some ⟨w13.heap.size, 0, none⟩) 2 2) (.cells #[.int .i64 ak, .slice aa an ac, .int .i64 bk, .slice ba bn bc] 26) XR.out
                    refine bodyPost_ret (v := .agg #[.int .i64 5, .slice (some ⟨w13.heap.size, 0, none⟩) 2 2]) (by simp [results, Try.results27, go_sem, g0, g1]) rfl ?_
                    exact read_bad (read_out _ _ _ G.out) (by rw [HD0.out]; exact rdS_second (by rw [← HD1.out]; exact HO.out) rfl HO2.out) (read_rd _ _ _ HR.out HN.out)
                  | some ur =>
                    obtain ⟨u, r2⟩ := ur
                    obtain ⟨bk, ba, bn, bc, q2, fp2, rfl, hu, hf2, hrq, hq2, hr⟩ := hr
                    subst hrq
                    replace HR := Lib.hid hr; clear hr
                    have HU := Lib.hid hu; clear hu
                    have HF2 := Lib.hid hf2; clear hf2
                    have XB : Hid (BoxAt (w11.alloc (.cells #[.int .i64 bk, .slice ba bn bc] 26)) w11.heap.size #[.int .i64 bk, .slice ba bn bc]) := BoxAt.new _ _ _
                    have hb := below_alloc w11 (.cells #[.int .i64 bk, .slice ba bn bc] 26)
                    replace XR := Lib.hid (XR.out.below hb)
                    replace XF := Lib.hid (XF.out.below hb)
                    replace XA := Lib.hid (XA.out.below hb)
                    replace HT := Lib.hid (HT.out.below hb)
                    replace HU := Lib.hid (HU.out.below hb)
                    replace G := Lib.hid (grown_thru G.out hb)
                    replace HR := Lib.hid (HR.out.past (below_grown hb))
                    clear hb
                    have hz12 : (w11.alloc (.cells #[.int .i64 bk, .slice ba bn bc] 26)).heap.size = w11.heap.size + 1 := by simp
                    have HZ12 := Lib.hid hz12; clear hz12
                    go_upto_region 19 with fail
                    generalize (w11.alloc (.cells #[.int .i64 bk, .slice ba bn bc] 26)) = w12 at XR XF G HR XA XB HT HU HZ12 ⊢
                    have x2 := cell_of_row _ R 2 _ _ _ HR.out
                    go_wp2_with fail
                    clear x2
                    by_cases c41 : ∃ h : q2 < s.size, s[q2] = 41
                    · obtain ⟨hlt, hc⟩ := c41
                      have HD2 : Hid (s.data.toList.drop q2 = 41 :: s.data.toList.drop (q2 + 1)) := by show _ = _; rw [drop_at s q2 hlt, hc]
                      refine (specTakeHit R s q2 41 _ hs HR.out hlt hc).mono ?_
                      rintro e w14 ⟨rfl, hr, hg⟩
                      replace XR := Lib.hid (XR.out.grownPast hg (by have := HN.out; omega))
                      replace XF := Lib.hid (XF.out.grownPast hg (by have := HN.out; omega))
                      replace XA := Lib.hid (XA.out.grownPast hg (by have := HN.out; omega))
                      replace XB := Lib.hid (XB.out.grownPast hg (by have := HN.out; omega))
                      replace HT := Lib.hid (own_far HT.out HF.out hg (by have := HN.out; omega))
                      replace HU := Lib.hid (own_far HU.out HF2.out hg (by have := HN.out; omega))
                      replace G := Lib.hid (G.out.trans hg)
                      replace HR := Lib.hid hr
                      have hzw14 := hg.size
                      clear hr hg
                      clear hc
                      have x2 := cell_of_row _ R 2 _ _ _ HR.out
                      have f2 := frozen_of_row _ R 2 _ _ HR.out
                      go_upto_region 20 with fail
                      clear x2 f2
                      have hg := grown_set w14 R 2 (.bool false)
                      replace XR := Lib.hid (XR.out.grownPast hg (by have := HN.out; omega))
                      replace XF := Lib.hid (XF.out.grownPast hg (by have := HN.out; omega))
                      replace XA := Lib.hid (XA.out.grownPast hg (by have := HN.out; omega))
                      replace XB := Lib.hid (XB.out.grownPast hg (by have := HN.out; omega))
                      replace HT := Lib.hid (own_far HT.out HF.out hg (by have := HN.out; omega))
                      replace HU := Lib.hid (own_far HU.out HF2.out hg (by have := HN.out; omega))
                      replace G := Lib.hid (G.out.trans hg)
                      replace HR : Hid (RdAt (w14.setCell ⟨R, 2, none⟩ (.bool false)) R s (q2 + 1) false) := Lib.hid (heap_setCell_same w14 R 2 _ 46 (.bool false) HR.out)
                      clear hg
                      have HZ13 : Hid (w14.heap.size ≤ (w14.setCell ⟨R, 2, none⟩ (.bool false)).heap.size) := by show _ ≤ _; simp
                      generalize (w14.setCell ⟨R, 2, none⟩ (.bool false)) = w13 at HZ13 XR XF G HR XA XB HT HU ⊢
                      have cXA0 := XA.out.2 0
                      have cXA1 := XA.out.2 1
                      have cXB0 := XB.out.2 0
                      have cXB1 := XB.out.2 1
                      have r0 := XR.out.2 0
                      have r1 := XR.out.2 1
                      have q0 := XF.out.2 0
                      have q1 := XF.out.2 1
                      have hr13 := XR.out.1
                      go_wp2_with fail
                      obtain ⟨g0, g1⟩ := box_row (.int .i64 5) (.slice (some ⟨w13.heap.size, 0, none⟩) 2 2) (.cells #[.int .i64 ak, .slice aa an ac, .int .i64 bk, .slice ba bn bc] 26) XR.out
                      refine bodyPost_ret (v := .agg #[.int .i64 5, .slice (some ⟨w13.heap.size, 0, none⟩) 2 2]) (by simp [results, Try.results27, go_sem, g0, g1]) rfl ?_
                      have HSZ := G.out.size
                      exact read_node (p := p) (q := q2 + 1) (lo := w6.heap.size) (mid := w7.heap.size) (hi := w13.heap.size) (by rw [HD0.out]; exact rdS_node (by rw [← HD1.out]; exact HO.out) rfl (by rw [← HD2.out]; exact HO2.out)) (by omega) (by omega) G.out HR.out HN.out rfl HT.out HU.out HF.out (HF2.out.mono (by omega) (by have := HZ12.out; have := HZ13.out; omega)) (by omega) (by have := HZ12.out; have := HZ13.out; omega) (by omega) _ _
                    · refine (specTakeMiss R s q2 41 _ hs (by omega) HR.out (fun h e => c41 ⟨h, e⟩)).mono ?_
                      rintro e w14 ⟨rfl, hr, hg⟩
                      replace XR := Lib.hid (XR.out.grownPast hg (by have := HN.out; omega))
                      replace XF := Lib.hid (XF.out.grownPast hg (by have := HN.out; omega))
                      replace XA := Lib.hid (XA.out.grownPast hg (by have := HN.out; omega))
                      replace XB := Lib.hid (XB.out.grownPast hg (by have := HN.out; omega))
                      replace HT := Lib.hid (own_far HT.out HF.out hg (by have := HN.out; omega))
                      replace HU := Lib.hid (own_far HU.out HF2.out hg (by have := HN.out; omega))
                      replace G := Lib.hid (G.out.trans hg)
                      replace HR := Lib.hid hr
                      have hzw14 := hg.size
                      clear hr hg
                      have x2 := cell_of_row _ R 2 _ _ _ HR.out
                      have f2 := frozen_of_row _ R 2 _ _ HR.out
                      go_upto_region 20 with fail
                      clear x2 f2
                      have hg := grown_set w14 R 2 (.bool true)
                      replace XR := Lib.hid (XR.out.grownPast hg (by have := HN.out; omega))
                      replace XF := Lib.hid (XF.out.grownPast hg (by have := HN.out; omega))
                      replace XA := Lib.hid (XA.out.grownPast hg (by have := HN.out; omega))
                      replace XB := Lib.hid (XB.out.grownPast hg (by have := HN.out; omega))
                      replace HT := Lib.hid (own_far HT.out HF.out hg (by have := HN.out; omega))
                      replace HU := Lib.hid (own_far HU.out HF2.out hg (by have := HN.out; omega))
                      replace G := Lib.hid (G.out.trans hg)
                      replace HR : Hid (RdAt (w14.setCell ⟨R, 2, none⟩ (.bool true)) R s q2 true) := Lib.hid (heap_setCell_same w14 R 2 _ 46 (.bool true) HR.out)
                      clear hg
                      have HZ13 : Hid (w14.heap.size ≤ (w14.setCell ⟨R, 2, none⟩ (.bool true)).heap.size) := by show _ ≤ _; simp
                      generalize (w14.setCell ⟨R, 2, none⟩ (.bool true)) = w13 at HZ13 XR XF G HR XA XB HT HU ⊢
                      have cXA0 := XA.out.2 0
                      have cXA1 := XA.out.2 1
                      have cXB0 := XB.out.2 0
                      have cXB1 := XB.out.2 1
                      have r0 := XR.out.2 0
                      have r1 := XR.out.2 1
                      have q0 := XF.out.2 0
                      have q1 := XF.out.2 1
                      have hr13 := XR.out.1
                      go_wp2_with fail
                      obtain ⟨g0, g1⟩ := box_row (.int .i64 5) (.slice (some ⟨w13.heap.size, 0, none⟩) 2 2) (.cells #[.int .i64 ak, .slice aa an ac, .int .i64 bk, .slice ba bn bc] 26) XR.out
                      refine bodyPost_ret (v := .agg #[.int .i64 5, .slice (some ⟨w13.heap.size, 0, none⟩) 2 2]) (by simp [results, Try.results27, go_sem, g0, g1]) rfl ?_
                      exact read_bad (read_out _ _ _ G.out) (by rw [HD0.out]; first | (by_cases hlt : q2 < s.size; (refine rdS_close (by rw [← HD1.out]; exact HO.out) rfl (c := s[q2]) (by rw [← drop_at s q2 hlt]; exact HO2.out) (fun e => c41 ⟨hlt, e⟩)); (refine rdS_short (by rw [← HD1.out]; exact HO.out) rfl (u := u) ?_; rw [← drop_end s q2 hlt]; exact HO2.out))) (read_rd _ _ _ HR.out HN.out)
                · refine (specTakeMiss R s q 42 _ hs (by omega) HR.out (fun h e => c42 ⟨h, e⟩)).mono ?_
                  rintro e w9 ⟨rfl, hr, hg⟩
                  replace XR := Lib.hid (XR.out.grownPast hg (by have := HN.out; omega))
                  replace XF := Lib.hid (XF.out.grownPast hg (by have := HN.out; omega))
                  replace XA := Lib.hid (XA.out.grownPast hg (by have := HN.out; omega))
                  replace HT := Lib.hid (own_far HT.out HF.out hg (by have := HN.out; omega))
                  replace G := Lib.hid (G.out.trans hg)
                  replace HR := Lib.hid hr
                  have hzw9 := hg.size
                  clear hr hg
                  have x2 := cell_of_row _ R 2 _ _ _ HR.out
                  have f2 := frozen_of_row _ R 2 _ _ HR.out
                  go_wp2_with fail
                  clear x2 f2
                  have hg := grown_set w9 R 2 (.bool true)
                  replace XR := Lib.hid (XR.out.grownPast hg (by have := HN.out; omega))
                  replace XF := Lib.hid (XF.out.grownPast hg (by have := HN.out; omega))
                  replace XA := Lib.hid (XA.out.grownPast hg (by have := HN.out; omega))
                  replace HT := Lib.hid (own_far HT.out HF.out hg (by have := HN.out; omega))
                  replace G := Lib.hid (G.out.trans hg)
                  replace HR : Hid (RdAt (w9.setCell ⟨R, 2, none⟩ (.bool true)) R s q true) := Lib.hid (heap_setCell_same w9 R 2 _ 46 (.bool true) HR.out)
                  clear hg
                  refine (specUnknownType _).mono ?_
                  rintro e wz ⟨rfl, hb⟩
                  replace XR := Lib.hid (XR.out.below hb)
                  replace XF := Lib.hid (XF.out.below hb)
                  replace XA := Lib.hid (XA.out.below hb)
                  replace HT := Lib.hid (HT.out.below hb)
                  replace G := Lib.hid (grown_thru G.out hb)
                  replace HR := Lib.hid (HR.out.past (below_grown hb))
                  clear hb
                  have r0 := XR.out.2 0
                  have r1 := XR.out.2 1
                  have q0 := XF.out.2 0
                  have q1 := XF.out.2 1
                  go_wp2_with fail
                  refine bodyPost_ret (v := .agg #[.int .i64 1, .slice none 0 0]) (by simp [results, Try.results27, go_sem, r0, r1]) rfl ?_
                  exact read_bad (grown_own (grown_own G.out (grown_set _ w.heap.size 0 _) (fun k e => by cases e; exact Nat.le_refl _)) (grown_set _ w.heap.size 1 _) (fun k e => by cases e; exact Nat.le_refl _)) (by rw [HD0.out]; first | (by_cases hlt : q < s.size; (refine rdS_sign (d := s[q]) (r1 := s.data.toList.drop (q + 1)) (by rw [← drop_at s q hlt]; exact HO.out) (nosign c62 c42 hlt)); (refine rdS_cut (t := t) ?_; rw [← drop_end s q hlt]; exact HO.out))) ((HR.out.set (by have := HN.out; omega)).set (by have := HN.out; omega))
          · refine (specTakeMiss R s p 40 _ hs (by omega) HR.out (fun h e => c40 ⟨h, e⟩)).mono ?_
            rintro e w5 ⟨rfl, hr, hg⟩
            replace XR := Lib.hid (XR.out.grownPast hg (by have := HN.out; omega))
            replace XF := Lib.hid (XF.out.grownPast hg (by have := HN.out; omega))
            replace G := Lib.hid (G.out.trans hg)
            replace HR := Lib.hid hr
            have hzw5 := hg.size
            clear hr hg
            have x2 := cell_of_row _ R 2 _ _ _ HR.out
            have f2 := frozen_of_row _ R 2 _ _ HR.out
            go_wp2_with fail
            clear x2 f2
            have hg := grown_set w5 R 2 (.bool true)
            replace XR := Lib.hid (XR.out.grownPast hg (by have := HN.out; omega))
            replace XF := Lib.hid (XF.out.grownPast hg (by have := HN.out; omega))
            replace G := Lib.hid (G.out.trans hg)
            replace HR : Hid (RdAt (w5.setCell ⟨R, 2, none⟩ (.bool true)) R s p true) := Lib.hid (heap_setCell_same w5 R 2 _ 46 (.bool true) HR.out)
            clear hg
            refine (specUnknownType _).mono ?_
            rintro e wz ⟨rfl, hb⟩
            replace XR := Lib.hid (XR.out.below hb)
            replace XF := Lib.hid (XF.out.below hb)
            replace G := Lib.hid (grown_thru G.out hb)
            replace HR := Lib.hid (HR.out.past (below_grown hb))
            clear hb
            have r0 := XR.out.2 0
            have r1 := XR.out.2 1
            have q0 := XF.out.2 0
            have q1 := XF.out.2 1
            go_wp2_with fail
            refine bodyPost_ret (v := .agg #[.int .i64 1, .slice none 0 0]) (by simp [results, Try.results27, go_sem, r0, r1]) rfl ?_
            exact read_bad (grown_own (grown_own G.out (grown_set _ w.heap.size 0 _) (fun k e => by cases e; exact Nat.le_refl _)) (grown_set _ w.heap.size 1 _) (fun k e => by cases e; exact Nat.le_refl _)) (by first | (by_cases hlt : p < s.size; (rw [drop_at s p hlt]; exact rdS_none (NL.out hlt) (fun e => c40 ⟨hlt, e⟩)); (rw [drop_end s p hlt]; exact rdS_end _))) ((HR.out.set (by have := HN.out; omega)).set (by have := HN.out; omega))
end Go.Proofs.Ytgoohelkgaklgaa
