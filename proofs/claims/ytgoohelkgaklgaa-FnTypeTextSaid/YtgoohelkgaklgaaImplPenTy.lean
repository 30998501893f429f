/-
  Proved: impl.typeAt's closures parse and compound read a type from a text as rdI does; they change their shared place and room alone, and what they return lies in new memory.
-/
import Derived.Test.YtgoohelkgaklgaaImplPen
import Derived.Test.YtgoohelkgaklgaaImplArrow
import Derived.Test.YtgoohelkgaklgaaImplPair
import Derived.Test.YtgoohelkgaklgaaTypeLeaves
import Derived.Test.YtgoohelkgaklgaaGround
import Derived.Test.YtgoohelkgaklgaaPut
import Derived.Deep.DeepCutAuto
namespace Go.Proofs.Ytgoohelkgaklgaa
open Go.RowKit

/-- Reading the rest of a type in brackets. -/
def rdC (n R : Nat) (l : List UInt8) : Option (Ty × List UInt8 × Nat) :=
  match rdI n R l with
  | some (a, d :: r1, R1) => match rdI n R1 r1 with
    | some (b, e :: r2, R2) => if e = 41 then
        match signOf d with
        | some k => some (.node k [a, b], r2, R2)
        | none => none
      else none
    | _ => none
  | _ => none
theorem rdI_open {n R : Nat} {r : List UInt8} : rdI (n + 1) (R + 1) (40 :: r) = rdC n R r := by
  simp only [rdI, leafOf_open, rdC, if_pos]
  cases rdI n R r with
  | none => rfl
  | some x =>
    obtain ⟨a, l, R1⟩ := x
    cases l with
    | nil => rfl
    | cons d r1 =>
      simp only []
      cases rdI n R1 r1 with
      | none => rfl
      | some y =>
        obtain ⟨b, l2, R2⟩ := y
        cases l2 <;> rfl
theorem rdI_nil (n R : Nat) : rdI n R [] = none := by
  cases n with
  | zero => rfl
  | succ n => cases R <;> rfl
theorem rdI_leaf {n R : Nat} {c : UInt8} {r : List UInt8} {k : Int} (h : leafOf c = some k) : rdI (n + 1) (R + 1) (c :: r) = some (.node k [], r, R) := by
  simp [rdI, h]
theorem rdI_none {n R : Nat} {c : UInt8} {r : List UInt8} (h : leafOf c = none) (hc : c ≠ 40) : rdI (n + 1) (R + 1) (c :: r) = none := by
  simp [rdI, h, hc]
theorem rdC_first {n R : Nat} {l : List UInt8} (h : rdI n R l = none) : rdC n R l = none := by simp [rdC, h]
theorem rdC_cut {n R Q : Nat} {l : List UInt8} {t : Ty} (h : rdI n R l = some (t, [], Q)) : rdC n R l = none := by simp [rdC, h]
theorem rdC_second {n R Q : Nat} {l r1 : List UInt8} {t : Ty} {d : UInt8} (h : rdI n R l = some (t, d :: r1, Q)) (h2 : rdI n Q r1 = none) : rdC n R l = none := by simp [rdC, h, h2]
theorem rdC_short {n R Q Q2 : Nat} {l r1 : List UInt8} {t u : Ty} {d : UInt8} (h : rdI n R l = some (t, d :: r1, Q)) (h2 : rdI n Q r1 = some (u, [], Q2)) : rdC n R l = none := by simp [rdC, h, h2]
theorem rdC_close {n R Q Q2 : Nat} {l r1 r2 : List UInt8} {t u : Ty} {d c : UInt8} (h : rdI n R l = some (t, d :: r1, Q)) (h2 : rdI n Q r1 = some (u, c :: r2, Q2)) (hc : c ≠ 41) : rdC n R l = none := by simp [rdC, h, h2, hc]
theorem rdC_sign {n R Q Q2 : Nat} {l r1 r2 : List UInt8} {t u : Ty} {d : UInt8} (h : rdI n R l = some (t, d :: r1, Q)) (h2 : rdI n Q r1 = some (u, 41 :: r2, Q2)) (hd : signOf d = none) : rdC n R l = none := by simp [rdC, h, h2, hd]
theorem rdC_node {n R Q Q2 : Nat} {l r1 r2 : List UInt8} {t u : Ty} {d : UInt8} {k : Int} (h : rdI n R l = some (t, d :: r1, Q)) (h2 : rdI n Q r1 = some (u, 41 :: r2, Q2)) (hd : signOf d = some k) : rdC n R l = some (.node k [t, u], r2, Q2) := by simp [rdC, h, h2, hd]
theorem pen_at (s : ByteArray) (p : Nat) (h : p < s.size) : s.data.toList.drop p = s[p] :: s.data.toList.drop (p + 1) := by
  have h2 : p < s.data.toList.length := by rw [Array.length_toList]; exact h
  rw [List.drop_eq_getElem_cons h2]; rfl
theorem pen_end (s : ByteArray) (p : Nat) (h : ¬ p < s.size) : s.data.toList.drop p = [] := by
  apply List.drop_eq_nil_of_le
  rw [Array.length_toList]
  exact Nat.le_of_not_lt h
/-- What reading by the closures ends in. -/
def PenEnd (B D : Nat) (o : Option (Ty × List UInt8 × Nat)) (s : ByteArray) (w : World) (e : Ending) (w' : World) : Prop :=
  PenTo B w w' ∧
  match o with
  | some (t, r, Q) => ∃ k a m c q fp, e = .returned (.tuple #[.agg #[.int .i64 k, .slice a m c], .bool true]) ∧ TyOwn w' D (.agg #[.int .i64 k, .slice a m c]) t fp ∧ Fp w.heap.size w'.heap.size fp ∧ r = s.data.toList.drop q ∧ q ≤ s.size ∧ PenAt w' B s q (Q : Nat)
  | none => ∃ q R', e = .returned (.tuple #[.agg #[.int .i64 0, .slice none 0 0], .bool false]) ∧ q ≤ s.size ∧ PenAt w' B s q R'
def ParseSaid (B n : Nat) (s : ByteArray) : Prop := ∀ (p R : Nat) (x : Int) (w : World), x = (n : Int) → p ≤ s.size → R ≤ 800 → PenAt w B s p (R : Nat) →
  Calls Try.prog 42 #[.int .i64 x, .pointer (some ⟨B + 3, 0, none⟩), .pointer (some ⟨B + 4, 0, none⟩), .pointer (some ⟨B + 6, 0, none⟩)] w (PenEnd B n (rdI n R (s.data.toList.drop p)) s w)
def CompSaid (B n : Nat) (s : ByteArray) : Prop := ∀ (p R : Nat) (x : Int) (w : World), x = (n : Int) → p ≤ s.size → R ≤ 800 → PenAt w B s p (R : Nat) →
  Calls Try.prog 39 #[.int .i64 x, .pointer (some ⟨B + 5, 0, none⟩), .pointer (some ⟨B + 4, 0, none⟩)] w (PenEnd B (n + 1) (rdC n R (s.data.toList.drop p)) s w)
theorem pen_no {B D q : Nat} {R : Int} {o : Option (Ty × List UInt8 × Nat)} {s : ByteArray} {w w' : World} (ho : o = none) (hg : PenTo B w w') (hq : q ≤ s.size) (h : PenAt w' B s q R) : PenEnd B D o s w (.returned (.tuple #[.agg #[.int .i64 0, .slice none 0 0], .bool false])) w' := by
  subst ho
  exact ⟨hg, q, R, rfl, hq, h⟩
theorem pen_char {s : ByteArray} {p q : Nat} {c : Int} {u : UInt8} (h : (∃ h : p < s.size, c = (s[p].toNat : Int) ∧ q = p + 1) ∨ (¬ p < s.size ∧ c = 0 ∧ q = p)) (hc : c = (u.toNat : Int)) (hu : u ≠ 0) : ∃ h : p < s.size, s[p] = u ∧ q = p + 1 := by
  rcases h with ⟨hlt, h1, h2⟩ | ⟨h0, h1, h2⟩
  · exact ⟨hlt, UInt8.toNat_inj.1 (by omega), h2⟩
  · exact absurd (UInt8.toNat_inj.1 (by rw [UInt8.toNat_zero]; omega)) hu
theorem pen_other {s : ByteArray} {p q n R : Nat} {c : Int} (h : (∃ h : p < s.size, c = (s[p].toNat : Int) ∧ q = p + 1) ∨ (¬ p < s.size ∧ c = 0 ∧ q = p)) (h1 : ¬ c = 63) (h2 : ¬ c = 78) (h3 : ¬ c = 66) (h4 : ¬ c = 40) : rdI (n + 1) (R + 1) (s.data.toList.drop p) = none := by
  rcases h with ⟨hlt, hc, _⟩ | ⟨h0, _, _⟩
  · rw [pen_at s p hlt]
    have k : ∀ u : UInt8, s[p] = u → c = (u.toNat : Int) := fun u e => by rw [hc, e]
    refine rdI_none ?_ (fun e => h4 (by have := k 40 e; simpa using this))
    unfold leafOf
    rw [if_neg (fun e => h1 (by have := k 63 e; simpa using this)), if_neg (fun e => h2 (by have := k 78 e; simpa using this)), if_neg (fun e => h3 (by have := k 66 e; simpa using this))]
  · rw [pen_end s p h0]; exact rdI_nil _ _
theorem own_two_sets {w : World} {d lo hi b : Nat} {v y0 y1 : Value} {t : Ty} {fp : List Nat} (h : TyOwn w d v t fp) (hf : Fp lo hi fp) (hb : b < lo) : TyOwn ((w.setCell ⟨b, 0, none⟩ y0).setCell ⟨b, 1, none⟩ y1) d v t fp :=
  h.kept (by simp) fun x hx => by
    have h1 := (hf.2 x hx).1
    rw [heap_setCell_other _ _ _ _ (show x ≠ b by omega), heap_setCell_other _ _ _ _ (show x ≠ b by omega)]
set_option maxRecDepth 100000 in
set_option maxHeartbeats 4000000 in
theorem penParse0 (B : Nat) (s : ByteArray) : ParseSaid B 0 s := by
  intro p R x w hx hp hR h
  obtain rfl : x = 0 := by omega
  clear hx
  have HB : Hid (B + 6 < w.heap.size) := Lib.hid h.top
  have XR : Hid (BoxAt (w.alloc (.cells #[.int .i64 0, .slice none 0 0] 26)) w.heap.size #[.int .i64 0, .slice none 0 0]) := BoxAt.new _ _ _
  have XF : Hid (FreeAt (w.alloc (.cells #[.int .i64 0, .slice none 0 0] 26)) w.heap.size) := FreeAt.new _ _ _
  have G : Hid (PenTo B w (w.alloc (.cells #[.int .i64 0, .slice none 0 0] 26))) := PenTo.of_below (below_alloc _ _) (by have := HB.out; omega)
  have HP := Lib.hid (h.below (below_alloc w (.cells #[.int .i64 0, .slice none 0 0] 26))); clear h
  have c3 := cell_of_row _ (B + 3) 0 _ _ _ HP.out.2.2.1
  have f3 := frozen_of_row _ (B + 3) 0 _ _ HP.out.2.2.1
  go_enter Try.func42, Try.ntmps42
  go_upto_region 2 with fail
  clear c3 f3
  have hg := PenTo.set (B := B) (w := (w.alloc (.cells #[.int .i64 0, .slice none 0 0] 26))) (q := B + 3) (u := .int .i64 ((R : Int) - 1)) (Or.inr rfl)
  replace XR := Lib.hid (XR.out.beside hg.2 (Or.inr (by have := HB.out; omega)))
  replace XF := Lib.hid (XF.out.beside hg.2 (Or.inr (by have := HB.out; omega)))
  replace G := Lib.hid (G.out.trans hg)
  replace HP := Lib.hid (HP.out.less ((R : Int) - 1))
  clear hg
  generalize (w.alloc (.cells #[.int .i64 0, .slice none 0 0] 26)).setCell ⟨B + 3, 0, none⟩ (.int .i64 ((R : Int) - 1)) = w2 at XR XF G HP ⊢
  have c3 := cell_of_row _ (B + 3) 0 _ _ _ HP.out.2.2.1
  by_cases hR0 : R = 0
  · have hd : decide ((R : Int) - 1 < 0) = true := by simp; omega
    have r0 := XR.out.2 0
    have r1 := XR.out.2 1
    have q0 := XF.out.2 0
    have q1 := XF.out.2 1
    go_wp2_with fail
    refine bodyPost_ret (v := .tuple #[.agg #[.int .i64 0, .slice none 0 0], .bool false]) (by simp [results, Try.results42, go_sem, r0, r1]) rfl ?_
    exact pen_no (rfl) ((G.out.far (j := 0) (Nat.le_refl _) (by have := HB.out; omega)).far (j := 1) (Nat.le_refl _) (by have := HB.out; omega)) (by omega) ((HP.out.far (j := 0) (by have := HB.out; omega)).far (j := 1) (by have := HB.out; omega))
  · have hd : decide ((R : Int) - 1 < 0) = false := by simp; omega
    have r0 := XR.out.2 0
    have r1 := XR.out.2 1
    have q0 := XF.out.2 0
    have q1 := XF.out.2 1
    go_wp2_with fail
    refine bodyPost_ret (v := .tuple #[.agg #[.int .i64 0, .slice none 0 0], .bool false]) (by simp [results, Try.results42, go_sem, r0, r1]) rfl ?_
    exact pen_no (rfl) ((G.out.far (j := 0) (Nat.le_refl _) (by have := HB.out; omega)).far (j := 1) (Nat.le_refl _) (by have := HB.out; omega)) (by omega) ((HP.out.far (j := 0) (by have := HB.out; omega)).far (j := 1) (by have := HB.out; omega))
set_option maxRecDepth 100000 in
set_option maxHeartbeats 4000000 in
theorem penParse (B n : Nat) (s : ByteArray) (hs : s.size ≤ 1048576) (hn : n ≤ 100) (IH : CompSaid B n s) : ParseSaid B (n + 1) s := by
  intro p R x w hx hp hR h
  have hx1 : 1 ≤ x := by omega
  have hx2 : x ≤ 101 := by omega
  have HX : Hid (x - 1 = (n : Int)) := by show _ = _; omega
  clear hx
  have IHH := Lib.hid IH; clear IH
  have HB : Hid (B + 6 < w.heap.size) := Lib.hid h.top
  have XR : Hid (BoxAt (w.alloc (.cells #[.int .i64 0, .slice none 0 0] 26)) w.heap.size #[.int .i64 0, .slice none 0 0]) := BoxAt.new _ _ _
  have XF : Hid (FreeAt (w.alloc (.cells #[.int .i64 0, .slice none 0 0] 26)) w.heap.size) := FreeAt.new _ _ _
  have G : Hid (PenTo B w (w.alloc (.cells #[.int .i64 0, .slice none 0 0] 26))) := PenTo.of_below (below_alloc _ _) (by have := HB.out; omega)
  have HP := Lib.hid (h.below (below_alloc w (.cells #[.int .i64 0, .slice none 0 0] 26))); clear h
  have c3 := cell_of_row _ (B + 3) 0 _ _ _ HP.out.2.2.1
  have f3 := frozen_of_row _ (B + 3) 0 _ _ HP.out.2.2.1
  go_enter Try.func42, Try.ntmps42
  go_upto_region 2 with fail
  clear c3 f3
  have hg := PenTo.set (B := B) (w := (w.alloc (.cells #[.int .i64 0, .slice none 0 0] 26))) (q := B + 3) (u := .int .i64 ((R : Int) - 1)) (Or.inr rfl)
  replace XR := Lib.hid (XR.out.beside hg.2 (Or.inr (by have := HB.out; omega)))
  replace XF := Lib.hid (XF.out.beside hg.2 (Or.inr (by have := HB.out; omega)))
  replace G := Lib.hid (G.out.trans hg)
  replace HP := Lib.hid (HP.out.less ((R : Int) - 1))
  clear hg
  generalize (w.alloc (.cells #[.int .i64 0, .slice none 0 0] 26)).setCell ⟨B + 3, 0, none⟩ (.int .i64 ((R : Int) - 1)) = w2 at XR XF G HP ⊢
  have c3 := cell_of_row _ (B + 3) 0 _ _ _ HP.out.2.2.1
  cases R with
  | zero =>
    have hd : decide (((0 : Nat) : Int) - 1 < 0) = true := by simp
    have r0 := XR.out.2 0
    have r1 := XR.out.2 1
    have q0 := XF.out.2 0
    have q1 := XF.out.2 1
    go_wp2_with fail
    refine bodyPost_ret (v := .tuple #[.agg #[.int .i64 0, .slice none 0 0], .bool false]) (by simp [results, Try.results42, go_sem, r0, r1]) rfl ?_
    exact pen_no (rfl) ((G.out.far (j := 0) (Nat.le_refl _) (by have := HB.out; omega)).far (j := 1) (Nat.le_refl _) (by have := HB.out; omega)) (by omega) ((HP.out.far (j := 0) (by have := HB.out; omega)).far (j := 1) (by have := HB.out; omega))
  | succ R =>
    have hd : decide (((R + 1 : Nat) : Int) - 1 < 0) = false := by simp <;> omega
    have hx0 : (x == 0) = false := by rw [beq_eq_false_iff_ne]; omega
    have c4 := cell_of_row _ (B + 4) 0 _ _ _ HP.out.2.2.2.1
    go_wp2_with fail
    clear c3 c4 hd hx0
    refine (penNext B s p _ _ hs hp HP.out).mono ?_
    rintro e w3 ⟨c, q, rfl, hP, hg, hq, hor⟩
    replace XR := Lib.hid (XR.out.beside hg.2 (Or.inr (by have := HB.out; omega)))
    replace XF := Lib.hid (XF.out.beside hg.2 (Or.inr (by have := HB.out; omega)))
    replace G := Lib.hid (G.out.trans hg)
    replace HP := Lib.hid hP
    clear hP hg
    have HOR := Lib.hid hor; clear hor
    have HR : Hid (((R + 1 : Nat) : Int) - 1 = ((R : Nat) : Int)) := by show _ = _; omega
    by_cases c63 : c = 63
    · have HC : Hid (∃ h : p < s.size, s[p] = 63 ∧ q = p + 1) := pen_char HOR.out (by rw [c63]; decide) (by decide)
      clear HOR
      subst c63
      go_wp2_with fail
      refine (implUnknownType _).mono ?_
      rintro e w4 ⟨rfl, hb⟩
      replace XR := Lib.hid (XR.out.below hb)
      replace XF := Lib.hid (XF.out.below hb)
      replace G := Lib.hid (G.out.trans (PenTo.of_below hb (by have := HP.out.top; omega)))
      replace HP := Lib.hid (HP.out.below hb)
      clear hb
      have r0 := XR.out.2 0
      have r1 := XR.out.2 1
      have q0 := XF.out.2 0
      have q1 := XF.out.2 1
      go_wp2_with fail
      refine bodyPost_ret (v := .tuple #[.agg #[.int .i64 1, .slice none 0 0], .bool true]) (by simp [results, Try.results42, go_sem, r0, r1]) rfl ?_
      obtain ⟨hlt, hc, rfl⟩ := HC.out
      refine ⟨((G.out.far (j := 0) (Nat.le_refl _) (by have := HB.out; omega)).far (j := 1) (Nat.le_refl _) (by have := HB.out; omega)), ?_⟩
      rw [pen_at s p hlt, hc, rdI_leaf (k := 1) rfl]
      have hP0 := HP.out
      rw [HR.out] at hP0
      exact ⟨1, none, 0, 0, p + 1, [], rfl, own_zero _ _ _ (by omega) (by omega), Fp.nil _ _, rfl, by omega, ((hP0.far (j := 0) (by have := HB.out; omega)).far (j := 1) (by have := HB.out; omega))⟩
    · have n63 : (c == 63) = false := by rw [beq_eq_false_iff_ne]; exact c63
      by_cases c78 : c = 78
      · have HC : Hid (∃ h : p < s.size, s[p] = 78 ∧ q = p + 1) := pen_char HOR.out (by rw [c78]; decide) (by decide)
        clear HOR
        subst c78
        go_wp2_with fail
        refine (implNumType _).mono ?_
        rintro e w4 ⟨rfl, hb⟩
        replace XR := Lib.hid (XR.out.below hb)
        replace XF := Lib.hid (XF.out.below hb)
        replace G := Lib.hid (G.out.trans (PenTo.of_below hb (by have := HP.out.top; omega)))
        replace HP := Lib.hid (HP.out.below hb)
        clear hb
        have r0 := XR.out.2 0
        have r1 := XR.out.2 1
        have q0 := XF.out.2 0
        have q1 := XF.out.2 1
        go_wp2_with fail
        refine bodyPost_ret (v := .tuple #[.agg #[.int .i64 2, .slice none 0 0], .bool true]) (by simp [results, Try.results42, go_sem, r0, r1]) rfl ?_
        obtain ⟨hlt, hc, rfl⟩ := HC.out
        refine ⟨((G.out.far (j := 0) (Nat.le_refl _) (by have := HB.out; omega)).far (j := 1) (Nat.le_refl _) (by have := HB.out; omega)), ?_⟩
        rw [pen_at s p hlt, hc, rdI_leaf (k := 2) rfl]
        have hP0 := HP.out
        rw [HR.out] at hP0
        exact ⟨2, none, 0, 0, p + 1, [], rfl, own_zero _ _ _ (by omega) (by omega), Fp.nil _ _, rfl, by omega, ((hP0.far (j := 0) (by have := HB.out; omega)).far (j := 1) (by have := HB.out; omega))⟩
      · have n78 : (c == 78) = false := by rw [beq_eq_false_iff_ne]; exact c78
        by_cases c66 : c = 66
        · have HC : Hid (∃ h : p < s.size, s[p] = 66 ∧ q = p + 1) := pen_char HOR.out (by rw [c66]; decide) (by decide)
          clear HOR
          subst c66
          go_wp2_with fail
          refine (implBoolType _).mono ?_
          rintro e w4 ⟨rfl, hb⟩
          replace XR := Lib.hid (XR.out.below hb)
          replace XF := Lib.hid (XF.out.below hb)
          replace G := Lib.hid (G.out.trans (PenTo.of_below hb (by have := HP.out.top; omega)))
          replace HP := Lib.hid (HP.out.below hb)
          clear hb
          have r0 := XR.out.2 0
          have r1 := XR.out.2 1
          have q0 := XF.out.2 0
          have q1 := XF.out.2 1
          go_wp2_with fail
          refine bodyPost_ret (v := .tuple #[.agg #[.int .i64 3, .slice none 0 0], .bool true]) (by simp [results, Try.results42, go_sem, r0, r1]) rfl ?_
          obtain ⟨hlt, hc, rfl⟩ := HC.out
          refine ⟨((G.out.far (j := 0) (Nat.le_refl _) (by have := HB.out; omega)).far (j := 1) (Nat.le_refl _) (by have := HB.out; omega)), ?_⟩
          rw [pen_at s p hlt, hc, rdI_leaf (k := 3) rfl]
          have hP0 := HP.out
          rw [HR.out] at hP0
          exact ⟨3, none, 0, 0, p + 1, [], rfl, own_zero _ _ _ (by omega) (by omega), Fp.nil _ _, rfl, by omega, ((hP0.far (j := 0) (by have := HB.out; omega)).far (j := 1) (by have := HB.out; omega))⟩
        · have n66 : (c == 66) = false := by rw [beq_eq_false_iff_ne]; exact c66
          by_cases c40 : c = 40
          · have HC : Hid (∃ h : p < s.size, s[p] = 40 ∧ q = p + 1) := pen_char HOR.out (by rw [c40]; decide) (by decide)
            clear HOR
            subst c40
            have c6 := cell_of_row _ (B + 6) 0 _ _ _ HP.out.2.2.2.2.2
            go_wp2_with fail
            clear c6 n63 n78 n66
            have hP := HP.out
            rw [HR.out] at hP
            have hz3 := XR.out.1
            refine (IHH.out q R (x - 1) _ HX.out hq (by omega) hP).mono ?_
            rintro e w5 ⟨hg, hr⟩
            replace XR := Lib.hid (XR.out.beside hg.2 (Or.inr (by have := HB.out; omega)))
            replace XF := Lib.hid (XF.out.beside hg.2 (Or.inr (by have := HB.out; omega)))
            replace G := Lib.hid (G.out.trans hg)
            clear hg hP
            obtain ⟨hlt, hc, hqp⟩ := HC.out
            have HE : Hid (rdI (n + 1) (R + 1) (s.data.toList.drop p) = rdC n R (s.data.toList.drop q)) := by show _ = _; rw [pen_at s p hlt, hc, rdI_open, hqp]
            clear hc HC
            obtain ⟨o, ho⟩ : ∃ o, o = rdC n R (s.data.toList.drop q) := ⟨_, rfl⟩
            rw [← ho] at hr
            have HO := Lib.hid ho; clear ho hqp
            cases o with
            | none =>
              obtain ⟨q2, R', rfl, hq2, hP⟩ := hr
              replace HP := Lib.hid hP; clear hP
              have r0 := XR.out.2 0
              have r1 := XR.out.2 1
              have q0 := XF.out.2 0
              have q1 := XF.out.2 1
              go_wp2_with fail
              refine bodyPost_ret (v := .tuple #[.agg #[.int .i64 0, .slice none 0 0], .bool false]) (by simp [results, Try.results42, go_sem, r0, r1]) rfl ?_
              exact pen_no (by rw [HE.out, ← HO.out]) ((G.out.far (j := 0) (Nat.le_refl _) (by have := HB.out; omega)).far (j := 1) (Nat.le_refl _) (by have := HB.out; omega)) (by omega) ((HP.out.far (j := 0) (by have := HB.out; omega)).far (j := 1) (by have := HB.out; omega))
            | some tr =>
              obtain ⟨t, r, Q⟩ := tr
              obtain ⟨ak, aa, an, ac, q2, fp, rfl, ht, hf, hrq, hq2, hP⟩ := hr
              subst hrq
              replace HP := Lib.hid hP; clear hP
              have HT := Lib.hid ht; clear ht
              have HF := Lib.hid hf; clear hf
              have r0 := XR.out.2 0
              have r1 := XR.out.2 1
              have q0 := XF.out.2 0
              have q1 := XF.out.2 1
              go_wp2_with fail
              refine bodyPost_ret (v := .tuple #[.agg #[.int .i64 ak, .slice aa an ac], .bool true]) (by simp [results, Try.results42, go_sem, r0, r1]) rfl ?_
              refine ⟨((G.out.far (j := 0) (Nat.le_refl _) (by have := HB.out; omega)).far (j := 1) (Nat.le_refl _) (by have := HB.out; omega)), ?_⟩
              rw [HE.out, ← HO.out]
              exact ⟨ak, aa, an, ac, q2, fp, rfl, own_two_sets HT.out HF.out (by omega), HF.out.mono (by omega) (by simp), rfl, hq2, ((HP.out.far (j := 0) (by have := HB.out; omega)).far (j := 1) (by have := HB.out; omega))⟩
          · have n40 : (c == 40) = false := by rw [beq_eq_false_iff_ne]; exact c40
            have r0 := XR.out.2 0
            have r1 := XR.out.2 1
            have q0 := XF.out.2 0
            have q1 := XF.out.2 1
            go_wp2_with fail
            refine bodyPost_ret (v := .tuple #[.agg #[.int .i64 0, .slice none 0 0], .bool false]) (by simp [results, Try.results42, go_sem, r0, r1]) rfl ?_
            exact pen_no (pen_other HOR.out c63 c78 c66 c40) ((G.out.far (j := 0) (Nat.le_refl _) (by have := HB.out; omega)).far (j := 1) (Nat.le_refl _) (by have := HB.out; omega)) hq ((HP.out.far (j := 0) (by have := HB.out; omega)).far (j := 1) (by have := HB.out; omega))
end Go.Proofs.Ytgoohelkgaklgaa
