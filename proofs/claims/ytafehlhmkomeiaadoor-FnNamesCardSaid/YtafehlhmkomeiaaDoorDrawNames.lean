/-
  Proved: the draws of lists of names and of single words give short lists of short texts in new memory; only the draw's own memory changes.
-/
import Derived.Test.YtafehlhmkomeiaaDoorCurNewN
import Derived.Test.YtafehlhmkomeiaaDoorWithoutN
namespace Go.Proofs.YtafehlhmkomeiaaDoor
open Go.RowKit

theorem Cur.keeps {B p : Nat} {w w' : World} (h : Cur B w p) (hg : w.grownBy w' none) : Cur B w' p := by
  obtain ⟨lo, a, n, cap, i, x, hrow, hin, hn, hcode⟩ := h
  have hp : p < w.heap.size := (Array.getElem?_eq_some_iff.1 hrow).1
  refine ⟨lo, a, n, cap, i, x, by rw [hg.block p hp (by simp)]; exact hrow, hin, hn, fun j hj => ?_⟩
  obtain ⟨b, off, y, ha, hb, h0, h1, hc⟩ := hcode j hj
  exact ⟨b, off, y, ha, hb, h0, h1, hg.cell hc (by simp)⟩
theorem Cur.inside {B p : Nat} {w : World} (h : Cur B w p) : p < w.heap.size := by
  obtain ⟨lo, a, n, cap, i, x, hrow, _⟩ := h
  exact (Array.getElem?_eq_some_iff.1 hrow).1
theorem Cur.past {B p : Nat} {r : Option Nat} {w w' : World} (h : Cur B w p) (hg : w.grownBy w' r) (hp : some p ≠ r) (hB : ∀ k, r = some k → B ≤ k) : Cur B w' p := by
  obtain ⟨lo, a, n, cap, i, x, hrow, hin, hn, hcode⟩ := h
  refine ⟨lo, a, n, cap, i, x, by rw [hg.block p (Array.getElem?_eq_some_iff.1 hrow).1 hp]; exact hrow, hin, hn, fun j hj => ?_⟩
  obtain ⟨b, off, y, ha, hb, h0, h1, hc⟩ := hcode j hj
  exact ⟨b, off, y, ha, hb, h0, h1, hg.cell hc (fun e => Nat.lt_irrefl _ (Nat.lt_of_lt_of_le hb (hB b e.symm)))⟩
theorem grown_own {w w2 w3 : World} {p r : Option Nat} (h : w.grownBy w2 p) (h3 : w2.grownBy w3 r) (hr : ∀ k, r = some k → w.heap.size ≤ k) : w.grownBy w3 p :=
  ⟨h3.os.trans h.os, h3.tape.trans h.tape, h3.output.trans h.output, Nat.le_trans h.size h3.size, fun k hk hne => by
    rw [h3.block k (Nat.lt_of_lt_of_le hk h.size) (fun e => by have := hr k e.symm; omega)]; exact h.block k hk hne⟩
def drawnList : List ByteArray := [⟨#[120]⟩, ⟨#[121]⟩, ⟨#[120, 49]⟩, ⟨#[120, 50]⟩, ⟨#[102]⟩, ⟨#[120]⟩]
def drawnName : List ByteArray := [⟨#[120]⟩, ⟨#[102]⟩, ⟨#[113]⟩]
def drawnBase : List ByteArray := [⟨#[120]⟩, ⟨#[121]⟩, ⟨#[]⟩, ⟨#[113]⟩]
def drawnWord : List ByteArray := [⟨#[120]⟩, ⟨#[120, 49]⟩, ⟨#[49, 120]⟩, ⟨#[88]⟩, ⟨#[97, 98, 99, 100, 101]⟩, ⟨#[97, 98, 99, 100, 101, 102]⟩, ⟨#[]⟩, ⟨#[105, 102]⟩, ⟨#[102, 115, 116]⟩, ⟨#[115, 110, 100]⟩, ⟨#[105, 102, 120]⟩, ⟨#[97, 45]⟩]
theorem short_in {L : List ByteArray} (hL : ∀ m ∈ L, m.size ≤ 30) (x : Value) (h : x ∈ L.map Value.string) : ∃ s : ByteArray, x = .string s ∧ s.size ≤ 30 := by
  obtain ⟨s, hs, rfl⟩ := List.mem_map.1 h
  exact ⟨s, rfl, hL s hs⟩
/-- What drawing a list of names ends in. -/
def NamesEnd (B p : Nat) (w : World) (e : Ending) (w' : World) : Prop :=
  ∃ (v : Value) (ss : List ByteArray), e = .returned v ∧ ss.length ≤ 5 ∧ (∀ s, s ∈ ss → s.size ≤ 30) ∧ w'.ownsRow w.heap.size 9 1 v ss.length (ss.map Value.string) ∧ Cur B w' p ∧ w.grownBy w' (some p)
set_option maxRecDepth 100000 in
set_option maxHeartbeats 2000000 in
theorem drawList (B p : Nat) (w : World) (h : Cur B w p) :
    Calls Tryd.prog 20 #[.pointer (some ⟨p, 0, none⟩)] w (NamesEnd B p w) := by
  obtain ⟨i0, hi, hz0, hz1, hz2⟩ := info_parts info_str
  have HI := Lib.hid hi; clear hi
  have HZ0 := Lib.hid hz0; clear hz0
  have HZ1 := Lib.hid hz1; clear hz1
  have HZ2 := Lib.hid hz2; clear hz2
  have HP := Lib.hid h.inside
  have HC := Lib.hid (h.keeps (World.grownBy_alloc w (.cells #[] 9) none)); clear h
  go_enter Tryd.func20, Tryd.ntmps20
  go_wp2_with fail
  refine (curBelow B p 6 (by omega) (by omega) _ HC.out).mono ?_
  rintro e w1 ⟨n, rfl, hn0, hn1, hc1, hg1⟩
  have hgg : w.grownBy w1 (some p) := (World.grownBy_alloc w _ _).trans hg1
  have HG1 := Lib.hid hgg; clear hgg
  have HO1 : Hid (w1.ownsRow w.heap.size 9 1 (.slice (some ⟨w.heap.size, 0, none⟩) 0 0) 0 []) := (World.ownsRow_made w #[] 0 (Nat.le_refl _) (Nat.zero_le _) rfl).kept hg1 (Or.inr (fun e => by have h1 : w.heap.size = p := Option.some.inj e; have := HP.out; omega))
  have H1 := Lib.hid hc1; clear hc1 hg1 HC
  go_wp2_with fail
  go_loopw [3, 5] (fun o i wr => ∃ (k : Nat) (L : List ByteArray), (k : Int) ≤ n ∧ i = .int .i64 k ∧ L.length = k ∧ (∀ s, s ∈ L → s.size ≤ 30) ∧ wr.ownsRow w.heap.size 9 1 o L.length (L.map Value.string) ∧ Cur B wr p ∧ w.grownBy wr (some p)) (fun _ i _ => 6 - (intOf i).toNat)
  case atStart => exact ⟨0, [], by omega, rfl, rfl, by simp, HO1.out, H1.out, HG1.out⟩
  case round =>
    obtain ⟨k, L, hk, rfl, hL, hs, hown, hc, hg⟩ := hrel
    have HS := Lib.hid hs; clear hs
    have HO := Lib.hid hown; clear hown
    have HCU := Lib.hid hc; clear hc
    have HG := Lib.hid hg; clear hg
    have hll : L.length ≤ 6 := by omega
    have hz : w.heap.size ≤ wr.heap.size := HG.out.size
    have hpw : p < w.heap.size := HP.out
    by_cases hlt : (k : Int) < n
    · go_wp2_with fail
      refine (curPick B p wr.heap.size 6 drawnList (by decide) (by decide) (by have := HCU.out.inside; omega) _ _ _ (heap_alloc_new wr _) rfl (HCU.out.keeps (World.grownBy_alloc wr _ none))).mono ?_
      rintro e w2 ⟨y, rfl, hy, hc2, hg2⟩
      obtain ⟨s, rfl, hsz⟩ := short_in (L := drawnList) (by decide) y hy
      clear hy
      have hz2 := hg2.size
      simp only [World.size_alloc] at hz2
      have hg02 : w.grownBy w2 (some p) := (HG.out.trans (World.grownBy_alloc wr _ _)).trans hg2
      have ho2 : w2.ownsRow w.heap.size 9 1 _ L.length (L.map Value.string) := (HO.out.alloc _).kept hg2 (Or.inr (by intro e; have := (HO.out.lt _ e).1; omega))
      have HG2 := Lib.hid hg02; clear hg02 hg2
      have HC2 := Lib.hid hc2; clear hc2
      have HO2 := Lib.hid ho2; clear ho2
      go_wp2_with (at_builtin; go_must (refine wpList_append_own_at _ rfl _ _ 24 rfl w.heap.size 9 i0 (.string ⟨#[]⟩) 1 16 Tryd.underlying24 HI.out HZ0.out HZ1.out HZ2.out rfl (by decide) _ _ _ rfl (HO2.out.alloc _) ⟨w2.heap.size, 0, none⟩ 1 1 [.string s] rfl rfl (news_str _ _ _) (by simp [Value.oneCell']) (by unfold maxLen; omega) (by omega) (by simp; omega) ?_); intro v3 w3 hown3 hg3 _ _; refine Hid.out ?_)
      refine Lib.hid ?_
      have hown4 : w3.ownsRow w.heap.size 9 1 v3 (L ++ [s]).length ((L ++ [s]).map Value.string) := by simpa using hown3
      have hB := HC2.out.lo
      have hne3 := fun k e => (HO2.out.lt k e).1
      have hg4 : w.grownBy w3 (some p) := grown_own (HG2.out.trans (World.grownBy_alloc w2 _ _)) hg3 hne3
      have hc4 : Cur B w3 p := Cur.past (HC2.out.keeps (World.grownBy_alloc w2 _ none)) hg3 (fun e => by have := hne3 p e.symm; omega) (fun k e => by have := hne3 k e; omega)
      have HO4 := Lib.hid hown4; clear hown4 hown3
      have HG4 := Lib.hid hg4; clear hg4 hg3
      have HC4 := Lib.hid hc4; clear hc4 hne3
      go_wp2_with fail
      exact ⟨⟨k + 1, L ++ [s], by omega, by go_num, by simp [hL], fun t ht => by
        rcases List.mem_append.1 ht with ht | ht
        · exact HS.out t ht
        · simp at ht; subst ht; exact hsz, HO4.out, HC4.out, HG4.out⟩, by simp [intOf]; omega⟩
    · go_wp2_with fail
      go_ret
      exact ⟨_, L, rfl, by omega, HS.out, HO.out, HCU.out, HG.out⟩
theorem grown_under {p : Nat} {w w' : World} {B : Nat} (hg : w.grownBy w' (some p)) (h1 : B ≤ w.heap.size) (h2 : B ≤ p) : Below B w w' :=
  (Below.refl B w).grown hg h1 (fun k hk => by cases hk; exact h2)
/-- What drawing a list of names and a word ends in. -/
def ListWordEnd (w : World) (e : Ending) (w' : World) : Prop :=
  ∃ (v : Value) (ss : List ByteArray) (s : ByteArray), e = .returned (.tuple #[v, .string s]) ∧ ss.length ≤ 5 ∧ (∀ s, s ∈ ss → s.size ≤ 30) ∧ s.size ≤ 30 ∧ Strs w' v ss ∧ Below w.heap.size w w'
def TwoListsEnd (w : World) (e : Ending) (w' : World) : Prop :=
  ∃ (v : Value) (ss : List ByteArray) (v2 : Value) (ss2 : List ByteArray), e = .returned (.tuple #[v, v2]) ∧ ss.length ≤ 5 ∧ (∀ s, s ∈ ss → s.size ≤ 30) ∧ ss2.length ≤ 5 ∧ (∀ s, s ∈ ss2 → s.size ≤ 30) ∧ Strs w' v ss ∧ Strs w' v2 ss2 ∧ Below w.heap.size w w'
def ShortEnd (w : World) (e : Ending) (w' : World) : Prop := ∃ s : ByteArray, e = .returned (.string s) ∧ s.size ≤ 30 ∧ Below w.heap.size w w'
set_option maxRecDepth 100000 in
set_option maxHeartbeats 1000000 in
theorem drawFresh (v : Value) (n : Nat) (w : World) (h : Code w.heap.size w v n) :
    Calls Tryd.prog 5 #[v] w (ListWordEnd w) := by
  go_enter Tryd.func5, Tryd.ntmps5
  go_wp2_with fail
  refine (curNew w.heap.size v n w (Nat.le_refl _) h).mono ?_
  rintro e w1 ⟨rfl, hc1, hb1⟩
  have H1 := Lib.hid hc1; clear hc1
  have B1 := Lib.hid hb1; clear hb1
  go_wp2_with fail
  refine (drawList w.heap.size w.heap.size _ H1.out).mono ?_
  rintro e w2 ⟨v2, ss, rfl, hl, hs, hown, hc2, hg2⟩
  have H2 := Lib.hid hc2; clear hc2
  have HS := Lib.hid hs; clear hs
  have HO := Lib.hid hown; clear hown
  have hz1 : w.heap.size + 1 ≤ w1.heap.size := by have := H1.out.inside; omega
  have B2 := Lib.hid (B1.out.trans (grown_under hg2 B1.out.size (Nat.le_refl _))); clear hg2
  go_wp2_with fail
  refine (curPick w.heap.size w.heap.size w2.heap.size 4 drawnBase (by decide) (by decide) (by have := H2.out.inside; omega) _ _ _ (heap_alloc_new w2 _) rfl (H2.out.keeps (World.grownBy_alloc w2 _ none))).mono ?_
  rintro e w3 ⟨y, rfl, hy, hc3, hg3⟩
  obtain ⟨s, rfl, hsz⟩ := short_in (L := drawnBase) (by decide) y hy
  have HO3 := Lib.hid (Strs.of_own ((HO.out.alloc _).kept hg3 (Or.inr (by intro e; have := (HO.out.lt _ e).1; omega)))); clear HO
  have B3 := Lib.hid ((B2.out.alloc B2.out.size _).trans (grown_under hg3 (by have := B2.out.size; simp; omega) (Nat.le_refl _))); clear hg3 hc3
  go_wp2_with fail
  go_ret2
  exact ⟨_, ss, s, rfl, hl, HS.out, hsz, HO3.out, B3.out⟩
set_option maxRecDepth 100000 in
set_option maxHeartbeats 1000000 in
theorem drawIndexOf (v : Value) (n : Nat) (w : World) (h : Code w.heap.size w v n) :
    Calls Tryd.prog 23 #[v] w (ListWordEnd w) := by
  go_enter Tryd.func23, Tryd.ntmps23
  go_wp2_with fail
  refine (curNew w.heap.size v n w (Nat.le_refl _) h).mono ?_
  rintro e w1 ⟨rfl, hc1, hb1⟩
  have H1 := Lib.hid hc1; clear hc1
  have B1 := Lib.hid hb1; clear hb1
  go_wp2_with fail
  refine (drawList w.heap.size w.heap.size _ H1.out).mono ?_
  rintro e w2 ⟨v2, ss, rfl, hl, hs, hown, hc2, hg2⟩
  have H2 := Lib.hid hc2; clear hc2
  have HS := Lib.hid hs; clear hs
  have HO := Lib.hid hown; clear hown
  have hz1 : w.heap.size + 1 ≤ w1.heap.size := by have := H1.out.inside; omega
  have B2 := Lib.hid (B1.out.trans (grown_under hg2 B1.out.size (Nat.le_refl _))); clear hg2
  go_wp2_with fail
  refine (curPick w.heap.size w.heap.size w2.heap.size 3 drawnName (by decide) (by decide) (by have := H2.out.inside; omega) _ _ _ (heap_alloc_new w2 _) rfl (H2.out.keeps (World.grownBy_alloc w2 _ none))).mono ?_
  rintro e w3 ⟨y, rfl, hy, hc3, hg3⟩
  obtain ⟨s, rfl, hsz⟩ := short_in (L := drawnName) (by decide) y hy
  have HO3 := Lib.hid (Strs.of_own ((HO.out.alloc _).kept hg3 (Or.inr (by intro e; have := (HO.out.lt _ e).1; omega)))); clear HO
  have B3 := Lib.hid ((B2.out.alloc B2.out.size _).trans (grown_under hg3 (by have := B2.out.size; simp; omega) (Nat.le_refl _))); clear hg3 hc3
  go_wp2_with fail
  go_ret2
  exact ⟨_, ss, s, rfl, hl, HS.out, hsz, HO3.out, B3.out⟩
set_option maxRecDepth 100000 in
set_option maxHeartbeats 1000000 in
theorem drawWithout (v : Value) (n : Nat) (w : World) (h : Code w.heap.size w v n) :
    Calls Tryd.prog 9 #[v] w (ListWordEnd w) := by
  go_enter Tryd.func9, Tryd.ntmps9
  go_wp2_with fail
  refine (drawIndexOf v n w h).mono ?_
  rintro e w1 ⟨v1, ss, s, rfl, h1, h2, h3, h4, h5⟩
  go_wp2_with fail
  go_ret2
  exact ⟨_, ss, s, rfl, h1, h2, h3, h4, h5⟩
set_option maxRecDepth 100000 in
set_option maxHeartbeats 1000000 in
theorem drawUnite (v : Value) (n : Nat) (w : World) (h : Code w.heap.size w v n) :
    Calls Tryd.prog 7 #[v] w (TwoListsEnd w) := by
  go_enter Tryd.func7, Tryd.ntmps7
  go_wp2_with fail
  refine (curNew w.heap.size v n w (Nat.le_refl _) h).mono ?_
  rintro e w1 ⟨rfl, hc1, hb1⟩
  have H1 := Lib.hid hc1; clear hc1
  have B1 := Lib.hid hb1; clear hb1
  go_wp2_with fail
  refine (drawList w.heap.size w.heap.size _ H1.out).mono ?_
  rintro e w2 ⟨v2, ss, rfl, hl, hs, hown, hc2, hg2⟩
  have H2 := Lib.hid hc2; clear hc2
  have HS := Lib.hid hs; clear hs
  have HO := Lib.hid hown; clear hown
  have B2 := Lib.hid (B1.out.trans (grown_under hg2 B1.out.size (Nat.le_refl _))); clear hg2
  go_wp2_with fail
  refine (drawList w.heap.size w.heap.size _ H2.out).mono ?_
  rintro e w3 ⟨v3, ss3, rfl, hl3, hs3, hown3, hc3, hg3⟩
  have HS3 := Lib.hid hs3; clear hs3
  have HO3 := Lib.hid (Strs.of_own hown3); clear hown3
  have hz1 : w.heap.size + 1 ≤ w1.heap.size := by have := H1.out.inside; omega
  have HO2 := Lib.hid (Strs.of_own (HO.out.kept hg3 (Or.inr (by intro e; have := (HO.out.lt _ e).1; omega)))); clear HO
  have B3 := Lib.hid (B2.out.trans (grown_under hg3 B2.out.size (Nat.le_refl _))); clear hg3 hc3
  go_wp2_with fail
  go_ret2
  exact ⟨_, ss, _, ss3, rfl, hl, HS.out, hl3, HS3.out, HO2.out, HO3.out, B3.out⟩
set_option maxRecDepth 100000 in
set_option maxHeartbeats 1000000 in
theorem drawIsName (v : Value) (n : Nat) (w : World) (h : Code w.heap.size w v n) :
    Calls Tryd.prog 10 #[v] w (ShortEnd w) := by
  go_enter Tryd.func10, Tryd.ntmps10
  go_wp2_with fail
  refine (curNew w.heap.size v n w (Nat.le_refl _) h).mono ?_
  rintro e w1 ⟨rfl, hc1, hb1⟩
  have H1 := Lib.hid hc1; clear hc1
  have B1 := Lib.hid hb1; clear hb1
  go_wp2_with fail
  refine (curPick w.heap.size w.heap.size w1.heap.size 12 drawnWord (by decide) (by decide) (by have := H1.out.inside; omega) _ _ _ (heap_alloc_new w1 _) rfl (H1.out.keeps (World.grownBy_alloc w1 _ none))).mono ?_
  rintro e w2 ⟨y, rfl, hy, hc2, hg2⟩
  obtain ⟨s, rfl, hsz⟩ := short_in (L := drawnWord) (by decide) y hy
  have B2 := Lib.hid ((B1.out.alloc B1.out.size _).trans (grown_under hg2 (by have := B1.out.size; simp; omega) (Nat.le_refl _))); clear hg2 hc2
  go_wp2_with fail
  go_ret
  exact ⟨s, rfl, hsz, B2.out⟩
end Go.Proofs.YtafehlhmkomeiaaDoor
