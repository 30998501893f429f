/-
  Proved: what the draws of numbers, of their texts and of texts to be cut give: any int, a short text, a short text and a byte; only the draw's own memory changes.
-/
import Derived.Test.YtonfphecbpojhaaDoorCurNew
import Derived.Test.YtonfphecbpojhaaDoorFormat
namespace Go.Proofs.YtonfphecbpojhaaDoor
open Go.RowKit

theorem Cur.kept {B p : Nat} {w w' : World} (h : Cur B w p) (hg : w.grownBy w' none) : Cur B w' p := by
  obtain ⟨lo, a, n, cap, i, h, hrow, hin, hn, hcode⟩ := h
  refine ⟨lo, a, n, cap, i, h, ?_, hin, hn, fun j hj => ?_⟩
  · rw [hg.block p (Array.getElem?_eq_some_iff.1 hrow).1 (by simp)]; exact hrow
  · obtain ⟨b, off, x, ha, hb, hx0, hx1, hc⟩ := hcode j hj
    exact ⟨b, off, x, ha, hb, hx0, hx1, hg.cell hc (by simp)⟩
theorem Cur.lt {B p : Nat} {w : World} (h : Cur B w p) : p < w.heap.size := by
  obtain ⟨lo, a, n, cap, i, h, hrow, _⟩ := h
  exact (Array.getElem?_eq_some_iff.1 hrow).1
/-- What lies below old memory stays where only new blocks and the cursor change. -/
theorem grown_below {B p : Nat} {w w' : World} (hg : w.grownBy w' (some p)) (h1 : B ≤ w.heap.size) (h2 : B ≤ p) : Below B w w' :=
  (Below.refl B w).grown hg h1 (fun k hk => by cases hk; exact h2)

def wholes : List Int := [0, 1, -1, 9, 10, 999999, 1000000, 999999999999, 1000000000000, -999999999999, 9223372036854775807, -9223372036854775808]
theorem wholes_in (x : Value) (h : x ∈ wholes.map (Value.int .i64)) : ∃ n : Int, x = .int .i64 n ∧ -9223372036854775808 ≤ n ∧ n ≤ 9223372036854775807 := by
  obtain ⟨n, hn, rfl⟩ := List.mem_map.1 h
  refine ⟨n, rfl, ?_⟩
  have : ∀ m ∈ wholes, -9223372036854775808 ≤ m ∧ m ≤ 9223372036854775807 := by decide
  exact this n hn

set_option maxRecDepth 100000 in
set_option maxHeartbeats 1000000 in
theorem drawWhole (B p : Nat) (w : World) (h : Cur B w p) :
    Calls Tryd.prog 25 #[.pointer (some ⟨p, 0, none⟩)] w (StepEnd B p (-9223372036854775808) 9223372036854775807 w) := by
  have HC := Lib.hid h; clear h
  go_enter Tryd.func25, Tryd.ntmps25
  go_wp2_with fail
  refine (curBelow B p 3 (by omega) (by omega) _ HC.out).mono ?_
  rintro e w1 ⟨x, rfl, hx0, hx1, hc1, hg1⟩
  have H1 := Lib.hid hc1; clear hc1
  have G1 := Lib.hid hg1; clear hg1
  have h3 : x = 0 ∨ x = 1 ∨ x = 2 := by omega
  rcases h3 with rfl | rfl | rfl
  · go_wp2_with fail
    refine (curPickInt B p w1.heap.size 12 wholes (by decide) (by decide) (by have := H1.out.lt; omega) _ _ _ (heap_alloc_new w1 _) rfl (H1.out.kept (World.grownBy_alloc w1 _ none))).mono ?_
    rintro e w2 ⟨y, rfl, hy, hc2, hg2⟩
    obtain ⟨n, rfl, hn0, hn1⟩ := wholes_in y hy
    have H2 := Lib.hid hc2; clear hc2
    have G2 := Lib.hid hg2; clear hg2
    go_wp2_with fail
    go_ret
    exact ⟨n, rfl, hn0, hn1, H2.out, (G1.out.trans (World.grownBy_alloc w1 _ _)).trans G2.out⟩
  · go_wp2_with fail
    refine (curBelow B p 1000000 (by omega) (by omega) _ H1.out).mono ?_
    rintro e w2 ⟨y, rfl, hy0, hy1, hc2, hg2⟩
    have H2 := Lib.hid hc2; clear hc2
    have G2 := Lib.hid hg2; clear hg2
    go_wp2_with fail
    go_ret
    exact ⟨_, rfl, by omega, by omega, H2.out, G1.out.trans G2.out⟩
  · go_wp2_with fail
    refine (curBelow B p 20 (by omega) (by omega) _ H1.out).mono ?_
    rintro e w2 ⟨y, rfl, hy0, hy1, hc2, hg2⟩
    have H2 := Lib.hid hc2; clear hc2
    have G2 := Lib.hid hg2; clear hg2
    go_wp2_with fail
    go_ret
    exact ⟨_, rfl, by omega, by omega, H2.out, G1.out.trans G2.out⟩

/-- What drawing an int ends in. -/
def IntEnd (w : World) (e : Ending) (w' : World) : Prop :=
  ∃ n : Int, e = .returned (.int .i64 n) ∧ -9223372036854775808 ≤ n ∧ n ≤ 9223372036854775807 ∧ Below w.heap.size w w'

set_option maxRecDepth 100000 in
set_option maxHeartbeats 1000000 in
theorem drawFormatInt (v : Value) (n : Nat) (w : World) (h : Code w.heap.size w v n) :
    Calls Tryd.prog 10 #[v] w (IntEnd w) := by
  go_enter Tryd.func10, Tryd.ntmps10
  go_wp2_with fail
  refine (curNew w.heap.size v n w (Nat.le_refl _) h).mono ?_
  rintro e w1 ⟨rfl, hc1, hb1⟩
  have H1 := Lib.hid hc1; clear hc1
  have B1 := Lib.hid hb1; clear hb1
  go_wp2_with fail
  refine (drawWhole _ _ _ H1.out).mono ?_
  rintro e w2 ⟨x, rfl, hx0, hx1, hc2, hg2⟩
  have B2 := Lib.hid (B1.out.trans (grown_below hg2 B1.out.size (Nat.le_refl _))); clear hg2 hc2
  go_wp2_with fail
  go_ret
  exact ⟨x, rfl, hx0, hx1, B2.out⟩

/-- What drawing a text ends in. -/
def TextEnd (w : World) (e : Ending) (w' : World) : Prop :=
  ∃ s : ByteArray, e = .returned (.string s) ∧ s.size ≤ 30 ∧ Below w.heap.size w w'

def odds : List ByteArray := [⟨#[]⟩, ⟨#[48, 48]⟩, ⟨#[48, 49]⟩, ⟨#[45, 49]⟩, ⟨#[43, 49]⟩, ⟨#[120]⟩, ⟨#[57, 57, 57, 57, 57, 57]⟩, ⟨#[49, 48, 48, 48, 48, 48, 48]⟩, ⟨#[45, 48]⟩, ⟨#[45]⟩, ⟨#[32, 49]⟩, ⟨#[49, 32]⟩]
theorem odds_in (x : Value) (h : x ∈ odds.map Value.string) : ∃ s : ByteArray, x = .string s ∧ s.size ≤ 30 := by
  obtain ⟨s, hs, rfl⟩ := List.mem_map.1 h
  refine ⟨s, rfl, ?_⟩
  have : ∀ m ∈ odds, m.size ≤ 30 := by decide
  exact this s hs

theorem itoa_small (x : Int) (h0 : -9223372036854775808 ≤ x) (h1 : x ≤ 9223372036854775807) : (ByteArray.mk (Lib.itoa x).toArray).size ≤ 30 := by
  show (Lib.itoa x).toArray.size ≤ 30
  rw [List.size_toArray]
  by_cases hx : x = 0
  · subst hx; rw [Num.itoa_zero]; decide
  · by_cases hn : x < 0
    · rw [Num.itoa_neg x hn, List.length_cons]
      have := Num.dd_len_le 20 x.natAbs (by omega)
      omega
    · rw [Num.itoa_pos x (by omega)]
      have := Num.dd_len_le 20 x.natAbs (by omega)
      omega

set_option maxRecDepth 100000 in
set_option maxHeartbeats 1000000 in
theorem curOnce (B p : Nat) (n : Int) (hn0 : 0 < n) (hn1 : n ≤ 4000000000) (w : World) (h : Cur B w p) :
    Calls Tryd.prog 30 #[.pointer (some ⟨p, 0, none⟩), .int .i64 n] w fun e w' => (e = .returned (.bool true) ∨ e = .returned (.bool false)) ∧ Cur B w' p ∧ w.grownBy w' (some p) := by
  have HC := Lib.hid h; clear h
  go_enter Tryd.func30, Tryd.ntmps30
  go_wp2_with fail
  refine (curBelow B p n hn0 hn1 _ HC.out).mono ?_
  rintro e w1 ⟨x, rfl, hx0, hx1, hc1, hg1⟩
  have H1 := Lib.hid hc1; clear hc1
  have G1 := Lib.hid hg1; clear hg1
  by_cases h0 : x = 0
  · subst h0
    go_wp2_with fail
    go_ret
    exact ⟨Or.inl rfl, H1.out, G1.out⟩
  · have hb : (x == 0) = false := by rw [beq_eq_false_iff_ne]; exact h0
    go_wp2_with fail
    go_ret
    exact ⟨Or.inr rfl, H1.out, G1.out⟩

set_option maxRecDepth 100000 in
set_option maxHeartbeats 1000000 in
theorem drawParseNumber (v : Value) (n : Nat) (w : World) (h : Code w.heap.size w v n) :
    Calls Tryd.prog 14 #[v] w (TextEnd w) := by
  go_enter Tryd.func14, Tryd.ntmps14
  go_wp2_with fail
  refine (curNew w.heap.size v n w (Nat.le_refl _) h).mono ?_
  rintro e w1 ⟨rfl, hc1, hb1⟩
  have H1 := Lib.hid hc1; clear hc1
  have B1 := Lib.hid hb1; clear hb1
  go_wp2_with fail
  refine (curOnce _ _ 2 (by omega) (by omega) _ H1.out).mono ?_
  rintro e w2 ⟨hx, hc2, hg2⟩
  have H2 := Lib.hid hc2; clear hc2
  have B2 := Lib.hid (B1.out.trans (grown_below hg2 B1.out.size (Nat.le_refl _))); clear hg2
  rcases hx with rfl | rfl
  · go_wp2_with fail
    refine (drawWhole _ _ _ H2.out).mono ?_
    rintro e w3 ⟨x, rfl, hx0, hx1, hc3, hg3⟩
    have B3 := Lib.hid (B2.out.trans (grown_below hg3 B2.out.size (Nat.le_refl _))); clear hg3 hc3
    go_wp2_with fail
    refine (specFormat x hx0 hx1 _).mono ?_
    rintro e w4 ⟨rfl, hb4⟩
    have B4 := Lib.hid (B3.out.trans (hb4.mono B3.out.size)); clear hb4
    go_wp2_with fail
    go_ret
    exact ⟨_, rfl, itoa_small x hx0 hx1, B4.out⟩
  · go_wp2_with fail
    refine (curPick w.heap.size w.heap.size w2.heap.size 12 odds (by decide) (by decide) (by have := H2.out.lt; omega) _ _ _ (heap_alloc_new w2 _) rfl (H2.out.kept (World.grownBy_alloc w2 _ none))).mono ?_
    rintro e w3 ⟨y, rfl, hy, hc3, hg3⟩
    obtain ⟨s, rfl, hs⟩ := odds_in y hy
    have B3 := Lib.hid ((B2.out.alloc B2.out.size _).trans (grown_below hg3 (by have := B2.out.size; simp; omega) (Nat.le_refl _))); clear hg3 hc3
    go_wp2_with fail
    go_ret
    exact ⟨s, rfl, hs, B3.out⟩
end Go.Proofs.YtonfphecbpojhaaDoor
