/-
  Proved: a draw's cursor is made over the bytes that came in, in new memory; picking from a list of strings or ints gives one of its elements and changes the cursor alone.
-/
import Derived.Test.YtgoohelkgaklgaaCur
import Derived.Test.YtgoohelkgaklgaaStrs
namespace Go.Proofs.Ytgoohelkgaklgaa
open Go.RowKit

/-- In the world w the slice value v reads as bytes that lie below block B. -/
def Code (B : Nat) (w : World) (v : Value) (n : Nat) : Prop :=
  ∃ a cap, v = .slice a n cap ∧ n ≤ 1048576 ∧ ∀ j, j < n → ∃ (b off : Nat) (x : Int), a = some ⟨b, off, none⟩ ∧ b < B ∧ 0 ≤ x ∧ x ≤ 255 ∧ w.cell? ⟨b, off + j, none⟩ = some (.int .u8 x)

theorem new_cur {B n cap : Nat} {a : Option Addr} {w : World} (h : Int) (hB : B ≤ w.heap.size) (hn : n ≤ 1048576)
    (hcode : ∀ j, j < n → ∃ (b off : Nat) (x : Int), a = some ⟨b, off, none⟩ ∧ b < B ∧ 0 ≤ x ∧ x ≤ 255 ∧ w.cell? ⟨b, off + j, none⟩ = some (.int .u8 x)) :
    Cur B (w.alloc (.cells #[.slice a n cap, .int .i64 0, .int .i64 h] 55)) w.heap.size := by
  refine ⟨hB, a, n, cap, 0, h, heap_alloc_new w _, by omega, by omega, fun j hj => ?_⟩
  obtain ⟨b, off, x, ha, hb, hx0, hx1, hc⟩ := hcode j hj
  exact ⟨b, off, x, ha, hb, hx0, hx1, (World.grownBy_alloc w _ none).cell hc (by simp)⟩

/-- What making a cursor ends in. -/
def NewEnd (B : Nat) (w : World) (e : Ending) (w' : World) : Prop :=
  e = .returned (.pointer (some ⟨w.heap.size, 0, none⟩)) ∧ Cur B w' w.heap.size ∧ Below w.heap.size w w'

set_option maxRecDepth 100000 in
set_option maxHeartbeats 1000000 in
theorem curNew (B : Nat) (v : Value) (n : Nat) (w : World) (hB : B ≤ w.heap.size) (h : Code B w v n) :
    Calls Try.prog 18 #[v] w (NewEnd B w) := by
  obtain ⟨a, cap, rfl, hn, hcode⟩ := h
  have HC := Lib.hid hcode; clear hcode
  go_enter Try.func18, Try.ntmps18
  go_wp2_with fail
  go_loop [3, 4] (fun m i => ∃ (k : Nat) (h : Int), k ≤ n ∧ i = .int .i64 k ∧ m = .int .i64 h ∧ 0 ≤ h ∧ h ≤ 1099511627775) (fun _ i => n - (intOf i).toNat)
  case atStart => exact ⟨0, 26583 + n, by omega, rfl, rfl, by omega, by omega⟩
  case round =>
    obtain ⟨k, h, hk, rfl, rfl, hh0, hh1⟩ := hrel
    by_cases hlt : k < n
    · by_cases hlt2 : k < 4000
      · obtain ⟨b, off, x, rfl, hb, hx0, hx1, hcell⟩ := HC.out k hlt
        go_wp2_with fail
        have hm := and_mask (h * 131 + x + 7) 1073741823 (by omega) (by omega)
        exact ⟨⟨k + 1, _, by omega, by go_num, rfl, hm.1, by omega⟩, by simp [intOf]; omega⟩
      · go_wp2_with fail
        go_ret
        exact ⟨rfl, new_cur h hB hn HC.out, (Below.refl _ _).alloc (Nat.le_refl _) _⟩
    · go_wp2_with fail
      go_ret
      exact ⟨rfl, new_cur h hB hn HC.out, (Below.refl _ _).alloc (Nat.le_refl _) _⟩

/-- What picking ends in. -/
def PickEnd (B p : Nat) (cs : List Value) (w : World) (e : Ending) (w' : World) : Prop :=
  ∃ x, e = .returned x ∧ x ∈ cs ∧ Cur B w' p ∧ w.grownBy w' (some p)

set_option maxRecDepth 100000 in
set_option maxHeartbeats 1000000 in
theorem curPickInt (B p b cap : Nat) (ns : List Int) (h0 : 0 < ns.length) (hn : ns.length ≤ 1000) (hbp : b ≠ p) (T : TypeId) (cs : Array Value) (w : World) (hrow : w.heap[b]? = some (.cells cs T (0, 0))) (hcs : cs = (ns.map (Value.int .i64)).toArray) (h : Cur B w p) :
    Calls Try.prog 52 #[.pointer (some ⟨p, 0, none⟩), .slice (some ⟨b, 0, none⟩) ns.length cap] w (PickEnd B p (ns.map (Value.int .i64)) w) := by
  have HC := Lib.hid h; clear h
  have HR := Lib.hid hrow; clear hrow
  have HS := Lib.hid hcs; clear hcs
  go_enter Try.func52, Try.ntmps52
  go_wp2_with fail
  refine (curBelow B p ns.length (by omega) (by omega) _ HC.out).mono ?_
  rintro e w1 ⟨x, rfl, hx0, hx1, hc1, hg1⟩
  obtain ⟨k, rfl⟩ := Int.eq_ofNat_of_zero_le hx0
  have hk : k < ns.length := by omega
  have c1 : w1.cell? ⟨b, k, none⟩ = some (.int .i64 ns[k]) := by
    have hlt : b < w.heap.size := (Array.getElem?_eq_some_iff.1 HR.out).1
    have hr1 : w1.heap[b]? = some (.cells cs T (0, 0)) := by rw [hg1.block b hlt (by simpa using hbp)]; exact HR.out
    rw [cell_of_row w1 b k _ _ _ hr1, HS.out]
    simp [hk]
  have HC1 := Lib.hid hc1; clear hc1
  have HG1 := Lib.hid hg1; clear hg1
  go_wp2_with fail
  go_ret
  exact ⟨_, rfl, List.mem_map.2 ⟨ns[k], List.getElem_mem hk, rfl⟩, HC1.out, HG1.out⟩
theorem Cur.keeps {B p : Nat} {w w' : World} (h : Cur B w p) (hg : w.grownBy w' none) : Cur B w' p := by
  obtain ⟨lo, a, n, cap, i, x, hrow, hin, hn, hcode⟩ := h
  have hp : p < w.heap.size := (Array.getElem?_eq_some_iff.1 hrow).1
  refine ⟨lo, a, n, cap, i, x, by rw [hg.block p hp (by simp)]; exact hrow, hin, hn, fun j hj => ?_⟩
  obtain ⟨b, off, y, ha, hb, h0, h1, hc⟩ := hcode j hj
  exact ⟨b, off, y, ha, hb, h0, h1, hg.cell hc (by simp)⟩
theorem Cur.inside {B p : Nat} {w : World} (h : Cur B w p) : p < w.heap.size := by
  obtain ⟨lo, a, n, cap, i, x, hrow, _⟩ := h
  exact (Array.getElem?_eq_some_iff.1 hrow).1
theorem Cur.past {B p : Nat} {r : Option Nat} {w w' : World} (h : Cur B w p) (hg : w.grownBy w' r) (hp : some p ≠ r) (hB : ∀ k, r = some k → B ≤ k) : Cur B w' p := by
  obtain ⟨lo, a, n, cap, i, x, hrow, hin, hn, hcode⟩ := h
  refine ⟨lo, a, n, cap, i, x, by rw [hg.block p (Array.getElem?_eq_some_iff.1 hrow).1 hp]; exact hrow, hin, hn, fun j hj => ?_⟩
  obtain ⟨b, off, y, ha, hb, h0, h1, hc⟩ := hcode j hj
  exact ⟨b, off, y, ha, hb, h0, h1, hg.cell hc (fun e => Nat.lt_irrefl _ (Nat.lt_of_lt_of_le hb (hB b e.symm)))⟩
theorem grown_own {w w2 w3 : World} {p r : Option Nat} (h : w.grownBy w2 p) (h3 : w2.grownBy w3 r) (hr : ∀ k, r = some k → w.heap.size ≤ k) : w.grownBy w3 p :=
  ⟨h3.os.trans h.os, h3.tape.trans h.tape, h3.output.trans h.output, Nat.le_trans h.size h3.size, fun k hk hne => by
    rw [h3.block k (Nat.lt_of_lt_of_le hk h.size) (fun e => by have := hr k e.symm; omega)]; exact h.block k hk hne⟩
theorem below_grown {w w' : World} (h : Below w.heap.size w w') : w.grownBy w' none := ⟨h.os, h.tape, h.output, h.size, fun k hk _ => h.block k hk⟩
theorem grown_thru {w w1 w' : World} {p : Option Nat} (h : w.grownBy w1 p) (hb : Below w1.heap.size w1 w') : w.grownBy w' p := grown_own h (below_grown hb) (fun k e => by cases e)
theorem Cur.beside {B p : Nat} {w w' : World} (h : Cur B w p) (hb : Below w.heap.size w w') : Cur B w' p := h.keeps (below_grown hb)
theorem grown_under {p : Nat} {w w' : World} {B : Nat} (hg : w.grownBy w' (some p)) (h1 : B ≤ w.heap.size) (h2 : B ≤ p) : Below B w w' :=
  (Below.refl B w).grown hg h1 (fun k hk => by cases hk; exact h2)
set_option maxRecDepth 100000 in
set_option maxHeartbeats 1000000 in
theorem curOnce (B p : Nat) (n : Int) (hn0 : 0 < n) (hn1 : n ≤ 4000000000) (w : World) (h : Cur B w p) :
    Calls Try.prog 51 #[.pointer (some ⟨p, 0, none⟩), .int .i64 n] w fun e w' => (e = .returned (.bool true) ∨ e = .returned (.bool false)) ∧ Cur B w' p ∧ w.grownBy w' (some p) := by
  have HC := Lib.hid h; clear h
  go_enter Try.func51, Try.ntmps51
  go_wp2_with fail
  refine (curBelow B p n hn0 hn1 _ HC.out).mono ?_
  rintro e w1 ⟨x, rfl, hx0, hx1, hc1, hg1⟩
  have H1 := Lib.hid hc1; clear hc1
  have G1 := Lib.hid hg1; clear hg1
  by_cases h0 : x = 0
  · subst h0
    go_wp2_with fail
    go_ret
    exact ⟨Or.inl rfl, H1.out, G1.out⟩
  · have hb : (x == 0) = false := by rw [beq_eq_false_iff_ne]; exact h0
    go_wp2_with fail
    go_ret
    exact ⟨Or.inr rfl, H1.out, G1.out⟩

end Go.Proofs.Ytgoohelkgaklgaa
