/-
  Proved: a draw's cursor is made over the bytes that came in, in new memory; picking from a list of strings gives one of its elements and changes the cursor alone.
-/
import Derived.Test.YtafehlhmkomeiaaDoorCur
import Derived.Test.YtafehlhmkomeiaaDoorStrs
namespace Go.Proofs.YtafehlhmkomeiaaDoor
open Go.RowKit

/-- In the world w the slice value v reads as bytes that lie below block B. -/
def Code (B : Nat) (w : World) (v : Value) (n : Nat) : Prop :=
  ∃ a cap, v = .slice a n cap ∧ n ≤ 1048576 ∧ ∀ j, j < n → ∃ (b off : Nat) (x : Int), a = some ⟨b, off, none⟩ ∧ b < B ∧ 0 ≤ x ∧ x ≤ 255 ∧ w.cell? ⟨b, off + j, none⟩ = some (.int .u8 x)

theorem new_cur {B n cap : Nat} {a : Option Addr} {w : World} (h : Int) (hB : B ≤ w.heap.size) (hn : n ≤ 1048576)
    (hcode : ∀ j, j < n → ∃ (b off : Nat) (x : Int), a = some ⟨b, off, none⟩ ∧ b < B ∧ 0 ≤ x ∧ x ≤ 255 ∧ w.cell? ⟨b, off + j, none⟩ = some (.int .u8 x)) :
    Cur B (w.alloc (.cells #[.slice a n cap, .int .i64 0, .int .i64 h] 45)) w.heap.size := by
  refine ⟨hB, a, n, cap, 0, h, heap_alloc_new w _, by omega, by omega, fun j hj => ?_⟩
  obtain ⟨b, off, x, ha, hb, hx0, hx1, hc⟩ := hcode j hj
  exact ⟨b, off, x, ha, hb, hx0, hx1, (World.grownBy_alloc w _ none).cell hc (by simp)⟩

/-- What making a cursor ends in. -/
def NewEnd (B : Nat) (w : World) (e : Ending) (w' : World) : Prop :=
  e = .returned (.pointer (some ⟨w.heap.size, 0, none⟩)) ∧ Cur B w' w.heap.size ∧ Below w.heap.size w w'

set_option maxRecDepth 100000 in
set_option maxHeartbeats 1000000 in
theorem curNew (B : Nat) (v : Value) (n : Nat) (w : World) (hB : B ≤ w.heap.size) (h : Code B w v n) :
    Calls Tryd.prog 19 #[v] w (NewEnd B w) := by
  obtain ⟨a, cap, rfl, hn, hcode⟩ := h
  have HC := Lib.hid hcode; clear hcode
  go_enter Tryd.func19, Tryd.ntmps19
  go_wp2_with fail
  go_loop [3, 4] (fun m i => ∃ (k : Nat) (h : Int), k ≤ n ∧ i = .int .i64 k ∧ m = .int .i64 h ∧ 0 ≤ h ∧ h ≤ 1099511627775) (fun _ i => n - (intOf i).toNat)
  case atStart => exact ⟨0, 26583 + n, by omega, rfl, rfl, by omega, by omega⟩
  case round =>
    obtain ⟨k, h, hk, rfl, rfl, hh0, hh1⟩ := hrel
    by_cases hlt : k < n
    · by_cases hlt2 : k < 4000
      · obtain ⟨b, off, x, rfl, hb, hx0, hx1, hcell⟩ := HC.out k hlt
        go_wp2_with fail
        have hm := and_mask (h * 131 + x + 7) 1073741823 (by omega) (by omega)
        exact ⟨⟨k + 1, _, by omega, by go_num, rfl, hm.1, by omega⟩, by simp [intOf]; omega⟩
      · go_wp2_with fail
        go_ret
        exact ⟨rfl, new_cur h hB hn HC.out, (Below.refl _ _).alloc (Nat.le_refl _) _⟩
    · go_wp2_with fail
      go_ret
      exact ⟨rfl, new_cur h hB hn HC.out, (Below.refl _ _).alloc (Nat.le_refl _) _⟩

/-- What picking ends in. -/
def PickEnd (B p : Nat) (cs : List Value) (w : World) (e : Ending) (w' : World) : Prop :=
  ∃ x, e = .returned x ∧ x ∈ cs ∧ Cur B w' p ∧ w.grownBy w' (some p)

set_option maxRecDepth 100000 in
set_option maxHeartbeats 1000000 in
theorem curPick (B p b cap : Nat) (ss : List ByteArray) (h0 : 0 < ss.length) (hn : ss.length ≤ 1000) (hbp : b ≠ p) (T : TypeId) (cs : Array Value) (w : World) (hrow : w.heap[b]? = some (.cells cs T (0, 0))) (hcs : cs = (ss.map Value.string).toArray) (h : Cur B w p) :
    Calls Tryd.prog 21 #[.pointer (some ⟨p, 0, none⟩), .slice (some ⟨b, 0, none⟩) ss.length cap] w (PickEnd B p (ss.map Value.string) w) := by
  have HC := Lib.hid h; clear h
  have HR := Lib.hid hrow; clear hrow
  have HS := Lib.hid hcs; clear hcs
  go_enter Tryd.func21, Tryd.ntmps21
  go_wp2_with fail
  refine (curBelow B p ss.length (by omega) (by omega) _ HC.out).mono ?_
  rintro e w1 ⟨x, rfl, hx0, hx1, hc1, hg1⟩
  obtain ⟨k, rfl⟩ := Int.eq_ofNat_of_zero_le hx0
  have hk : k < ss.length := by omega
  have c1 : w1.cell? ⟨b, k, none⟩ = some (.string ss[k]) := by
    have hlt : b < w.heap.size := (Array.getElem?_eq_some_iff.1 HR.out).1
    have hr1 : w1.heap[b]? = some (.cells cs T (0, 0)) := by rw [hg1.block b hlt (by simpa using hbp)]; exact HR.out
    rw [cell_of_row w1 b k _ _ _ hr1, HS.out]
    simp [hk]
  have HC1 := Lib.hid hc1; clear hc1
  have HG1 := Lib.hid hg1; clear hg1
  go_wp2_with fail
  go_ret
  exact ⟨_, rfl, List.mem_map.2 ⟨ss[k], List.getElem_mem hk, rfl⟩, HC1.out, HG1.out⟩

end Go.Proofs.YtafehlhmkomeiaaDoor
