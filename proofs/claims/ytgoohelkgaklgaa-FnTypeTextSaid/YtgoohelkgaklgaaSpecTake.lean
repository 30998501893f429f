/-
  Proved: spec.l4Take takes one byte from the text that it reads, if it stands there and nothing was bad; it changes the reader alone.
-/
import Derived.Test.YtgoohelkgaklgaaTyRead
import Derived.Test.YtgoohelkgaklgaaCur
import Derived.BigQuiet
namespace Go.Proofs.Ytgoohelkgaklgaa
open Go.RowKit

/-- The reader of a text, in a block of its own. -/
def RdAt (w : World) (R : Nat) (s : ByteArray) (p : Nat) (bad : Bool) : Prop := w.heap[R]? = some (.cells #[.string s, .int .i64 p, .bool bad] 46 (0, 0))
theorem one_byte (s : ByteArray) (p : Nat) (hlt : p < s.size) : (s.extract p (p + 1)).toList = [s[p]] := by
  rw [ByteArray.toList_eq]
  have e : (s.extract p (p + 1)).data = s.data.extract p (p + 1) := by
    rw [ByteArray.data_extract]
  rw [e]
  have hlt2 : p < s.data.size := hlt
  apply List.ext_getElem
  · simp only [Array.length_toList, Array.size_extract, List.length_cons, List.length_nil]
    omega
  · intro i h1 h2
    have hi : i = 0 := by simpa using h2
    subst hi
    simp
    rfl
theorem RdAt.in {w : World} {R : Nat} {s : ByteArray} {p : Nat} {bad : Bool} (h : RdAt w R s p bad) : R < w.heap.size := (Array.getElem?_eq_some_iff.1 h).1
set_option maxRecDepth 100000 in
set_option maxHeartbeats 2000000 in
theorem specTakeHit (R : Nat) (s : ByteArray) (p : Nat) (c : UInt8) (w : World) (hs : s.size ≤ 1048576) (h : RdAt w R s p false) (hlt : p < s.size) (hc : s[p] = c) :
    Calls Try.prog 48 #[.pointer (some ⟨R, 0, none⟩), .string ⟨#[c]⟩] w fun e w' => e = .returned (.bool true) ∧ RdAt w' R s (p + 1) false ∧ w.grownBy w' (some R) := by
  have HR := Lib.hid h; clear h
  have x0 := cell_of_row w R 0 _ _ _ HR.out
  have x1 := cell_of_row w R 1 _ _ _ HR.out
  have x2 := cell_of_row w R 2 _ _ _ HR.out
  have f1 := frozen_of_row w R 1 _ _ HR.out
  have hd : decide ((s.size : Int) < (p : Int) + 1) = false := by simpa using (by omega : (p : Int) + 1 ≤ (s.size : Int))
  have he : ((s.extract p (p + 1)).toList == [c]) = true := by rw [one_byte s p hlt, hc]; simp
  clear hc
  go_enter Try.func48, Try.ntmps48
  go_wp2_with fail
  go_quiet (fail)
  go_wp2_with fail
  go_ret
  refine ⟨rfl, ?_, ?_⟩
  · exact heap_setCell_same (w.drewN _) R 1 _ 46 (.int .i64 ((p + 1 : Nat) : Int)) HR.out
  · exact (grown_draws (World.grownBy.refl w _) _).trans (grown_set _ R 1 _)
set_option maxRecDepth 100000 in
set_option maxHeartbeats 2000000 in
theorem specTakeMiss (R : Nat) (s : ByteArray) (p : Nat) (c : UInt8) (w : World) (hs : s.size ≤ 1048576) (hp : p ≤ s.size) (h : RdAt w R s p false) (hc : ∀ h : p < s.size, s[p] ≠ c) :
    Calls Try.prog 48 #[.pointer (some ⟨R, 0, none⟩), .string ⟨#[c]⟩] w fun e w' => e = .returned (.bool false) ∧ RdAt w' R s p false ∧ w.grownBy w' (some R) := by
  have HR := Lib.hid h; clear h
  have x0 := cell_of_row w R 0 _ _ _ HR.out
  have x1 := cell_of_row w R 1 _ _ _ HR.out
  have x2 := cell_of_row w R 2 _ _ _ HR.out
  by_cases hlt : p < s.size
  · have hd : decide ((s.size : Int) < (p : Int) + 1) = false := by simpa using (by omega : (p : Int) + 1 ≤ (s.size : Int))
    have he : ((s.extract p (p + 1)).toList == [c]) = false := by rw [one_byte s p hlt]; simpa using hc hlt
    clear hc
    go_enter Try.func48, Try.ntmps48
    go_wp2_with fail
    go_quiet (fail)
    go_wp2_with fail
    go_ret
    exact ⟨rfl, HR.out, grown_draws (World.grownBy.refl w _) _⟩
  · have hd : decide ((s.size : Int) < (p : Int) + 1) = true := by simpa using (by omega : (s.size : Int) < (p : Int) + 1)
    clear hc
    go_enter Try.func48, Try.ntmps48
    go_wp2_with fail
    go_quiet (fail)
    go_wp2_with fail
    go_ret
    exact ⟨rfl, HR.out, grown_draws (World.grownBy.refl w _) _⟩
set_option maxRecDepth 100000 in
set_option maxHeartbeats 2000000 in
theorem specTakeBad (R : Nat) (s : ByteArray) (p : Nat) (c : UInt8) (w : World) (h : RdAt w R s p true) :
    Calls Try.prog 48 #[.pointer (some ⟨R, 0, none⟩), .string ⟨#[c]⟩] w fun e w' => e = .returned (.bool false) ∧ RdAt w' R s p true ∧ w.grownBy w' (some R) := by
  have HR := Lib.hid h; clear h
  have x0 := cell_of_row w R 0 _ _ _ HR.out
  have x1 := cell_of_row w R 1 _ _ _ HR.out
  have x2 := cell_of_row w R 2 _ _ _ HR.out
  go_enter Try.func48, Try.ntmps48
  go_wp2_with fail
  go_quiet (fail)
  go_wp2_with fail
  go_ret
  exact ⟨rfl, HR.out, grown_draws (World.grownBy.refl w _) _⟩
end Go.Proofs.Ytgoohelkgaklgaa
