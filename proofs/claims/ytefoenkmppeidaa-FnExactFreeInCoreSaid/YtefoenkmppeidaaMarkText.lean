/-
  Proved: laws.markText returns the letter m and the decimal digits of a positive number, and leaves the memory that was there as it was.
-/
import Derived.Test.YtefoenkmppeidaaProg
import Derived.Test.YtefoenkmppeidaaNum
import Derived.WalkKit
import Derived.WalkSpells
import Derived.WalkLawsBesides
import Derived.Lib.Hide
namespace Go.Proofs.Ytefoenkmppeidaa
open Go.RowKit

/-- The text that marks number k. -/
def mt (k : Nat) : ByteArray := ⟨(109 :: Num.dd k).toArray⟩

theorem conv_mark (w : World) (x : Int) (h0 : 0 ≤ x) (h1 : x ≤ 255) :
    (convert 160 9 (.slice (some ⟨w.heap.size, 0, none⟩) 1 1)).run Try.prog (w.alloc (.cells #[.int .u8 x] 5)) =
      .ok (.string ⟨[UInt8.ofNat x.toNat].toArray⟩) (w.alloc (.cells #[.int .u8 x] 5)) := by
  have h := run_convert_bytes_back (P := Try.prog) (w.alloc (.cells #[.int .u8 x] 5)) 160 9 5 ⟨w.heap.size, 0, none⟩ 1 [UInt8.ofNat x.toNat] Try.underlying160 Try.underlying5 Try.underlying9
    (fun j hj => by
      have : j = 0 := by simpa using hj
      subst this
      have e : ((UInt8.ofNat x.toNat).toNat : Int) = x := by
        rw [UInt8.toNat_ofNat']; omega
      simp only [List.getElem_cons_zero, e]
      have := World.cell?_alloc_mark w #[.int .u8 x] 5 (0, 0) 0
      simp only [Addr.add]
      exact this)
  exact h

set_option maxRecDepth 100000 in
set_option maxHeartbeats 1000000 in
theorem markText (n : Int) (h0 : 0 < n) (h1 : n ≤ 9223372036854775807) (w : World) :
    Calls Try.prog 80 #[.int .i64 n] w fun e w' => e = .returned (.string (mt n.natAbs)) ∧ Below w.heap.size w w' := by
  go_enter Try.func80, Try.ntmps80
  go_wp2_with fail
  go_loopw [0, 3] (fun v o wr => ∃ m : Int, ∃ l : List UInt8, 0 ≤ m ∧ m ≤ 9223372036854775807 ∧ v = .int .i64 m ∧ o = .string ⟨l.toArray⟩ ∧ Num.dd n.natAbs = Num.dd m.natAbs ++ l ∧ Below w.heap.size w wr) (fun v _ _ => (intOf v).natAbs)
  case atStart => exact ⟨n, [], by omega, by omega, rfl, rfl, by simp, Below.refl _ w⟩
  case round =>
    obtain ⟨m, l, hm0, hm1, rfl, rfl, hd, hg⟩ := hrel
    have HD := Lib.hid hd; clear hd
    have hlen : l.length ≤ 20 := Num.len_of20 n m l (by omega) HD.out
    by_cases hm : 0 < m
    · have hcv := conv_mark wr (48 + m % 10) (by omega) (by omega)
      go_wp2
      exact ⟨⟨m / 10, UInt8.ofNat (48 + m % 10).toNat :: l, by omega, by omega, rfl, congrArg Value.string (Num.bytes_append [_] l), Num.round_pos n m l hm0 (by omega) HD.out, hg.alloc hg.size _⟩, by show (m / 10).natAbs < m.natAbs; omega⟩
    · go_wp2
      go_ret
      refine ⟨?_, hg⟩
      have h2 := HD.out
      rw [show m = 0 from by omega, show (0 : Int).natAbs = 0 from rfl, Num.dd_zero] at h2
      unfold mt
      rw [h2]; exact congrArg (fun x => Ending.returned (Value.string x)) (Num.bytes_append [109] l)
end Go.Proofs.Ytefoenkmppeidaa
