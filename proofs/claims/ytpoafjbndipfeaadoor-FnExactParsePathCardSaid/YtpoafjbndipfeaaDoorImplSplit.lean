/-
  Proved: impl.SplitByte returns the pieces of the text between the places of the byte, in new memory, and leaves the memory that was there as it was. On these terms: a text of at most 2^20 bytes; the library's variable MaxLen holds some int.
-/
import Derived.Test.YtpoafjbndipfeaaDoorSpecSplit
import Derived.Test.YtpoafjbndipfeaaDoorMarkText
import Derived.Test.YtpoafjbndipfeaaDoorShelfStr
namespace Go.Proofs.YtpoafjbndipfeaaDoor
open Go.RowKit

/-- The library's variable MaxLen holds some int. -/
def HasMax (w : World) : Prop := ∃ m : Int, w.cell? ⟨2, 0, none⟩ = some (.int .i64 m)
theorem HasMax.below {w w' : World} (h : HasMax w) (hb : Below w.heap.size w w') : HasMax w' := by
  obtain ⟨m, hm⟩ := h
  refine ⟨m, ?_⟩
  have hlt : 2 < w.heap.size := by
    by_cases hlt : 2 < w.heap.size
    · exact hlt
    · exfalso
      simp [World.cell?, Array.getElem?_eq_none (Nat.le_of_not_lt hlt)] at hm
  rw [hb.cell (p := ⟨2, 0, none⟩) hlt]; exact hm

set_option maxRecDepth 100000 in
set_option maxHeartbeats 1000000 in
theorem implSplit (s : ByteArray) (b : UInt8) (hs : s.size ≤ 1048576) (w : World) (hM : HasMax w) :
    Calls Tryd.prog 44 #[.string s, .int .u8 (b.toNat : Int)] w (SplitEnd b s.data.toList w) := by
  have hcv := conv_mark w (b.toNat : Int) (by omega) (by have := b.toNat_lt; omega)
  have e : [UInt8.ofNat (b.toNat : Int).toNat] = [b] := by simp
  rw [e] at hcv
  have hb0 : Below w.heap.size w (w.alloc (.cells #[.int .u8 (b.toNat : Int)] 5)) := (Below.refl _ _).alloc (Nat.le_refl _) _
  have HB0 := Lib.hid hb0; clear hb0
  obtain ⟨m, hm⟩ := hM.below HB0.out
  have HM := Lib.hid hm; clear hm hM
  go_enter Tryd.func44, Tryd.ntmps44
  go_wp2_with fail
  refine (Tryd.strings_Split s ⟨[b].toArray⟩ m _ (by omega) HM.out (Nat.le_refl 1)).mono ?_
  rintro e w1 ⟨rfl, rfl⟩
  have hsp := Num.split_pieces b s.data.toList
  have hmap : (Lib.splitB ⟨[b].toArray⟩ 0 (Lib.countB s ⟨[b].toArray⟩) s).map (·.data.toList) = Num.pieces b s.data.toList := by
    rw [Lib.splitB_data]; exact hsp.1
  have hlen : (Lib.splitB ⟨[b].toArray⟩ 0 (Lib.countB s ⟨[b].toArray⟩) s).length = Lib.countB s ⟨[b].toArray⟩ + 1 := by
    have h1 := congrArg List.length hmap
    rw [List.length_map, ← hsp.2] at h1; exact h1
  have hcnt : Lib.countB s ⟨[b].toArray⟩ ≤ s.size + 1 := by
    have h1 := Lib.count_le s.data.toList [b]
    rw [Array.length_toList] at h1; exact h1
  generalize Lib.splitB ⟨[b].toArray⟩ 0 (Lib.countB s ⟨[b].toArray⟩) s = ss at hmap hlen
  generalize Lib.countB s ⟨[b].toArray⟩ = n at hlen hcnt
  have HH := Lib.hid hlen
  have HP := Lib.hid hmap
  clear hsp hmap hlen
  go_wp2_with fail
  go_ret
  have hl := HH.out
  refine ⟨_, ss, rfl, HP.out, ?_, ?_, HB0.out.alloc HB0.out.size _⟩
  · omega
  · have := World.ownsRow_lit (base := w.heap.size) (e := 9) (size := 1) (w.alloc (.cells #[.int .u8 (b.toNat : Int)] 5)) (ss.map Value.string).toArray (n + 1) HB0.out.size (by unfold maxLen; omega) (by simp; omega)
    rw [hl]
    simpa using this
end Go.Proofs.YtpoafjbndipfeaaDoor
