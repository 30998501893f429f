/-
  Proved: picking from a list of strings gives one of them, turning a text gives a text that is hardly longer; both change the draw's cursor alone.
-/
import Derived.Test.YtgoohelkgaklgaaCurTy
import Derived.Deep.RegionHeld3
import Derived.Test.YtgoohelkgaklgaaHold
namespace Go.Proofs.Ytgoohelkgaklgaa
open Go.RowKit

set_option maxRecDepth 100000 in
set_option maxHeartbeats 1000000 in
theorem curPick (B p b cap : Nat) (ss : List ByteArray) (h0 : 0 < ss.length) (hn : ss.length ≤ 1000) (hbp : b ≠ p) (T : TypeId) (cs : Array Value) (w : World) (hrow : w.heap[b]? = some (.cells cs T (0, 0))) (hcs : cs = (ss.map Value.string).toArray) (h : Cur B w p) :
    Calls Try.prog 47 #[.pointer (some ⟨p, 0, none⟩), .slice (some ⟨b, 0, none⟩) ss.length cap] w (PickEnd B p (ss.map Value.string) w) := by
  have HC := Lib.hid h; clear h
  have HR := Lib.hid hrow; clear hrow
  have HS := Lib.hid hcs; clear hcs
  go_enter Try.func47, Try.ntmps47
  go_wp2_with fail
  refine (curBelow B p ss.length (by omega) (by omega) _ HC.out).mono ?_
  rintro e w1 ⟨x, rfl, hx0, hx1, hc1, hg1⟩
  obtain ⟨k, rfl⟩ := Int.eq_ofNat_of_zero_le hx0
  have hk : k < ss.length := by omega
  have c1 : w1.cell? ⟨b, k, none⟩ = some (.string ss[k]) := by
    have hlt : b < w.heap.size := (Array.getElem?_eq_some_iff.1 HR.out).1
    have hr1 : w1.heap[b]? = some (.cells cs T (0, 0)) := by rw [hg1.block b hlt (by simpa using hbp)]; exact HR.out
    rw [cell_of_row w1 b k _ _ _ hr1, HS.out]
    simp [hk]
  have HC1 := Lib.hid hc1; clear hc1
  have HG1 := Lib.hid hg1; clear hg1
  go_wp2_with fail
  go_ret
  exact ⟨_, rfl, List.mem_map.2 ⟨ss[k], List.getElem_mem hk, rfl⟩, HC1.out, HG1.out⟩

set_option maxRecDepth 100000 in
set_option maxHeartbeats 4000000 in
theorem curTurned (B p b cap : Nat) (ss : List ByteArray) (h0 : 0 < ss.length) (hn : ss.length ≤ 1000) (hss : ∀ x, x ∈ ss → x.size ≤ 1000) (hbp : b ≠ p) (T : TypeId) (cs : Array Value) (s : ByteArray) (hs : s.size ≤ 1000000) (w : World) (hrow : w.heap[b]? = some (.cells cs T (0, 0))) (hcs : cs = (ss.map Value.string).toArray) (h : Cur B w p) :
    Calls Try.prog 26 #[.pointer (some ⟨p, 0, none⟩), .string s, .slice (some ⟨b, 0, none⟩) ss.length cap] w fun e w' => ∃ u : ByteArray, e = .returned (.string u) ∧ u.size ≤ s.size + 1000 ∧ Cur B w' p ∧ w.grownBy w' (some p) := by
  have HC := Lib.hid h; clear h
  have HR := Lib.hid hrow; clear hrow
  have HS := Lib.hid hcs; clear hcs
  have HSS := Lib.hid hss; clear hss
  have hblt : b < w.heap.size := (Array.getElem?_eq_some_iff.1 HR.out).1
  go_enter Try.func26, Try.ntmps26
  go_wp2_with fail
  refine (curBelow B p ((s.size : Int) + 1) (by omega) (by omega) _ HC.out).mono ?_
  rintro e w1 ⟨x, rfl, hx0, hx1, hc1, hg1⟩
  obtain ⟨k, rfl⟩ := Int.eq_ofNat_of_zero_le hx0
  have hk : k ≤ s.size := by omega
  clear hx0 hx1
  have G := Lib.hid hg1
  have H1 := Lib.hid hc1
  have R1 : Hid (w1.heap[b]? = some (.cells cs T (0, 0))) := by show _ = _; rw [hg1.block b hblt (by simpa using hbp)]; exact HR.out
  clear hg1 hc1
  have hb1 : b < w1.heap.size := (Array.getElem?_eq_some_iff.1 R1.out).1
  go_wp2_with fail
  refine (curBelow B p 6 (by omega) (by omega) _ H1.out).mono ?_
  rintro e w2 ⟨x, rfl, hx0, hx1, hc1, hg1⟩
  replace G := Lib.hid (G.out.trans hg1)
  have H2 := Lib.hid hc1
  have R2 : Hid (w2.heap[b]? = some (.cells cs T (0, 0))) := by show _ = _; rw [hg1.block b hb1 (by simpa using hbp)]; exact R1.out
  clear hg1 hc1 H1 R1 HC HR
  have hse : (s.extract 0 k).size = k := by rw [ByteArray.size_extract]; omega
  have hsf : (s.extract k s.size).size = s.size - k := by rw [ByteArray.size_extract]; omega
  have HSE := Lib.hid hse; clear hse
  have HSF := Lib.hid hsf; clear hsf
  by_cases hx : x = 0
  · subst hx
    go_wp2_with fail
    have HD := Lib.hid (H2.out.beside (below_drew w2))
    have RD : Hid (w2.drew.heap[b]? = some (.cells cs T (0, 0))) := R2.out
    have GD := Lib.hid (grown_thru G.out (below_drew w2))
    clear H2 R2 G
    have s1 : ¬ ((s.size : Int) < (k : Int)) := by omega
    have hk2 : (k : Int) ≤ (s.size : Int) := by omega
    go_region_held3 (fun _ => True) (trivial)
      (first
       | (go_at_call 47
          refine (curPick B p b cap ss h0 hn hbp T cs _ RD.out HS.out HD.out).mono ?_
          rintro e w3 ⟨x, rfl, hx, hc3, hg3⟩
          obtain ⟨u, hu, rfl⟩ := List.mem_map.1 hx
          have hus := HSS.out u hu
          have H3 := Lib.hid hc3
          have G3 := Lib.hid (GD.out.trans hg3)
          have b3 : ¬ (9223372036854775807 < k + u.size) := by omega
          have b4 : ¬ (9223372036854775807 < k + u.size + (s.size - k)) := by omega
          clear hc3 hg3 hu hx))
    go_wp2_with fail
    go_ret
    exact ⟨_, rfl, by simp only [ByteArray.size_append, HSE.out, HSF.out]; omega, H3.out, G3.out⟩
  · have n0 : (x == 0) = false := by rw [beq_eq_false_iff_ne]; exact hx
    by_cases hx1 : x = 1
    · subst hx1
      go_wp2_with fail
      go_ret
      exact ⟨_, rfl, by rw [HSE.out]; omega, H2.out, G.out⟩
    · have n1 : (x == 1) = false := by rw [beq_eq_false_iff_ne]; exact hx1
      go_wp2_with fail
      go_ret
      exact ⟨_, rfl, by omega, H2.out, G.out⟩
end Go.Proofs.Ytgoohelkgaklgaa
