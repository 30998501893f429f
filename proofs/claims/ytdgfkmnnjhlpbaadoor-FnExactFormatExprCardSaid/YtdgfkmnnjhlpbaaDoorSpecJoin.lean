/-
  Proved: spec.Join joins the strings with the separator between them, and leaves the memory that was there as it was. On these terms: the strings, their number and the separator are small (2^20).
-/
import Derived.Test.YtdgfkmnnjhlpbaaDoorStrs
import Derived.Test.YtdgfkmnnjhlpbaaDoorJoined
import Derived.Lib.Join
import Derived.Lib.UnsafeStr
import Derived.Laws.BytesArg
namespace Go.Proofs.YtdgfkmnnjhlpbaaDoor
open Go.RowKit

/-- 'string(b)' of a slice that owns its bytes. -/
theorem conv_own {w : World} {base : Nat} {v : Value} {l : List UInt8} (h : w.ownsRow base 5 1 v l.length (Lib.byteCells l)) :
    (convert 119 9 v).run Tryd.prog w = .ok (.string ⟨l.toArray⟩) w := by
  have hcells := fun g (hg : v.ownBlock = some g) => h.cells hg
  rcases h.2 with ⟨rfl, hn⟩ | ⟨g, cap, cur, rfl, _⟩
  · have : l = [] := List.length_eq_zero_iff.1 hn
    subst this
    exact run_convert_bytes_nil w 119 5 Tryd.underlying119 Tryd.underlying5 0 0 _ Tryd.underlying9
  · refine run_convert_bytes_back w _ _ 5 ⟨g, 0, none⟩ cap l Tryd.underlying119 Tryd.underlying5 Tryd.underlying9 fun j hj => ?_
    exact hcells g rfl j _ (by simp [Lib.byteCells, hj])
theorem info_byte : (Tryd.prog.info? 5).map (fun i => (i.zero, i.size, i.bytes)) = some (some (.int .u8 0), 1, 1) := by kernel_rfl

set_option maxRecDepth 100000 in
set_option maxHeartbeats 2000000 in
theorem specJoin (v : Value) (ss : List ByteArray) (sep : ByteArray) (hn : ss.length ≤ 1048576) (ht : total ss ≤ 1073741824) (hs : sep.size ≤ 1048576) (w : World) (h : Strs w v ss) :
    Calls Tryd.prog 62 #[v, .string sep] w (JoinEnd ss sep w) := by
  obtain ⟨i0, hi, hz0, hz1, hz2⟩ := info_parts info_byte
  obtain ⟨a, cap, rfl, hcap, hat⟩ := h
  have HC := Lib.hid hat; clear hat
  have HI := Lib.hid hi; clear hi
  have HZ0 := Lib.hid hz0; clear hz0
  have HZ1 := Lib.hid hz1; clear hz1
  have HZ2 := Lib.hid hz2; clear hz2
  go_enter Tryd.func62, Tryd.ntmps62
  go_wp2_with fail
  go_loopw [5, 6] (fun v i wr => ∃ k : Nat, k ≤ ss.length ∧ i = .int .i64 k ∧ wr.ownsRow w.heap.size 5 1 v (joined ss sep k).length (Lib.byteCells (joined ss sep k)) ∧ Below w.heap.size w wr) (fun _ i _ => ss.length - (intOf i).toNat)
  case atStart => exact ⟨0, by omega, rfl, by rw [joined_zero]; exact World.ownsRow_made w #[] 0 (Nat.le_refl _) (Nat.zero_le _) rfl, (Below.refl _ _).alloc (Nat.le_refl _) _⟩
  case round =>
    obtain ⟨k, hk, rfl, hown, hb⟩ := hrel
    have HL := Lib.hid (joined_small ss sep k hk hn ht hs)
    by_cases hlt : k < ss.length
    · obtain ⟨b, off, rfl, hbl, hcell⟩ := HC.out k hlt
      have hz := size_le ss k hlt
      have HO := Lib.hid hown; clear hown
      have HB := Lib.hid hb; clear hb
      have HCE := Lib.hid hcell; clear hcell
      by_cases hk0 : 0 < k
      · go_wp2_with (at_builtin; go_must (refine Lib.wpList_append_own_string _ rfl (.tmp 16) (.tmp 17) 119 9 rfl w.heap.size 5 i0 Tryd.underlying119 Tryd.underlying9 HI.out HZ0.out HZ1.out HZ2.out _ _ _ rfl HO.out sep rfl (by have := HL.out; unfold maxLen; omega) (by have := HL.out; omega) HB.out.size ?_); intro v1 w1 hown1 hg1 _; refine Hid.out ?_)
        refine Lib.hid ?_
        have hb1 : Below w.heap.size w w1 := HB.out.grown hg1 HB.out.size (fun k hk => (HO.out.lt k hk).1)
        have c1 : w1.cell? ⟨b, off + k, none⟩ = some (.string ss[k]) := by rw [hb1.cell (p := ⟨b, off + k, none⟩) hbl]; exact HCE.out
        have HO1 := Lib.hid hown1; clear hown1 hg1
        have HB1 := Lib.hid hb1; clear hb1
        go_wp2_with (at_builtin; go_must (refine Lib.wpList_append_own_string _ rfl (.tmp 19) (.tmp 23) 119 9 rfl w.heap.size 5 i0 Tryd.underlying119 Tryd.underlying9 HI.out HZ0.out HZ1.out HZ2.out _ _ _ rfl HO1.out ss[k] rfl (by have := HL.out; unfold maxLen; omega) (by have := HL.out; omega) HB1.out.size ?_); intro v2 w2 hown2 hg2 _; refine Hid.out ?_)
        refine Lib.hid ?_
        have hb2 : Below w.heap.size w w2 := HB1.out.grown hg2 HB1.out.size (fun k hk => (HO1.out.lt k hk).1)
        have hj := joined_next ss sep k hk0 hlt
        have hown3 : w2.ownsRow w.heap.size 5 1 v2 (joined ss sep (k + 1)).length (Lib.byteCells (joined ss sep (k + 1))) := by
          rw [hj, Lib.byteCells_append, Lib.byteCells_append, List.length_append, List.length_append, len_toList, len_toList]
          exact hown2
        have HO2 := Lib.hid hown3; clear hown3 hown2 hg2 hj
        have HB2 := Lib.hid hb2; clear hb2
        go_wp2_with fail
        exact ⟨⟨k + 1, by omega, by go_num, HO2.out, HB2.out⟩, by simp [intOf]; omega⟩
      · have hk0' : ¬ (0 : Int) < k := by omega
        have c1 : wr.cell? ⟨b, off + k, none⟩ = some (.string ss[k]) := by rw [HB.out.cell (p := ⟨b, off + k, none⟩) hbl]; exact HCE.out
        go_wp2_with (at_builtin; go_must (refine Lib.wpList_append_own_string _ rfl (.tmp 19) (.tmp 23) 119 9 rfl w.heap.size 5 i0 Tryd.underlying119 Tryd.underlying9 HI.out HZ0.out HZ1.out HZ2.out _ _ _ rfl HO.out ss[k] rfl (by have := HL.out; unfold maxLen; omega) (by have := HL.out; omega) HB.out.size ?_); intro v2 w2 hown2 hg2 _; refine Hid.out ?_)
        refine Lib.hid ?_
        have hb2 : Below w.heap.size w w2 := HB.out.grown hg2 HB.out.size (fun k hk => (HO.out.lt k hk).1)
        obtain rfl : k = 0 := by omega
        have hown3 : w2.ownsRow w.heap.size 5 1 v2 (joined ss sep 1).length (Lib.byteCells (joined ss sep 1)) := by
          rw [joined_one ss sep hlt, len_toList]
          rw [joined_zero] at hown2
          simpa [Lib.byteCells, Lib.strCells] using hown2
        have HO2 := Lib.hid hown3; clear hown3 hown2 hg2
        have HB2 := Lib.hid hb2; clear hb2
        go_wp2_with fail
        exact ⟨⟨1, by omega, by go_num, HO2.out, HB2.out⟩, by simp [intOf]; omega⟩
    · have : k = ss.length := by omega
      subst this
      rw [joined_all] at hown
      have hcv := conv_own hown
      have HB := Lib.hid hb; clear hb hown
      go_wp2_with fail
      go_ret
      exact ⟨rfl, HB.out⟩
end Go.Proofs.YtdgfkmnnjhlpbaaDoor
