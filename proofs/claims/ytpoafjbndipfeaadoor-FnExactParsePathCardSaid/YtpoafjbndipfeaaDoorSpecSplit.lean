/-
  Proved: spec.SplitByte returns the pieces of the text between the places of the byte, in new memory, and leaves the memory that was there as it was. On these terms: a text of at most 2^20 bytes.
-/
import Derived.Test.YtpoafjbndipfeaaDoorStrs
import Derived.Test.YtpoafjbndipfeaaDoorPieces
namespace Go.Proofs.YtpoafjbndipfeaaDoor
open Go.RowKit

/-- What cutting ends in. -/
def SplitEnd (c : UInt8) (l : List UInt8) (w : World) (e : Ending) (w' : World) : Prop :=
  ∃ (v : Value) (ss : List ByteArray), e = .returned v ∧ ss.map (·.data.toList) = Num.pieces c l ∧ ss.length ≤ 1048578 ∧ w'.ownsRow w.heap.size 9 1 v ss.length (ss.map Value.string) ∧ Below w.heap.size w w'

theorem one_new (w : World) (t : TypeId) (x : Value) : ∀ j u, [x][j]? = some u → (w.alloc (.cells #[x] t)).cell? ((⟨w.heap.size, 0, none⟩ : Addr).add j) = some u := by
  intro j u h
  have hj : j = 0 := by
    have := (List.getElem?_eq_some_iff.1 h).1
    simpa using this
  subst hj
  simp at h
  subst h
  rw [addr_add]
  simp

set_option maxRecDepth 100000 in
set_option maxHeartbeats 2000000 in
theorem specSplit (s : ByteArray) (b : UInt8) (hs : s.size ≤ 1048576) (w : World) :
    Calls Tryd.prog 42 #[.string s, .int .u8 (b.toNat : Int)] w (SplitEnd b s.data.toList w) := by
  obtain ⟨i0, hi, hz0, hz1, hz2⟩ := info_parts info_str
  have HI := Lib.hid hi; clear hi
  have HZ0 := Lib.hid hz0; clear hz0
  have HZ1 := Lib.hid hz1; clear hz1
  have HZ2 := Lib.hid hz2; clear hz2
  have HL : Hid (s.data.toList.length = s.size) := by show _ = _; rw [Array.length_toList]; rfl
  go_enter Tryd.func42, Tryd.ntmps42
  go_wp2_with fail
  go_loopw [5, 6, 7] (fun v f i wr => ∃ (k a : Nat) (ss : List ByteArray), k ≤ s.size + 1 ∧ i = .int .i64 k ∧ f = .int .i64 a ∧ ss.length ≤ k ∧ Num.Cut b s.data.toList (ss.map (·.data.toList)) a k ∧ wr.ownsRow w.heap.size 9 1 v ss.length (ss.map Value.string) ∧ Below w.heap.size w wr) (fun _ _ i _ => s.size + 1 - (intOf i).toNat)
  case atStart => exact ⟨0, 0, [], by omega, rfl, rfl, by simp, Num.Cut.start _ _, World.ownsRow_made w #[] 0 (Nat.le_refl _) (Nat.zero_le _) rfl, (Below.refl _ _).alloc (Nat.le_refl _) _⟩
  case round =>
    obtain ⟨k, a, ss, hk, rfl, rfl, hsl, hcut, hown, hb⟩ := hrel
    have hak := hcut.from_le
    have HC := Lib.hid hcut; clear hcut
    have HO := Lib.hid hown; clear hown
    have HB := Lib.hid hb; clear hb
    by_cases hle : k ≤ s.size
    · by_cases hlt : k < s.size
      · have hne : ((k : Int) == (s.size : Int)) = false := by rw [beq_eq_false_iff_ne]; omega
        have hat : s.data.toList[k]? = some s[k] := by rw [List.getElem?_eq_getElem (by rw [HL.out]; exact hlt)]; rfl
        by_cases hbk : s[k] = b
        · have HT : Hid (Num.Cut b s.data.toList (ss.map (·.data.toList) ++ [Num.seg s.data.toList a k]) (k + 1) (k + 1)) := HC.out.hit (by rw [HL.out]; exact hlt) (by rw [hat, hbk])
          have htest : ((s[k].toNat : Int) == (b.toNat : Int)) = true := by rw [hbk]; simp
          clear hbk hat
          go_wp2_with (at_builtin; go_must (refine wpList_append_own _ rfl (.tmp 26) (.tmp 31) 64 rfl w.heap.size 9 i0 (.string ⟨#[]⟩) 1 16 Tryd.underlying64 HI.out HZ0.out HZ1.out HZ2.out rfl (by decide) _ _ _ rfl (HO.out.alloc _) ⟨wr.heap.size, 0, none⟩ 1 1 [.string (s.extract a k)] rfl rfl (one_new _ _ _) (by simp [Value.oneCell']) (by unfold maxLen; omega) (by omega) (by have := HB.out.size; simp; omega) ?_); intro v2 w2 hown2 hg2 _; refine Hid.out ?_)
          refine Lib.hid ?_
          have hb2 : Below w.heap.size w w2 := (HB.out.alloc HB.out.size _).grown hg2 (by have := HB.out.size; simp; omega) (fun k hk => (HO.out.lt k hk).1)
          have hown3 : w2.ownsRow w.heap.size 9 1 v2 (ss ++ [s.extract a k]).length ((ss ++ [s.extract a k]).map Value.string) := by simpa using hown2
          have HO2 := Lib.hid hown3; clear hown3 hown2 hg2
          have HB2 := Lib.hid hb2; clear hb2
          go_wp2_with fail
          exact ⟨⟨k + 1, k + 1, ss ++ [s.extract a k], by omega, by go_num, by go_num, by simp; omega, by rw [List.map_append, List.map_cons, List.map_nil, Num.extract_seg]; exact HT.out, HO2.out, HB2.out⟩, by simp [intOf]; omega⟩
        · have HT : Hid (Num.Cut b s.data.toList (ss.map (·.data.toList)) a (k + 1)) := HC.out.pass (by rw [HL.out]; exact hlt) (by rw [hat]; intro e; exact hbk (Option.some.inj e))
          have htest : ((s[k].toNat : Int) == (b.toNat : Int)) = false := by
            rw [beq_eq_false_iff_ne]; intro e; exact hbk (UInt8.toNat_inj.1 (by omega))
          clear hbk hat
          go_wp2_with fail
          exact ⟨⟨k + 1, a, ss, by omega, by go_num, rfl, by omega, HT.out, HO.out, HB.out⟩, by simp [intOf]; omega⟩
      · obtain rfl : k = s.size := by omega
        have HT : Hid (Num.Cut b s.data.toList (ss.map (·.data.toList) ++ [Num.seg s.data.toList a s.size]) (s.size + 1) (s.size + 1)) := by
          have h := HC.out
          rw [← HL.out] at h
          have := h.last
          rw [HL.out] at this; exact this
        go_wp2_with (at_builtin; go_must (refine wpList_append_own _ rfl (.tmp 26) (.tmp 31) 64 rfl w.heap.size 9 i0 (.string ⟨#[]⟩) 1 16 Tryd.underlying64 HI.out HZ0.out HZ1.out HZ2.out rfl (by decide) _ _ _ rfl (HO.out.alloc _) ⟨wr.heap.size, 0, none⟩ 1 1 [.string (s.extract a s.size)] rfl rfl (one_new _ _ _) (by simp [Value.oneCell']) (by unfold maxLen; omega) (by omega) (by have := HB.out.size; simp; omega) ?_); intro v2 w2 hown2 hg2 _; refine Hid.out ?_)
        refine Lib.hid ?_
        have hb2 : Below w.heap.size w w2 := (HB.out.alloc HB.out.size _).grown hg2 (by have := HB.out.size; simp; omega) (fun k hk => (HO.out.lt k hk).1)
        have hown3 : w2.ownsRow w.heap.size 9 1 v2 (ss ++ [s.extract a s.size]).length ((ss ++ [s.extract a s.size]).map Value.string) := by simpa using hown2
        have HO2 := Lib.hid hown3; clear hown3 hown2 hg2
        have HB2 := Lib.hid hb2; clear hb2
        go_wp2_with fail
        exact ⟨⟨s.size + 1, s.size + 1, ss ++ [s.extract a s.size], by omega, by go_num, by go_num, by simp; omega, by rw [List.map_append, List.map_cons, List.map_nil, Num.extract_seg]; exact HT.out, HO2.out, HB2.out⟩, by simp [intOf]⟩
    · have hd := HC.out.done (by rw [HL.out]; exact hle)
      have HD := Lib.hid hd; clear hd
      go_wp2_with fail
      go_ret
      exact ⟨_, ss, rfl, HD.out, by omega, HO.out, HB.out⟩
end Go.Proofs.YtpoafjbndipfeaaDoor
