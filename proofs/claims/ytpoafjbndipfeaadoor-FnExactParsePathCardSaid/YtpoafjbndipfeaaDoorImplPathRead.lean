/-
  Proved: impl.ParsePath reads a text as a path, in new memory; the memory that was there stays as it was. On these terms: a text of at most 2^20 bytes; the library's variable MaxLen holds some int, its table and its two errors hold what the program's text lays.
-/
import Derived.Test.YtpoafjbndipfeaaDoorSpecPathRead
import Derived.Test.YtpoafjbndipfeaaDoorImplSplit
import Derived.Test.YtpoafjbndipfeaaDoorImplParseN
namespace Go.Proofs.YtpoafjbndipfeaaDoor
open Go.RowKit

set_option maxRecDepth 100000 in
set_option maxHeartbeats 2000000 in
theorem implPathRead (s : ByteArray) (hs : s.size ≤ 1048576) (w : World) (hM : HasMax w) (hL : Lays w) :
    Calls Tryd.prog 19 #[.string s] w (PathEnd s.data.toList w) := by
  obtain ⟨i0, hi, hz0, hz1, hz2⟩ := info_parts info_i
  have HI := Lib.hid hi; clear hi
  have HZ0 := Lib.hid hz0; clear hz0
  have HZ1 := Lib.hid hz1; clear hz1
  have HZ2 := Lib.hid hz2; clear hz2
  have HM := Lib.hid hM; clear hM
  have HL := Lib.hid hL; clear hL
  cases hq : (s.toList == [45]) with
  | true =>
    have HE := Lib.hid (text_is hq)
    go_enter Tryd.func19, Tryd.ntmps19
    go_wp2_with fail
    go_ret2
    exact ⟨_, [], true, rfl, Or.inl ⟨HE.out, rfl, rfl⟩, by simp, ints_none, Below.refl _ _⟩
  | false =>
    have HE := Lib.hid (text_isnt hq)
    go_enter Tryd.func19, Tryd.ntmps19
    go_wp2_with fail
    refine (implSplit s 46 hs _ HM.out).mono ?_
    rintro e w1 ⟨v1, ss, rfl, hp, hn, hown, hb⟩
    have HB := Lib.hid hb
    have HS := Lib.hid hown
    have HP := Lib.hid hp
    clear hb hown hp
    have HSZ : Hid (∀ k (h : k < ss.length), ss[k].size ≤ 1048576) := fun k h => by
      have h1 := piece_at HP.out k h
      have h2 := piece_small 46 s.data.toList _ (List.mem_of_getElem? h1)
      rw [Array.length_toList, Array.length_toList] at h2
      exact Nat.le_trans h2 hs
    obtain ⟨a1, cap1, rfl⟩ := row_slice HS.out
    go_wp2_with fail
    go_loopw [4, 14] (fun out i wr => ∃ k : Nat, k ≤ ss.length ∧ i = .int .i64 k ∧ PathLoop s w ss (.slice a1 ss.length cap1) k out wr) (fun _ i _ => ss.length - (intOf i).toNat)
    case atStart => exact ⟨0, by omega, rfl, ⟨[], rfl, fun j n p h => by simp at h, ints_none, HS.out, HB.out⟩⟩
    case round =>
      obtain ⟨k, hk, rfl, ns, hnl, hok, hown, hws, hb⟩ := hrel
      have HOK := Lib.hid hok; clear hok
      have HO1 := Lib.hid hown; clear hown
      have HW1 := Lib.hid hws; clear hws
      have HB1 := Lib.hid hb; clear hb
      by_cases hlt : k < ss.length
      · obtain ⟨b, off, rfl, hbl, hcell⟩ := strs_cell (Strs.of_own HW1.out) k hlt
        have HPK := Lib.hid (piece_at HP.out k hlt)
        go_wp2_with fail
        refine (implParseNumber ss[k] (HSZ.out k hlt) _ (HL.out.below HB1.out)).mono ?_
        rintro e w2 ⟨n, ok, rfl, hR, hb2⟩
        have HR := Lib.hid hR; clear hR
        have HB2 := Lib.hid (HB1.out.trans (hb2.mono HB1.out.size))
        have HO2 := Lib.hid (own_below HO1.out hb2)
        have HW2 := Lib.hid (own_below HW1.out hb2)
        clear hb2 HO1 HB1 HW1 hcell
        have BAD : Hid (stepBad ss[k].data.toList → PathReads s.data.toList [] false) := fun hbad => Or.inr (Or.inr ⟨HE.out, rfl, rfl, _, List.mem_of_getElem? HPK.out, hbad⟩)
        cases ok with
        | false =>
          go_wp2_with fail
          go_ret2
          exact ⟨_, [], false, rfl, BAD.out (step_bad HR.out (Or.inl rfl)), by simp, ints_none, HB2.out⟩
        | true =>
          by_cases hbig : 2 < n
          · have HF := Lib.hid (BAD.out (step_bad HR.out (Or.inr hbig)))
            go_wp2_with fail
            go_ret2
            exact ⟨_, [], false, rfl, HF.out, by simp, ints_none, HB2.out⟩
          · have HN := Lib.hid (next_ok HOK.out hnl HPK.out (step_ok HR.out (by omega)))
            go_wp2_with (at_builtin; go_must (refine wpList_append_own _ rfl (.tmp 29) (.tmp 31) 28 rfl w.heap.size 3 i0 (.int .i64 0) 1 8 Tryd.underlying28 HI.out HZ0.out HZ1.out HZ2.out rfl (by decide) _ _ _ rfl (HO2.out.alloc _) ⟨w2.heap.size, 0, none⟩ 1 1 [.int .i64 n] rfl rfl (one_int _ _ _) (by simp [Value.oneCell']) (by unfold maxLen; omega) (by omega) (by have := HB2.out.size; simp; omega) ?_); intro v2 w3 hown2 hg2 _; refine Hid.out ?_)
            refine Lib.hid ?_
            have hb3 : Below w.heap.size w w3 := (HB2.out.alloc HB2.out.size _).grown hg2 (by have := HB2.out.size; simp; omega) (fun k hk => (HO2.out.lt k hk).1)
            have hw3 := (HW2.out.alloc _).kept hg2 (own_apart HW2.out HO2.out (by decide))
            have hown3 : w3.ownsRow w.heap.size 3 1 v2 (k + 1) ((ns ++ [n]).map (Value.int IntKind.i64)) := by
              rw [List.map_append]; exact hown2
            have HO3 := Lib.hid hown3
            have HW3 := Lib.hid hw3
            have HB3 := Lib.hid hb3
            clear hown2 hg2 hb3 hw3 hown3
            go_wp2_with fail
            exact ⟨⟨k + 1, by omega, by go_num, ns ++ [n], by simp [hnl], HN.out, HO3.out, HW3.out, HB3.out⟩, by simp [intOf]; omega⟩
      · obtain rfl : k = ss.length := by omega
        have HFIN : Hid (PathReads s.data.toList ns true) := Or.inr (Or.inl ⟨HE.out, rfl, by rw [hnl]; exact piece_len HP.out, HOK.out⟩)
        go_wp2_with fail
        go_ret2
        refine ⟨_, ns, true, rfl, HFIN.out, by omega, ?_, HB1.out⟩
        rw [hnl]; exact HO1.out
end Go.Proofs.YtpoafjbndipfeaaDoor
