/-
  Proved: spec.WithoutName and impl.WithoutName list the strings that differ from a text, in their order and in new memory; the memory that was there stays as it was.
-/
import Derived.Test.YtefoenkmppeidaaStrs
import Derived.Test.YtefoenkmppeidaaStrsIn
import Derived.Maps.AppendAt
namespace Go.Proofs.Ytefoenkmppeidaa
open Go.RowKit

/-- The strings that differ from s. -/
def without : List ByteArray → ByteArray → List ByteArray
  | [], _ => []
  | a :: r, s => if a.toList == s.toList then without r s else a :: without r s
theorem without_yes (ss : List ByteArray) (s : ByteArray) : ∀ k (h : k < ss.length), (ss[k].toList == s.toList) = true → without (ss.take (k + 1)) s = without (ss.take k) s := by
  induction ss with
  | nil => intro k h; simp at h
  | cons a r ih =>
    intro k h hq
    cases k with
    | zero => simp only [List.getElem_cons_zero] at hq; simp [without, hq]
    | succ k =>
      simp only [List.getElem_cons_succ] at hq
      simp only [List.take_succ_cons, without]
      rw [ih k (by simpa using h) hq]
theorem without_no (ss : List ByteArray) (s : ByteArray) : ∀ k (h : k < ss.length), (ss[k].toList == s.toList) = false → without (ss.take (k + 1)) s = without (ss.take k) s ++ [ss[k]] := by
  induction ss with
  | nil => intro k h; simp at h
  | cons a r ih =>
    intro k h hq
    cases k with
    | zero => simp only [List.getElem_cons_zero] at hq; simp [without, hq]
    | succ k =>
      simp only [List.getElem_cons_succ] at hq
      simp only [List.take_succ_cons, without, List.getElem_cons_succ]
      rw [ih k (by simpa using h) hq]
      split <;> simp
theorem without_few (s : ByteArray) : ∀ ss : List ByteArray, (without ss s).length ≤ ss.length
  | [] => Nat.le_refl _
  | a :: r => by have := without_few s r; simp only [without]; split <;> simp <;> omega
theorem without_part (ss : List ByteArray) (s : ByteArray) (k : Nat) : (without (ss.take k) s).length ≤ ss.length :=
  Nat.le_trans (without_few s _) (by simp; omega)
theorem news_str (w : World) (x : Value) (t : TypeId) : ∀ j u, [x][j]? = some u → (w.alloc (.cells #[x] t)).cell? ((⟨w.heap.size, 0, none⟩ : Addr).add j) = some u := by
  intro j u hj
  match j, hj with
  | 0, hj =>
    simp at hj
    subst hj
    simp [Addr.add]
def RowEnd (ns : List ByteArray) (w : World) (e : Ending) (w' : World) : Prop := ∃ v, e = .returned v ∧ StrsIn w' v ns w.heap.size w'.heap.size ∧ Below w.heap.size w w'
set_option maxRecDepth 100000 in
set_option maxHeartbeats 2000000 in
theorem specWithout (v : Value) (ss : List ByteArray) (s : ByteArray) (hn : ss.length ≤ 1048576) (w : World) (h : Strs w v ss) :
    Calls Try.prog 72 #[v, .string s] w (RowEnd (without ss s) w) := by
  obtain ⟨i0, hi, hz0, hz1, hz2⟩ := info_parts info_str
  have HI := Lib.hid hi; clear hi
  have HZ0 := Lib.hid hz0; clear hz0
  have HZ1 := Lib.hid hz1; clear hz1
  have HZ2 := Lib.hid hz2; clear hz2
  obtain ⟨a, cap, rfl, hc, hat⟩ := h
  have HAT := Lib.hid hat; clear hat
  go_enter Try.func72, Try.ntmps72
  go_wp2_with fail
  go_loopw [5, 6] (fun o i wr => ∃ (k : Nat) (L : List ByteArray), k ≤ ss.length ∧ i = .int .i64 k ∧ L = without (ss.take k) s ∧ wr.ownsRow w.heap.size 9 1 o L.length (L.map Value.string) ∧ Below w.heap.size w wr) (fun _ i _ => ss.length - (intOf i).toNat)
  case atStart => exact ⟨0, [], by omega, rfl, by simp [without], World.ownsRow_made w #[] 0 (Nat.le_refl _) (Nat.zero_le _) rfl, (Below.refl _ _).alloc (Nat.le_refl _) _⟩
  case round =>
    obtain ⟨k, L, hk, rfl, hL, hown, hb⟩ := hrel
    have hpart := without_part ss s k
    rw [← hL] at hpart
    have HL := Lib.hid hL; clear hL
    have HO := Lib.hid hown; clear hown
    have HB := Lib.hid hb; clear hb
    by_cases hlt : k < ss.length
    · obtain ⟨b, off, rfl, hbl, hcell⟩ := HAT.out k hlt
      have e0 : wr.cell? ⟨b, off + k, none⟩ = some (.string ss[k]) := (HB.out.cell (p := ⟨b, off + k, none⟩) hbl).trans hcell
      clear hcell
      cases hq : (ss[k].toList == s.toList) with
      | true =>
        have HT := Lib.hid (without_yes ss s k hlt hq)
        go_wp2_with fail
        exact ⟨⟨k + 1, L, by omega, by go_num, by rw [HT.out]; exact HL.out, HO.out, HB.out⟩, by simp [intOf]; omega⟩
      | false =>
        have HT := Lib.hid (without_no ss s k hlt hq)
        go_wp2_with (at_builtin; go_must (refine wpList_append_own_at _ rfl _ _ 63 rfl w.heap.size 9 i0 (.string ⟨#[]⟩) 1 16 Try.underlying63 HI.out HZ0.out HZ1.out HZ2.out rfl (by decide) _ _ _ rfl (HO.out.alloc _) ⟨wr.heap.size, 0, none⟩ 1 1 [.string ss[k]] rfl rfl (news_str _ _ _) (by simp [Value.oneCell']) (by unfold maxLen; omega) (by omega) (by have := HB.out.size; simp; omega) ?_); intro v2 w2 hown2 hg2 _ _; refine Hid.out ?_)
        refine Lib.hid ?_
        have hb2 : Below w.heap.size w w2 := (HB.out.alloc HB.out.size _).grown hg2 (by have := HB.out.size; simp; omega) (fun k hk => (HO.out.lt k hk).1)
        have hown3 : w2.ownsRow w.heap.size 9 1 v2 (L ++ [ss[k]]).length ((L ++ [ss[k]]).map Value.string) := by simpa using hown2
        have HO2 := Lib.hid hown3; clear hown3 hown2 hg2
        have HB2 := Lib.hid hb2; clear hb2
        go_wp2_with fail
        exact ⟨⟨k + 1, L ++ [ss[k]], by omega, by go_num, by rw [HT.out, HL.out], HO2.out, HB2.out⟩, by simp [intOf]; omega⟩
    · obtain rfl : k = ss.length := by omega
      have hfin : without ss s = L := by rw [HL.out, List.take_length]
      have HFN := Lib.hid hfin; clear hfin
      go_wp2_with fail
      go_ret
      rw [HFN.out]
      exact ⟨_, rfl, StrsIn.of HO.out (Nat.le_refl _), HB.out⟩
end Go.Proofs.Ytefoenkmppeidaa
