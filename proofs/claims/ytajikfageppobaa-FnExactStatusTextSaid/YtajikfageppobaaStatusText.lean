/-
  Proved: impl.StatusText and spec.StatusText: a letter for each status; the memory that was there stays as it was.
-/
import Derived.Test.YtajikfageppobaaSpecIn
import Derived.Test.YtajikfageppobaaInts
import Derived.Test.YtajikfageppobaaHold
import Derived.Lib.Join
import Derived.Lib.UnsafeStr
import Derived.Laws.BytesArg
namespace Go.Proofs.Ytajikfageppobaa
open Go.RowKit

/-- 'string(b)' of a slice that owns its bytes. -/
theorem conv_own {w : World} {base : Nat} {v : Value} {l : List UInt8} (h : w.ownsRow base 5 1 v l.length (Lib.byteCells l)) :
    (convert 74 9 v).run Try.prog w = .ok (.string ⟨l.toArray⟩) w := by
  have hcells := fun g (hg : v.ownBlock = some g) => h.cells hg
  rcases h.2 with ⟨rfl, hn⟩ | ⟨g, cap, cur, rfl, _⟩
  · have : l = [] := List.length_eq_zero_iff.1 hn
    subst this
    exact run_convert_bytes_nil w 74 5 Try.underlying74 Try.underlying5 0 0 _ Try.underlying9
  · refine run_convert_bytes_back w _ _ 5 ⟨g, 0, none⟩ cap l Try.underlying74 Try.underlying5 Try.underlying9 fun j hj => ?_
    exact hcells g rfl j _ (by simp [Lib.byteCells, hj])
theorem info_byte : (Try.prog.info? 5).map (fun i => (i.zero, i.size, i.bytes)) = some (some (.int .u8 0), 1, 1) := by kernel_rfl

def letterB (n : Int) : UInt8 := if n = 1 then 112 else if n = 2 then 102 else if n = 3 then 111 else if n = 4 then 115 else 63
def statusB (ss : List Int) : ByteArray := ⟨(ss.map letterB).toArray⟩
theorem statusB_size (ss : List Int) : (statusB ss).size = ss.length := by simp [statusB, ByteArray.size]
theorem statusB_next (ss : List Int) (k : Nat) (hk : k < ss.length) : statusB (ss.take (k + 1)) = statusB (ss.take k) ++ ⟨#[letterB ss[k]]⟩ := by
  have e : ss.take (k + 1) = ss.take k ++ [ss[k]] := by rw [List.take_add_one, List.getElem?_eq_getElem hk]; rfl
  rw [e]
  generalize ss.take k = l
  apply ByteArray.ext
  rw [ByteArray.data_append]
  simp [statusB]
/-- A row of values that is filled from its beginning on. -/
theorem row_next (g : Int → Value) (z : Value) (ss : List Int) (k : Nat) (hk : k < ss.length) :
    ((ss.take k).map g ++ List.replicate (ss.length - k) z).set k (g ss[k]) = (ss.take (k + 1)).map g ++ List.replicate (ss.length - (k + 1)) z := by
  apply List.ext_getElem
  · simp; omega
  · intro i h1 h2
    simp at h1 h2
    rw [List.getElem_set]
    by_cases hi : k = i
    · subst hi
      rw [if_pos rfl, List.getElem_append_left (by simp; omega)]
      simp
    · rw [if_neg hi]
      by_cases hlt : i < k
      · rw [List.getElem_append_left (by simp; omega), List.getElem_append_left (by simp; omega)]
        simp
      · rw [List.getElem_append_right (by simp; omega), List.getElem_append_right (by simp; omega)]
        simp
def letterV (n : Int) : Value := .int .u8 ((letterB n).toNat : Int)
set_option maxRecDepth 100000 in
set_option maxHeartbeats 2000000 in
theorem implLetter (n : Int) (w : World) : Calls Try.prog 45 #[.int .i64 n] w fun e w' => e = .returned (letterV n) ∧ Below w.heap.size w w' := by
  by_cases h1 : n = 1
  · subst h1
    go_enter Try.func45, Try.ntmps45
    go_wp2_with fail
    go_ret
    exact ⟨rfl, Below.refl _ _⟩
  by_cases h2 : n = 2
  · subst h2
    go_enter Try.func45, Try.ntmps45
    go_wp2_with fail
    go_ret
    exact ⟨rfl, Below.refl _ _⟩
  by_cases h3 : n = 3
  · subst h3
    go_enter Try.func45, Try.ntmps45
    go_wp2_with fail
    go_ret
    exact ⟨rfl, Below.refl _ _⟩
  by_cases h4 : n = 4
  · subst h4
    go_enter Try.func45, Try.ntmps45
    go_wp2_with fail
    go_ret
    exact ⟨rfl, Below.refl _ _⟩
  have e : Hid (letterV n = .int .u8 63) := by show _ = _; simp [letterV, letterB, h1, h2, h3, h4]
  have q1 : (n == 1) = false := by simp [h1]
  have q2 : (n == 2) = false := by simp [h2]
  have q3 : (n == 3) = false := by simp [h3]
  have q4 : (n == 4) = false := by simp [h4]
  go_enter Try.func45, Try.ntmps45
  go_wp2_with fail
  go_ret
  exact ⟨by rw [e.out]; rfl, Below.refl _ _⟩
set_option maxRecDepth 100000 in
set_option maxHeartbeats 2000000 in
theorem implStatus (v : Value) (ss : List Int) (hn : ss.length ≤ 1048576) (w : World) (h : Ints w v ss) :
    Calls Try.prog 15 #[v] w fun e w' => e = .returned (.string (statusB ss)) ∧ Below w.heap.size w w' := by
  obtain ⟨i0, hi, hz0, hz1, hz2⟩ := info_parts info_byte
  obtain ⟨a, cap, rfl, hcap, hat⟩ := h
  have HC := Lib.hid hat; clear hat
  go_enter Try.func15, Try.ntmps15
  go_wp2_with (at_make; refine wpList_make_full _ rfl _ _ 74 rfl w.heap.size 5 i0 (.int .u8 0) 1 Try.underlying74 hi hz0 hz1 .i64 .i64 _ _ ss.length rfl rfl rfl rfl (by rw [hz2]; omega) (by unfold maxLen; omega) (Nat.le_refl _) ?_; intro w0 hown0 hg0; refine Hid.out ?_)
  refine Lib.hid ?_
  have hb0 : Below w.heap.size w w0 := (Below.refl _ w).grown hg0 (Nat.le_refl _) (fun k hk => by cases hk)
  have hown1 : w0.ownsRow w.heap.size 5 1 (.slice (some ⟨w.heap.size, 0, none⟩) ss.length ss.length) ss.length ((ss.take 0).map letterV ++ List.replicate (ss.length - 0) (Value.int IntKind.u8 0)) := by
    have : (madeCells (Value.int IntKind.u8 0).cells (ss.length * 1)).toList = List.replicate ss.length (Value.int IntKind.u8 0) := by rw [Nat.mul_one]; exact toList_madeCells_one _ _
    rw [this] at hown0; simpa using hown0
  have HO := Lib.hid hown1; clear hown1 hown0 hg0 hi hz0 hz1 hz2
  have HB := Lib.hid hb0; clear hb0
  go_wp2_with fail
  go_loopw [11] (fun i wr => ∃ k : Nat, k ≤ ss.length ∧ i = .int .i64 k ∧ wr.ownsRow w.heap.size 5 1 (.slice (some ⟨w.heap.size, 0, none⟩) ss.length ss.length) ss.length ((ss.take k).map letterV ++ List.replicate (ss.length - k) (Value.int IntKind.u8 0)) ∧ Below w.heap.size w wr) (fun i _ => ss.length - (intOf i).toNat)
  case atStart => exact ⟨0, by omega, rfl, HO.out, HB.out⟩
  case round =>
    obtain ⟨k, hk, rfl, hown, hb⟩ := hrel
    by_cases hlt : k < ss.length
    · obtain ⟨b, off, rfl, hbl, hcell⟩ := HC.out k hlt
      have c0 : wr.cell? ⟨b, off + k, none⟩ = some (.int .i64 ss[k]) := by rw [hb.cell (p := ⟨b, off + k, none⟩) hbl]; exact hcell
      have HO2 := Lib.hid hown; clear hown
      have HB2 := Lib.hid hb; clear hb hcell
      go_wp2_with fail
      clear c0
      refine (implLetter _ wr).mono ?_
      rintro e w1 ⟨rfl, hb1⟩
      have HO3 := Lib.hid (own_below HO2.out hb1)
      have HB3 := Lib.hid (HB2.out.trans (hb1.mono HB2.out.size)); clear hb1 HO2 HB2
      have c1 : ∃ u, w1.cell? ⟨w.heap.size, k, none⟩ = some u := by
        rw [HO3.out.cellAt k (by omega)]
        exact ⟨_, List.getElem?_eq_getElem (by simp; omega)⟩
      obtain ⟨u, c1⟩ := c1
      have f1 := HO3.out.frozenAt k
      have HS := Lib.hid (HO3.out.stored k (letterV ss[k]))
      have HNX := Lib.hid (row_next letterV (Value.int IntKind.u8 0) ss k hlt)
      unfold letterV at HS HNX ⊢
      generalize ((letterB ss[k]).toNat : Int) = lv at HS HNX ⊢
      go_wp2_with fail
      exact ⟨⟨k + 1, by omega, by go_num, by unfold letterV; rw [← HNX.out]; exact HS.out.1, HB3.out.setCell (Nat.le_refl _) _⟩, by simp [intOf]; omega⟩
    · have hk2 : k = ss.length := by omega
      subst hk2
      have hown2 : wr.ownsRow w.heap.size 5 1 (.slice (some ⟨w.heap.size, 0, none⟩) ss.length ss.length) (ss.map letterB).length (Lib.byteCells (ss.map letterB)) := by
        have e : Lib.byteCells (ss.map letterB) = (ss.take ss.length).map letterV ++ List.replicate (ss.length - ss.length) (Value.int IntKind.u8 0) := by simp [Lib.byteCells, letterV]
        rw [e, List.length_map]; exact hown
      have hcv := conv_own hown2
      have HB2 := Lib.hid hb; clear hb hown hown2
      go_wp2_with fail
      go_ret
      exact ⟨rfl, HB2.out⟩
theorem drewT {B : Nat} {a w : World} (h : Below B a w) (n : Nat) : Below B a (w.drewN n) := ⟨h.os, h.tape, h.output, h.size, h.block⟩
set_option maxRecDepth 100000 in
set_option maxHeartbeats 2000000 in
theorem specStatus (v : Value) (ss : List Int) (hn : ss.length ≤ 1048576) (w : World) (h : Ints w v ss) :
    Calls Try.prog 13 #[v] w fun e w' => e = .returned (.string (statusB ss)) ∧ Below w.heap.size w w' := by
  obtain ⟨a, cap, rfl, hcap, hat⟩ := h
  have HC := Lib.hid hat; clear hat
  go_enter Try.func13, Try.ntmps13
  go_wp2_with fail
  go_loopw [3, 4] (fun o i wr => ∃ k : Nat, k ≤ ss.length ∧ i = .int .i64 k ∧ o = .string (statusB (ss.take k)) ∧ Below w.heap.size w wr) (fun _ i _ => ss.length - (intOf i).toNat)
  case atStart => exact ⟨0, by omega, rfl, rfl, Below.refl _ _⟩
  case round =>
    obtain ⟨k, hk, rfl, rfl, hb⟩ := hrel
    by_cases hlt : k < ss.length
    · obtain ⟨b, off, rfl, hbl, hcell⟩ := HC.out k hlt
      have c0 : wr.cell? ⟨b, off + k, none⟩ = some (.int .i64 ss[k]) := by rw [hb.cell (p := ⟨b, off + k, none⟩) hbl]; exact hcell
      have HB := Lib.hid hb; clear hb hcell
      have HNX := Lib.hid (statusB_next ss k hlt)
      have hsz : (statusB (ss.take k)).size ≤ 1048576 := by rw [statusB_size, List.length_take]; omega
      have ha : ¬ (9223372036854775807 < (statusB (ss.take k)).size + 1) := by omega
      generalize ss[k] = s at c0 HNX
      generalize statusB (ss.take k) = acc at HNX hsz ha ⊢
      have HCE := Lib.hid c0
      by_cases h1 : s = 1
      · subst h1
        have hl : Hid (letterB 1 = 112) := rfl
        go_wp2_with fail
        refine (specIn _ _ _ _).mono ?_
        rintro e w1 ⟨he, rfl⟩
        rw [show (decide ((1 : Int) ≤ 1) && decide ((1 : Int) ≤ 4)) = true from by decide] at he
        subst he
        go_wp2_with fail
        go_quiet (fail)
        go_wp2_with fail
        exact ⟨⟨k + 1, by omega, by go_num, by rw [HNX.out, hl.out]; rfl, drewT HB.out nq⟩, by simp [intOf]; omega⟩
      by_cases h2 : s = 2
      · subst h2
        have hl : Hid (letterB 2 = 102) := rfl
        go_wp2_with fail
        refine (specIn _ _ _ _).mono ?_
        rintro e w1 ⟨he, rfl⟩
        rw [show (decide ((1 : Int) ≤ 2) && decide ((2 : Int) ≤ 4)) = true from by decide] at he
        subst he
        go_wp2_with fail
        go_quiet (fail)
        go_wp2_with fail
        exact ⟨⟨k + 1, by omega, by go_num, by rw [HNX.out, hl.out]; rfl, drewT HB.out nq⟩, by simp [intOf]; omega⟩
      by_cases h3 : s = 3
      · subst h3
        have hl : Hid (letterB 3 = 111) := rfl
        go_wp2_with fail
        refine (specIn _ _ _ _).mono ?_
        rintro e w1 ⟨he, rfl⟩
        rw [show (decide ((1 : Int) ≤ 3) && decide ((3 : Int) ≤ 4)) = true from by decide] at he
        subst he
        go_wp2_with fail
        go_quiet (fail)
        go_wp2_with fail
        exact ⟨⟨k + 1, by omega, by go_num, by rw [HNX.out, hl.out]; rfl, drewT HB.out nq⟩, by simp [intOf]; omega⟩
      by_cases h4 : s = 4
      · subst h4
        have hl : Hid (letterB 4 = 115) := rfl
        go_wp2_with fail
        refine (specIn _ _ _ _).mono ?_
        rintro e w1 ⟨he, rfl⟩
        rw [show (decide ((1 : Int) ≤ 4) && decide ((4 : Int) ≤ 4)) = true from by decide] at he
        subst he
        go_wp2_with fail
        go_quiet (fail)
        go_wp2_with fail
        exact ⟨⟨k + 1, by omega, by go_num, by rw [HNX.out, hl.out]; rfl, drewT HB.out nq⟩, by simp [intOf]; omega⟩
      have hl : Hid (letterB s = 63) := by show _ = _; simp [letterB, h1, h2, h3, h4]
      have q : (decide ((1 : Int) ≤ s) && decide (s ≤ 4)) = false := by
        simp only [Bool.and_eq_false_iff, decide_eq_false_iff_not]; omega
      have Q := Lib.hid q; clear q
      go_wp2_with fail
      refine (specIn _ _ _ _).mono ?_
      rintro e w1 ⟨he, rfl⟩
      rw [Q.out] at he
      subst he
      go_wp2_with fail
      exact ⟨⟨k + 1, by omega, by go_num, by rw [HNX.out, hl.out], HB.out⟩, by simp [intOf]; omega⟩
    · have hk2 : k = ss.length := by omega
      subst hk2
      rw [List.take_length]
      have HB2 := Lib.hid hb; clear hb
      go_wp2_with fail
      go_ret
      exact ⟨rfl, HB2.out⟩
end Go.Proofs.Ytajikfageppobaa
