/-
  Proved: impl.FormatPath writes a list of numbers with dots between them, the empty list as a dash; the memory that was there stays as it was. On these terms: at most 2^20 numbers; the library's table of powers of ten holds what the program's text lays.
-/
import Derived.Test.YtdgfkmnnjhlpbaaDoorPathText
import Derived.Test.YtdgfkmnnjhlpbaaDoorLaw
namespace Go.Proofs.YtdgfkmnnjhlpbaaDoor
open Go.RowKit

def Pow10At (w : World) : Prop := Lib.TabIs Tryd.prog w "internal/strconv.uint64pow10" .u64 Lib.pow10Tab
theorem Pow10At.below {w w' : World} (h : Pow10At w) (hb : Below w.heap.size w w') : Pow10At w' := Law.tab_below hb h
set_option maxRecDepth 100000 in
set_option maxHeartbeats 2000000 in
theorem implPathText (v : Value) (ns : List Int) (hn : ns.length ≤ 1048576) (hr : i64s ns) (w : World) (hp : Pow10At w) (h : Ints w v ns) :
    Calls Tryd.prog 74 #[v] w fun e w' => e = .returned (.string (pathText ns)) ∧ Below w.heap.size w w' := by
  obtain ⟨i0, hi, hz0, hz1, hz2⟩ := info_parts info_str
  have HR := Lib.hid hr; clear hr
  have HP := Lib.hid hp; clear hp
  obtain ⟨a, cap, rfl, hcap, hat⟩ := h
  have HC := Lib.hid hat; clear hat
  cases ns with
  | nil =>
    go_enter Tryd.func74, Tryd.ntmps74
    go_wp2_with fail
    go_ret
    exact ⟨rfl, Below.refl _ _⟩
  | cons n0 r0 =>
  have hpos : 0 < (n0 :: r0).length := by simp
  have HPT : Hid (pathText (n0 :: r0) = ⟨(Lib.join ((numerals (n0 :: r0)).map (·.data.toList)) [46]).toArray⟩) := rfl
  revert HPT hpos
  generalize n0 :: r0 = ns at *
  intro hpos HPT
  have qb : ((ns.length : Int) == 0) = false := by rw [beq_eq_false_iff_ne]; omega
  go_enter Tryd.func74, Tryd.ntmps74
  go_wp2_with (at_make; refine wpList_make_full _ rfl _ _ 80 rfl w.heap.size 9 i0 (.string ⟨#[]⟩) 1 Tryd.underlying80 hi hz0 hz1 .i64 .i64 _ _ ns.length rfl rfl rfl rfl (by rw [hz2]; omega) (by unfold maxLen; omega) (Nat.le_refl _) ?_; intro w0 hown0 hg0; refine Hid.out ?_)
  refine Lib.hid ?_
  have hb0 : Below w.heap.size w w0 := (Below.refl _ w).grown hg0 (Nat.le_refl _) (fun k hk => by cases hk)
  have hown1 : w0.ownsRow w.heap.size 9 1 (.slice (some ⟨w.heap.size, 0, none⟩) ns.length ns.length) ns.length (((numerals ns).take 0).map Value.string ++ List.replicate ((numerals ns).length - 0) (Value.string ⟨#[]⟩)) := by
    have : (madeCells (Value.string ⟨#[]⟩).cells (ns.length * 1)).toList = List.replicate ns.length (Value.string ⟨#[]⟩) := by rw [Nat.mul_one]; exact toList_madeCells_one _ _
    rw [this] at hown0; rw [numerals_length]; simpa using hown0
  have HO := Lib.hid hown1; clear hown1 hown0 hg0 hi hz0 hz1 hz2
  have HB := Lib.hid hb0; clear hb0
  go_wp2_with fail
  go_loopw [14] (fun i wr => ∃ k : Nat, k ≤ ns.length ∧ i = .int .i64 k ∧ wr.ownsRow w.heap.size 9 1 (.slice (some ⟨w.heap.size, 0, none⟩) ns.length ns.length) ns.length (((numerals ns).take k).map Value.string ++ List.replicate ((numerals ns).length - k) (Value.string ⟨#[]⟩)) ∧ Below w.heap.size w wr) (fun i _ => ns.length - (intOf i).toNat)
  case atStart => exact ⟨0, by omega, rfl, HO.out, HB.out⟩
  case round =>
    obtain ⟨k, hk, rfl, hown, hb⟩ := hrel
    have HO2 := Lib.hid hown; clear hown
    have HB2 := Lib.hid hb; clear hb
    by_cases hlt : k < ns.length
    · obtain ⟨b, off, rfl, hbl, hcell⟩ := HC.out k hlt
      have c0 : wr.cell? ⟨b, off + k, none⟩ = some (.int .i64 ns[k]) := by rw [HB2.out.cell (p := ⟨b, off + k, none⟩) hbl]; exact hcell
      have hrk := HR.out ns[k] (List.getElem_mem hlt)
      have HRK := Lib.hid hrk
      clear hcell hrk
      go_wp2_with fail
      refine (implFormat ns[k] HRK.out.1 HRK.out.2 _ (HP.out.below HB2.out)).mono ?_
      rintro e w1 ⟨rfl, hb1⟩
      have HO3 := Lib.hid (own_below HO2.out hb1)
      have HB3 := Lib.hid (HB2.out.trans (hb1.mono HB2.out.size))
      clear hb1 HO2 HB2 c0
      have hlt2 : k < (numerals ns).length := by rw [numerals_length]; exact hlt
      have c1 : ∃ u, w1.cell? ⟨w.heap.size, k, none⟩ = some u := by
        rw [HO3.out.cellAt k (by omega)]
        exact ⟨_, List.getElem?_eq_getElem (by simp; omega)⟩
      obtain ⟨u, c1⟩ := c1
      have f1 := HO3.out.frozenAt k
      have hst := HO3.out.stored k (.string (numerals ns)[k])
      rw [num_next (numerals ns) k hlt2] at hst
      have HS := Lib.hid hst; clear hst
      have HE : Hid ((numerals ns)[k] = ⟨(Lib.itoa ns[k]).toArray⟩) := by show _ = _; simp [numerals, numeral]
      rw [HE.out] at HS
      go_wp2_with fail
      exact ⟨⟨k + 1, by omega, by go_num, HS.out.1, HB3.out.setCell (Nat.le_refl _) _⟩, by simp [intOf]; omega⟩
    · obtain rfl : k = ns.length := by omega
      have HL := HO2.out
      rw [← numerals_length ns, List.take_length, Nat.sub_self, List.replicate_zero, List.append_nil] at HL
      have HS := Lib.hid (Strs.of_own HL)
      clear HL HO2
      rw [numerals_length] at HS
      go_wp2_with fail
      refine (implJoin _ (numerals ns) ⟨#[46]⟩ (by rw [numerals_length]; exact hn) (by have := numerals_total _ HR.out; omega) (by decide) _ HS.out).mono ?_
      rintro e w1 ⟨rfl, hb1⟩
      have HB1 := Lib.hid (HB2.out.trans (hb1.mono HB2.out.size))
      clear hb1
      go_wp2_with fail
      go_ret
      exact ⟨by rw [HPT.out]; rfl, HB1.out⟩
end Go.Proofs.YtdgfkmnnjhlpbaaDoor
