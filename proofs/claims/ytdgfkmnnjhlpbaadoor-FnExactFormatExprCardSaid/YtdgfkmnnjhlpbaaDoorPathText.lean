/-
  Proved: spec.FormatPath and impl.FormatPath write a list of numbers with dots between them, the empty list as a dash; the memory that was there stays as it was. On these terms: at most 2^20 numbers; the library's table of powers of ten holds what the program's text lays.
-/
import Derived.Test.YtdgfkmnnjhlpbaaDoorSpecJoin
import Derived.Test.YtdgfkmnnjhlpbaaDoorImplJoin
import Derived.Test.YtdgfkmnnjhlpbaaDoorFormat
import Derived.Test.YtdgfkmnnjhlpbaaDoorImplFormat
import Derived.Test.YtdgfkmnnjhlpbaaDoorInts
namespace Go.Proofs.YtdgfkmnnjhlpbaaDoor
open Go.RowKit

/-- The numeral of a number. -/
def numeral (n : Int) : ByteArray := ⟨(Lib.itoa n).toArray⟩
def numerals (ns : List Int) : List ByteArray := ns.map numeral
def pathText : List Int → ByteArray
  | [] => ⟨#[45]⟩
  | n :: r => ⟨(Lib.join ((numerals (n :: r)).map (·.data.toList)) [46]).toArray⟩
def i64s (ns : List Int) : Prop := ∀ n ∈ ns, -9223372036854775808 ≤ n ∧ n ≤ 9223372036854775807
theorem numerals_length (ns : List Int) : (numerals ns).length = ns.length := List.length_map _
theorem numeral_size (n : Int) (h0 : -9223372036854775808 ≤ n) (h1 : n ≤ 9223372036854775807) : (numeral n).size ≤ 21 := by
  show (Lib.itoa n).toArray.size ≤ 21
  rw [List.size_toArray]
  rcases Int.lt_trichotomy n 0 with h | h | h
  · rw [Num.itoa_neg n h]
    have := Num.dd_len_le 20 n.natAbs (by omega)
    simp; omega
  · subst h; rw [Num.itoa_zero]; simp
  · rw [Num.itoa_pos n h]
    have := Num.dd_len_le 20 n.natAbs (by omega)
    omega
theorem numerals_total : ∀ (ns : List Int), i64s ns → total (numerals ns) ≤ 21 * ns.length
  | [], _ => by simp [numerals, total]
  | n :: r, h => by
    have h1 := numeral_size n (h n (by simp)).1 (h n (by simp)).2
    have h2 := numerals_total r fun m hm => h m (by simp [hm])
    show (numeral n).size + total (numerals r) ≤ _
    simp only [List.length_cons]; omega
theorem numerals_take (ns : List Int) (k : Nat) (h : k < ns.length) : numerals (ns.take (k + 1)) = numerals (ns.take k) ++ [numeral ns[k]] := by
  unfold numerals
  rw [List.take_succ_eq_append_getElem h, List.map_append]; rfl
theorem own_slice {w : World} {B : Nat} {e : TypeId} {size : Nat} {v : Value} {n : Nat} {xs : List Value} (h : w.ownsRow B e size v n xs) : ∃ a cap, v = .slice a n cap := by
  rcases h.2 with ⟨rfl, hn⟩ | ⟨g, cap, cur, rfl, _⟩
  · exact ⟨none, 0, by rw [hn]⟩
  · exact ⟨_, _, rfl⟩
theorem new_one (w : World) (t : TypeId) (x : Value) : ∀ j u, [x][j]? = some u → (w.alloc (.cells #[x] t)).cell? ((⟨w.heap.size, 0, none⟩ : Addr).add j) = some u := by
  intro j u h
  have hj : j = 0 := by
    have := (List.getElem?_eq_some_iff.1 h).1
    simpa using this
  subst hj
  simp at h
  subst h
  rw [addr_add]
  simp
theorem num_next (ss : List ByteArray) (k : Nat) (hk : k < ss.length) :
    ((ss.take k).map Value.string ++ List.replicate (ss.length - k) (Value.string ⟨#[]⟩)).set k (.string ss[k]) = (ss.take (k + 1)).map Value.string ++ List.replicate (ss.length - (k + 1)) (Value.string ⟨#[]⟩) := by
  apply List.ext_getElem
  · simp; omega
  · intro i h1 h2
    simp at h1 h2
    rw [List.getElem_set]
    by_cases hi : k = i
    · subst hi
      rw [if_pos rfl, List.getElem_append_left (by simp; omega)]
      simp
    · rw [if_neg hi]
      by_cases hlt : i < k
      · rw [List.getElem_append_left (by simp; omega), List.getElem_append_left (by simp; omega)]
        simp
      · rw [List.getElem_append_right (by simp; omega), List.getElem_append_right (by simp; omega)]
        simp
set_option maxRecDepth 100000 in
set_option maxHeartbeats 2000000 in
theorem specPathText (v : Value) (ns : List Int) (hn : ns.length ≤ 1048576) (hr : i64s ns) (w : World) (h : Ints w v ns) :
    Calls Tryd.prog 72 #[v] w fun e w' => e = .returned (.string (pathText ns)) ∧ Below w.heap.size w w' := by
  obtain ⟨i0, hi, hz0, hz1, hz2⟩ := info_parts info_str
  have HI := Lib.hid hi; clear hi
  have HZ0 := Lib.hid hz0; clear hz0
  have HZ1 := Lib.hid hz1; clear hz1
  have HZ2 := Lib.hid hz2; clear hz2
  have HR := Lib.hid hr; clear hr
  obtain ⟨a, cap, rfl, hcap, hat⟩ := h
  have HC := Lib.hid hat; clear hat
  go_enter Tryd.func72, Tryd.ntmps72
  go_wp2_with fail
  go_loopw [3, 4] (fun v i wr => ∃ k : Nat, k ≤ ns.length ∧ i = .int .i64 k ∧ wr.ownsRow w.heap.size 9 1 v k ((numerals (ns.take k)).map Value.string) ∧ Below w.heap.size w wr) (fun _ i _ => ns.length - (intOf i).toNat)
  case atStart => exact ⟨0, by omega, rfl, World.ownsRow_made w #[] 0 (Nat.le_refl _) (Nat.zero_le _) rfl, (Below.refl _ _).alloc (Nat.le_refl _) _⟩
  case round =>
    obtain ⟨k, hk, rfl, hown, hb⟩ := hrel
    have HO := Lib.hid hown; clear hown
    have HB := Lib.hid hb; clear hb
    by_cases hlt : k < ns.length
    · obtain ⟨b, off, rfl, hbl, hcell⟩ := HC.out k hlt
      have c0 : wr.cell? ⟨b, off + k, none⟩ = some (.int .i64 ns[k]) := by rw [HB.out.cell (p := ⟨b, off + k, none⟩) hbl]; exact hcell
      have hrk := HR.out ns[k] (List.getElem_mem hlt)
      have HRK := Lib.hid hrk
      clear hcell hrk
      go_wp2_with fail
      refine (specFormat ns[k] HRK.out.1 HRK.out.2 _).mono ?_
      rintro e w1 ⟨rfl, hb1⟩
      have HO1 := Lib.hid (own_below HO.out hb1)
      have HB1 := Lib.hid (HB.out.trans (hb1.mono HB.out.size))
      clear hb1 HO HB c0
      go_wp2_with (at_builtin; go_must (refine wpList_append_own _ rfl (.tmp 12) (.tmp 18) 80 rfl w.heap.size 9 i0 (.string ⟨#[]⟩) 1 16 Tryd.underlying80 HI.out HZ0.out HZ1.out HZ2.out rfl (by decide) _ _ _ rfl (HO1.out.alloc _) ⟨w1.heap.size, 0, none⟩ 1 1 [.string ⟨(Lib.itoa ns[k]).toArray⟩] rfl rfl (new_one _ _ _) (by simp [Value.oneCell']) (by unfold maxLen; omega) (by omega) (by have := HB1.out.size; simp; omega) ?_); intro v2 w2 hown2 hg2 _; refine Hid.out ?_)
      refine Lib.hid ?_
      have hb2 : Below w.heap.size w w2 := (HB1.out.alloc HB1.out.size _).grown hg2 (by have := HB1.out.size; simp; omega) (fun k hk => (HO1.out.lt k hk).1)
      have hown3 : w2.ownsRow w.heap.size 9 1 v2 (k + 1) ((numerals (ns.take (k + 1))).map Value.string) := by
        rw [numerals_take ns k hlt, List.map_append]; exact hown2
      have HO2 := Lib.hid hown3; clear hown3 hown2 hg2
      have HB2 := Lib.hid hb2; clear hb2
      go_wp2_with fail
      exact ⟨⟨k + 1, by omega, by go_num, HO2.out, HB2.out⟩, by simp [intOf]; omega⟩
    · obtain rfl : k = ns.length := by omega
      have HL := HO.out
      rw [List.take_length] at HL
      have HO1 := Lib.hid HL; clear HL HO
      obtain ⟨a2, cap2, rfl⟩ := own_slice HO1.out
      cases ns with
      | nil =>
        go_wp2_with fail
        go_ret
        exact ⟨rfl, HB.out⟩
      | cons n r =>
        have HS := Lib.hid (Strs.of_own (ss := numerals (n :: r)) (by have := HO1.out; rw [← numerals_length (n :: r)] at this; exact this))
        rw [numerals_length] at HS
        go_wp2_with fail
        refine (specJoin _ (numerals (n :: r)) ⟨#[46]⟩ (by rw [numerals_length]; exact hn) (by have := numerals_total _ HR.out; omega) (by decide) _ HS.out).mono ?_
        rintro e w1 ⟨rfl, hb1⟩
        have HB1 := Lib.hid (HB.out.trans (hb1.mono HB.out.size))
        clear hb1
        go_wp2_with fail
        go_ret
        exact ⟨rfl, HB1.out⟩
end Go.Proofs.YtdgfkmnnjhlpbaaDoor
