/-
  Proved: the law FnExactFormatActions: for every list of actions, impl.FormatActions returns the same as the reference and changes no argument; the tables hold what the program's text lays (the card ties them).
-/
import Derived.Test.YtdgfkmnnjhlpbaaDoorActText
import Derived.Test.YtdgfkmnnjhlpbaaDoorLaw
import Derived.Test.YtdgfkmnnjhlpbaaDoorRows
import Derived.Lib.LaidTab
import Derived.LaidMore
import Derived.ChangeVars
import Derived.Test.YtdgfkmnnjhlpbaaDoorOwnB
import Derived.WalkKit
import Derived.WalkSpells
import Derived.WalkLawsBesides
import Derived.WalkSmall
import Derived.Lib.Hide
import Derived.Lib.AppendStr
import Derived.Lib.Join
import Derived.Lib.UnsafeStr
import Derived.Laws.BytesArg
import Derived.Test.YtdgfkmnnjhlpbaaDoorShelfStr
import Derived.Test.YtdgfkmnnjhlpbaaDoorProg
import Derived.Test.YtdgfkmnnjhlpbaaDoorNum
import Derived.Test.YtdgfkmnnjhlpbaaDoorShelfItoa
import Derived.Test.YtdgfkmnnjhlpbaaDoorInts
import Derived.Lib.ItoaLen
import Derived.Test.YtdgfkmnnjhlpbaaDoorAtActs
import Derived.Test.YtdgfkmnnjhlpbaaDoorActForm
import Derived.BigQuiet
import Derived.Deep.QuietTactic
import Derived.Test.YtdgfkmnnjhlpbaaDoorName
import Derived.Test.YtdgfkmnnjhlpbaaDoorSpecNote
import Derived.Test.YtdgfkmnnjhlpbaaDoorSpecDepth
import Derived.Test.YtdgfkmnnjhlpbaaDoorHold
import Derived.Deep.RegionHeld3
import Derived.Test.YtdgfkmnnjhlpbaaDoorSpecForm
import Derived.Test.YtdgfkmnnjhlpbaaDoorPart
import Derived.Test.YtdgfkmnnjhlpbaaDoorTwo
import Derived.Test.YtdgfkmnnjhlpbaaDoorOwnIn
import Derived.Test.YtdgfkmnnjhlpbaaDoorText
import Derived.Test.YtdgfkmnnjhlpbaaDoorSpecValid
import Derived.Test.YtdgfkmnnjhlpbaaDoorFormatText
import Derived.IntWalk
import Derived.Deep.RegionLaw
import Derived.Laws.RangeAny
import Derived.Test.YtdgfkmnnjhlpbaaDoorTyEq
import Derived.Test.YtdgfkmnnjhlpbaaDoorToActs
import Derived.Test.YtdgfkmnnjhlpbaaDoorSzActs
import Derived.Test.YtdgfkmnnjhlpbaaDoorEqActs
import Derived.OpenVars
import Derived.Test.YtdgfkmnnjhlpbaaDoorCards
import Derived.Test.YtdgfkmnnjhlpbaaDoorTie
import Derived.Deep.DeepHandedRow
import Derived.Test.YtdgfkmnnjhlpbaaDoorArgActs
/-
  Proved: the pinned table of the words of actions holds what the program's text says.
-/
namespace Go.Proofs.YtdgfkmnnjhlpbaaDoor
open Go.RowKit Go.ChangeShapes Go.WideShapes Go.ChangeAt

def strsData {H : Type} (zs : List ByteArray) : DataW H := .agg (zs.map fun z => .lit (.string z.data.toList))
theorem cells_of_strs {H : Type} {enc : TypeId × Value → H} {P : Program} {w : World} {base : Nat} {sp : Nat → Bool} {held : Bool} {fuel : Nat} {t e : TypeId} {n : Nat} {cs : List Value} {zs : List ByteArray} {p : List MemPlace}
    (ht : P.underlying t = some (.array n e)) (he : P.underlying e = some .string) (hce : P.cellsOf e = 1) (hct : P.cellsOf t = n)
    (h : DataW.trod enc P w base sp held fuel t cs = some (strsData zs, p)) : ∀ i (hi : i < zs.length), cs[i]? = some (.string zs[i]) := by
  cases fuel with
  | zero => simp [DataW.trod] at h
  | succ fuel =>
    simp only [DataW.trod, ht, hce, hct, Nat.mul_one] at h
    split at h
    · rename_i hl
      obtain ⟨xs, hm, hx⟩ := Option.map_eq_some_iff.1 h
      have hxs : xs.map (·.1) = zs.map fun z => (DataW.lit (.string z.data.toList) : DataW H) := by
        have := congrArg Prod.fst hx
        simpa [strsData] using this
      have hxl : xs.length = n := by simpa using Lib.mapM_length hm
      have hzl : zs.length = n := by
        have := congrArg List.length hxs
        simp at this
        omega
      intro i hi0
      have hi : i < n := by omega
      obtain ⟨b, hb, hf⟩ := Lib.mapM_at hm i i (by simp [hi])
      obtain ⟨s, hc, rfl, _⟩ := DataW.trod_string he hf
      have h1 : cs[i]? = some (.string s) := by
        have := congrArg (·[0]?) hc
        simpa [List.getElem?_take, List.getElem?_drop] using this
      have h2 : (xs.map (·.1))[i]? = some (DataW.lit (.string s.data.toList) : DataW H) := by simp [hb]
      rw [hxs] at h2
      rw [List.getElem?_map, List.getElem?_eq_getElem hi0] at h2
      simp only [Option.map_some, Option.some.injEq, DataW.lit.injEq, Lit.string.injEq] at h2
      rw [h1]
      have h3 : zs[i] = s := by
        apply ByteArray.ext
        exact Array.toList_inj.1 h2
      rw [h3]
    · cases h
/-- The cells of the table as the program reads them. -/
def WordsAt (w : World) : Prop := 0 < w.heap.size ∧ ∀ k : Nat, 1 ≤ k → k ≤ 20 → w.cell? ⟨0, k, none⟩ = some (.string (actWord k))
theorem WordsAt.below {w w' : World} (h : WordsAt w) (hb : Below w.heap.size w w') : WordsAt w' :=
  ⟨Nat.lt_of_lt_of_le h.1 hb.size, fun k h1 h2 => (hb.cell (p := ⟨0, k, none⟩) h.1).trans (h.2 k h1 h2)⟩
end Go.Proofs.YtdgfkmnnjhlpbaaDoor
/-
  Proved: what the laws' small helpers on slices of strings answer (copying, measuring, comparing), for every slice of strings of at most 2^20 elements; memory that was there stays as it was.
-/
namespace Go.Proofs.YtdgfkmnnjhlpbaaDoor
open Go.RowKit

/-- In the world w the slice value v reads as the strings ss. -/
def Strs (w : World) (v : Value) (ss : List ByteArray) : Prop :=
  ∃ a cap, v = .slice a ss.length cap ∧ ss.length ≤ cap ∧ ∀ j (h : j < ss.length), ∃ b off, a = some ⟨b, off, none⟩ ∧ b < w.heap.size ∧ w.cell? ⟨b, off + j, none⟩ = some (.string ss[j])
theorem Strs.parts {w : World} {v : Value} {ss : List ByteArray} (h : Strs w v ss) :
    (ss = [] ∧ ∃ a cap, v = .slice a 0 cap) ∨ (0 < ss.length ∧ ∃ b off cap, v = .slice (some ⟨b, off, none⟩) ss.length cap ∧ ss.length ≤ cap ∧ b < w.heap.size ∧ ∀ j (h : j < ss.length), w.cell? ⟨b, off + j, none⟩ = some (.string ss[j])) := by
  obtain ⟨a, cap, rfl, hc, h⟩ := h
  by_cases h0 : 0 < ss.length
  · obtain ⟨b, off, rfl, hb, _⟩ := h 0 h0
    refine Or.inr ⟨h0, b, off, cap, rfl, hc, hb, fun j hj => ?_⟩
    obtain ⟨b', off', e, _, hcell⟩ := h j hj
    cases e; exact hcell
  · have : ss = [] := List.length_eq_zero_iff.1 (by omega)
    subst this
    exact Or.inl ⟨rfl, a, cap, rfl⟩
theorem Strs.nil {w : World} (a : Option Addr) (cap : Nat) : Strs w (.slice a 0 cap) [] := ⟨a, cap, rfl, Nat.zero_le _, fun j h => by simp at h⟩
theorem Strs.mk {w : World} {ss : List ByteArray} {b off cap : Nat} (hc : ss.length ≤ cap) (hb : b < w.heap.size) (h : ∀ j (h : j < ss.length), w.cell? ⟨b, off + j, none⟩ = some (.string ss[j])) : Strs w (.slice (some ⟨b, off, none⟩) ss.length cap) ss :=
  ⟨_, cap, rfl, hc, fun j hj => ⟨b, off, rfl, hb, h j hj⟩⟩
theorem Strs.below {w w' : World} {v : Value} {ss : List ByteArray} (h : Strs w v ss) (hb : Below w.heap.size w w') : Strs w' v ss := by
  obtain ⟨a, cap, rfl, hc, h⟩ := h
  refine ⟨a, cap, rfl, hc, fun j hj => ?_⟩
  obtain ⟨b, off, rfl, hlt, hcell⟩ := h j hj
  exact ⟨b, off, rfl, Nat.lt_of_lt_of_le hlt hb.size, by rw [hb.cell (p := ⟨b, off + j, none⟩) hlt]; exact hcell⟩
theorem Strs.of_own {w : World} {base : Nat} {e : TypeId} {v : Value} {ss : List ByteArray} (h : w.ownsRow base e 1 v ss.length (ss.map Value.string)) : Strs w v ss := by
  have hlt := h.lt
  have hcells := fun g (hg : v.ownBlock = some g) => h.cells hg
  rcases h.2 with ⟨rfl, hn⟩ | ⟨g, cap, cur, rfl, hb, hg, hnc, _⟩
  · have : ss = [] := List.length_eq_zero_iff.1 hn
    subst this; exact Strs.nil _ _
  · refine Strs.mk hnc (hlt g rfl).2 fun j hj => ?_
    have := hcells g rfl j (.string ss[j]) (by simp [hj])
    rw [addr_add] at this; exact this

theorem strs_ext : ∀ {a b : List ByteArray}, a.map (·.data.toList) = b.map (·.data.toList) → a = b
  | [], [], _ => rfl
  | [], _ :: _, h => by simp at h
  | _ :: _, [], h => by simp at h
  | x :: a, y :: b, h => by
    simp only [List.map_cons, List.cons.injEq] at h
    rw [strs_ext h.2]
    have : x = y := by
      apply ByteArray.ext
      have := h.1
      cases hx : x.data; cases hy : y.data
      rw [hx, hy] at this
      simp at this; rw [this]
    rw [this]

theorem info_str : (Tryd.prog.info? 9).map (fun i => (i.zero, i.size, i.bytes)) = some (some (.string ⟨#[]⟩), 1, 16) := by kernel_rfl

/-- What a copy of a slice of strings ends in. -/
def CopyEnd (ss : List ByteArray) (w : World) (e : Ending) (w' : World) : Prop :=
  ∃ v', e = .returned v' ∧ w'.ownsRow w.heap.size 9 1 v' ss.length (ss.map Value.string) ∧ Below w.heap.size w w'
end Go.Proofs.YtdgfkmnnjhlpbaaDoor
/-
  Proved: how the number of bytes of a list of strings grows with the list. Plain mathematics, no program.
-/
namespace Go.Proofs.YtdgfkmnnjhlpbaaDoor

/-- How many bytes the strings have. -/
def total : List ByteArray → Nat
  | [] => 0
  | s :: r => s.size + total r
theorem total_take (ss : List ByteArray) : ∀ k (h : k < ss.length), total (ss.take (k + 1)) = total (ss.take k) + ss[k].size := by
  induction ss with
  | nil => intro k h; simp at h
  | cons s r ih =>
    intro k h
    cases k with
    | zero => simp [total]
    | succ k =>
      simp only [List.take_succ_cons, total, List.getElem_cons_succ]
      rw [ih k (by simpa using h)]; omega

end Go.Proofs.YtdgfkmnnjhlpbaaDoor
/-
  Proved: what joining the first strings of a list gives, one by one, and how long it is. Plain mathematics, no program.
-/
namespace Go.Proofs.YtdgfkmnnjhlpbaaDoor
open Go.RowKit

/-- The first k strings, joined. -/
def joined (ss : List ByteArray) (sep : ByteArray) (k : Nat) : List UInt8 := Lib.join ((ss.take k).map (·.data.toList)) sep.data.toList
theorem join_snoc (x : List UInt8) (r : List (List UInt8)) (y sep : List UInt8) : Lib.join (x :: r ++ [y]) sep = Lib.join (x :: r) sep ++ sep ++ y := by
  rw [List.cons_append, Lib.join_cons, Lib.join_cons]
  have := Lib.joinTail_take_succ sep (r ++ [y]) r.length y (by simp)
  rw [List.take_of_length_le (by simp), List.take_left] at this
  rw [this]; simp
theorem joined_zero (ss : List ByteArray) (sep : ByteArray) : joined ss sep 0 = [] := rfl
theorem joined_one (ss : List ByteArray) (sep : ByteArray) (h : 0 < ss.length) : joined ss sep 1 = ss[0].data.toList := by
  unfold joined
  rw [show ss.take 1 = [ss[0]] from by rw [List.take_one]; simp [List.head?_eq_getElem?, h]]
  exact Lib.join_one _ _
theorem joined_next (ss : List ByteArray) (sep : ByteArray) (k : Nat) (h0 : 0 < k) (h : k < ss.length) : joined ss sep (k + 1) = joined ss sep k ++ sep.data.toList ++ ss[k].data.toList := by
  unfold joined
  rw [List.take_succ_eq_append_getElem h, List.map_append]
  cases hx : (ss.take k).map (·.data.toList) with
  | nil =>
    have := congrArg List.length hx
    rw [List.length_map, List.length_take, List.length_nil] at this; omega
  | cons x r => exact join_snoc x r _ _
theorem joined_all (ss : List ByteArray) (sep : ByteArray) : joined ss sep ss.length = Lib.join (ss.map (·.data.toList)) sep.data.toList := by
  unfold joined; rw [List.take_length]
theorem total_le (ss : List ByteArray) (k : Nat) : total (ss.take k) ≤ total ss := by
  induction ss generalizing k with
  | nil => simp
  | cons s r ih =>
    cases k with
    | zero => simp [total]
    | succ k => simp only [List.take_succ_cons, total]; have := ih k; omega
theorem size_le (ss : List ByteArray) (k : Nat) (h : k < ss.length) : ss[k].size ≤ total ss := by
  have h1 := total_take ss k h
  have h2 := total_le ss (k + 1)
  omega
theorem len_toList (s : ByteArray) : s.data.toList.length = s.size := by rw [Array.length_toList]; rfl
theorem joined_len (ss : List ByteArray) (sep : ByteArray) : ∀ k, k ≤ ss.length → (joined ss sep k).length ≤ total (ss.take k) + k * sep.size
  | 0, _ => by rw [joined_zero]; simp
  | k + 1, h => by
    have ih := joined_len ss sep k (by omega)
    have ht := total_take ss k (by omega)
    have hlt : k < ss.length := by omega
    by_cases h0 : 0 < k
    · rw [joined_next ss sep k h0 hlt, ht, Nat.succ_mul]
      simp only [List.length_append, len_toList]; omega
    · obtain rfl : k = 0 := by omega
      rw [joined_one ss sep (by omega), ht, len_toList]; omega
theorem joined_small (ss : List ByteArray) (sep : ByteArray) (k : Nat) (hk : k ≤ ss.length) (hn : ss.length ≤ 1048576) (ht : total ss ≤ 1073741824) (hs : sep.size ≤ 1048576) : (joined ss sep k).length ≤ 1100585369600 := by
  have h1 := joined_len ss sep k hk
  have h2 := total_le ss k
  have h3 : k * sep.size ≤ 1048576 * 1048576 := Nat.mul_le_mul (by omega) hs
  omega

/-- What joining ends in. -/
def JoinEnd (ss : List ByteArray) (sep : ByteArray) (w : World) (e : Ending) (w' : World) : Prop :=
  e = .returned (.string ⟨(Lib.join (ss.map (·.data.toList)) sep.data.toList).toArray⟩) ∧ Below w.heap.size w w'

end Go.Proofs.YtdgfkmnnjhlpbaaDoor
/-
  Proved: spec.Join joins the strings with the separator between them, and leaves the memory that was there as it was. On these terms: the strings, their number and the separator are small (2^20).
-/
namespace Go.Proofs.YtdgfkmnnjhlpbaaDoor
open Go.RowKit

/-- 'string(b)' of a slice that owns its bytes. -/
theorem conv_own {w : World} {base : Nat} {v : Value} {l : List UInt8} (h : w.ownsRow base 5 1 v l.length (Lib.byteCells l)) :
    (convert 119 9 v).run Tryd.prog w = .ok (.string ⟨l.toArray⟩) w := by
  have hcells := fun g (hg : v.ownBlock = some g) => h.cells hg
  rcases h.2 with ⟨rfl, hn⟩ | ⟨g, cap, cur, rfl, _⟩
  · have : l = [] := List.length_eq_zero_iff.1 hn
    subst this
    exact run_convert_bytes_nil w 119 5 Tryd.underlying119 Tryd.underlying5 0 0 _ Tryd.underlying9
  · refine run_convert_bytes_back w _ _ 5 ⟨g, 0, none⟩ cap l Tryd.underlying119 Tryd.underlying5 Tryd.underlying9 fun j hj => ?_
    exact hcells g rfl j _ (by simp [Lib.byteCells, hj])
theorem info_byte : (Tryd.prog.info? 5).map (fun i => (i.zero, i.size, i.bytes)) = some (some (.int .u8 0), 1, 1) := by kernel_rfl

set_option maxRecDepth 100000 in
set_option maxHeartbeats 2000000 in
theorem specJoin (v : Value) (ss : List ByteArray) (sep : ByteArray) (hn : ss.length ≤ 1048576) (ht : total ss ≤ 1073741824) (hs : sep.size ≤ 1048576) (w : World) (h : Strs w v ss) :
    Calls Tryd.prog 62 #[v, .string sep] w (JoinEnd ss sep w) := by
  obtain ⟨i0, hi, hz0, hz1, hz2⟩ := info_parts info_byte
  obtain ⟨a, cap, rfl, hcap, hat⟩ := h
  have HC := Lib.hid hat; clear hat
  have HI := Lib.hid hi; clear hi
  have HZ0 := Lib.hid hz0; clear hz0
  have HZ1 := Lib.hid hz1; clear hz1
  have HZ2 := Lib.hid hz2; clear hz2
  go_enter Tryd.func62, Tryd.ntmps62
  go_wp2_with fail
  go_loopw [5, 6] (fun v i wr => ∃ k : Nat, k ≤ ss.length ∧ i = .int .i64 k ∧ wr.ownsRow w.heap.size 5 1 v (joined ss sep k).length (Lib.byteCells (joined ss sep k)) ∧ Below w.heap.size w wr) (fun _ i _ => ss.length - (intOf i).toNat)
  case atStart => exact ⟨0, by omega, rfl, by rw [joined_zero]; exact World.ownsRow_made w #[] 0 (Nat.le_refl _) (Nat.zero_le _) rfl, (Below.refl _ _).alloc (Nat.le_refl _) _⟩
  case round =>
    obtain ⟨k, hk, rfl, hown, hb⟩ := hrel
    have HL := Lib.hid (joined_small ss sep k hk hn ht hs)
    by_cases hlt : k < ss.length
    · obtain ⟨b, off, rfl, hbl, hcell⟩ := HC.out k hlt
      have hz := size_le ss k hlt
      have HO := Lib.hid hown; clear hown
      have HB := Lib.hid hb; clear hb
      have HCE := Lib.hid hcell; clear hcell
      by_cases hk0 : 0 < k
      · go_wp2_with (at_builtin; go_must (refine Lib.wpList_append_own_string _ rfl (.tmp 16) (.tmp 17) 119 9 rfl w.heap.size 5 i0 Tryd.underlying119 Tryd.underlying9 HI.out HZ0.out HZ1.out HZ2.out _ _ _ rfl HO.out sep rfl (by have := HL.out; unfold maxLen; omega) (by have := HL.out; omega) HB.out.size ?_); intro v1 w1 hown1 hg1 _; refine Hid.out ?_)
        refine Lib.hid ?_
        have hb1 : Below w.heap.size w w1 := HB.out.grown hg1 HB.out.size (fun k hk => (HO.out.lt k hk).1)
        have c1 : w1.cell? ⟨b, off + k, none⟩ = some (.string ss[k]) := by rw [hb1.cell (p := ⟨b, off + k, none⟩) hbl]; exact HCE.out
        have HO1 := Lib.hid hown1; clear hown1 hg1
        have HB1 := Lib.hid hb1; clear hb1
        go_wp2_with (at_builtin; go_must (refine Lib.wpList_append_own_string _ rfl (.tmp 19) (.tmp 23) 119 9 rfl w.heap.size 5 i0 Tryd.underlying119 Tryd.underlying9 HI.out HZ0.out HZ1.out HZ2.out _ _ _ rfl HO1.out ss[k] rfl (by have := HL.out; unfold maxLen; omega) (by have := HL.out; omega) HB1.out.size ?_); intro v2 w2 hown2 hg2 _; refine Hid.out ?_)
        refine Lib.hid ?_
        have hb2 : Below w.heap.size w w2 := HB1.out.grown hg2 HB1.out.size (fun k hk => (HO1.out.lt k hk).1)
        have hj := joined_next ss sep k hk0 hlt
        have hown3 : w2.ownsRow w.heap.size 5 1 v2 (joined ss sep (k + 1)).length (Lib.byteCells (joined ss sep (k + 1))) := by
          rw [hj, Lib.byteCells_append, Lib.byteCells_append, List.length_append, List.length_append, len_toList, len_toList]
          exact hown2
        have HO2 := Lib.hid hown3; clear hown3 hown2 hg2 hj
        have HB2 := Lib.hid hb2; clear hb2
        go_wp2_with fail
        exact ⟨⟨k + 1, by omega, by go_num, HO2.out, HB2.out⟩, by simp [intOf]; omega⟩
      · have hk0' : ¬ (0 : Int) < k := by omega
        have c1 : wr.cell? ⟨b, off + k, none⟩ = some (.string ss[k]) := by rw [HB.out.cell (p := ⟨b, off + k, none⟩) hbl]; exact HCE.out
        go_wp2_with (at_builtin; go_must (refine Lib.wpList_append_own_string _ rfl (.tmp 19) (.tmp 23) 119 9 rfl w.heap.size 5 i0 Tryd.underlying119 Tryd.underlying9 HI.out HZ0.out HZ1.out HZ2.out _ _ _ rfl HO.out ss[k] rfl (by have := HL.out; unfold maxLen; omega) (by have := HL.out; omega) HB.out.size ?_); intro v2 w2 hown2 hg2 _; refine Hid.out ?_)
        refine Lib.hid ?_
        have hb2 : Below w.heap.size w w2 := HB.out.grown hg2 HB.out.size (fun k hk => (HO.out.lt k hk).1)
        obtain rfl : k = 0 := by omega
        have hown3 : w2.ownsRow w.heap.size 5 1 v2 (joined ss sep 1).length (Lib.byteCells (joined ss sep 1)) := by
          rw [joined_one ss sep hlt, len_toList]
          rw [joined_zero] at hown2
          simpa [Lib.byteCells, Lib.strCells] using hown2
        have HO2 := Lib.hid hown3; clear hown3 hown2 hg2
        have HB2 := Lib.hid hb2; clear hb2
        go_wp2_with fail
        exact ⟨⟨1, by omega, by go_num, HO2.out, HB2.out⟩, by simp [intOf]; omega⟩
    · have : k = ss.length := by omega
      subst this
      rw [joined_all] at hown
      have hcv := conv_own hown
      have HB := Lib.hid hb; clear hb hown
      go_wp2_with fail
      go_ret
      exact ⟨rfl, HB.out⟩
end Go.Proofs.YtdgfkmnnjhlpbaaDoor
/-
  Proved: impl.Join joins the strings with the separator between them, and leaves the memory that was there as it was. On these terms: the strings, their number and the separator are small (2^20).
-/
namespace Go.Proofs.YtdgfkmnnjhlpbaaDoor
open Go.RowKit

set_option maxRecDepth 100000 in
set_option maxHeartbeats 1000000 in
theorem implJoin (v : Value) (ss : List ByteArray) (sep : ByteArray) (hn : ss.length ≤ 1048576) (ht : total ss ≤ 1073741824) (hs : sep.size ≤ 1048576) (w : World) (h : Strs w v ss) :
    Calls Tryd.prog 63 #[v, .string sep] w (JoinEnd ss sep w) := by
  have HL := joined_small ss sep ss.length (Nat.le_refl _) hn ht hs
  rw [joined_all] at HL
  rcases h.parts with ⟨rfl, a, cap, rfl⟩ | ⟨h0, b, off, cap, rfl, hcap, hb, hcell⟩
  · clear h HL
    go_enter Tryd.func63, Tryd.ntmps63
    go_wp2_with fail
    refine (Tryd.strings_Join_none a cap sep w).mono ?_
    rintro e w' ⟨rfl, rfl⟩
    go_wp2_with fail
    go_ret
    exact ⟨rfl, Below.refl _ _⟩
  · have HC : Hid (∀ (j : Nat) x, ss[j]? = some x → w.cell? ⟨b, off + j, none⟩ = some (.string x)) := fun j x hx => by
      obtain ⟨hj, rfl⟩ := List.getElem?_eq_some_iff.1 hx
      exact hcell j hj
    have HM := Lib.hid HL
    clear h HL hcell
    go_enter Tryd.func63, Tryd.ntmps63
    go_wp2_with fail
    refine (Tryd.strings_Join b off cap ss sep w HC.out hb (by omega) hcap (by have := HM.out; omega)).mono ?_
    rintro e w' ⟨rfl, hb1⟩
    go_wp2_with fail
    go_ret
    exact ⟨rfl, hb1⟩
end Go.Proofs.YtdgfkmnnjhlpbaaDoor
/-
  Proved: spec.FormatInt returns the decimal numeral of every int, and leaves the memory that was there as it was.
-/
namespace Go.Proofs.YtdgfkmnnjhlpbaaDoor
open Go.RowKit

/-- One byte, in a new block of its own, becomes a string. -/
theorem conv_byte (w : World) (x : Int) (h0 : 0 ≤ x) (h1 : x ≤ 255) :
    (convert 119 9 (.slice (some ⟨w.heap.size, 0, none⟩) 1 1)).run Tryd.prog (w.alloc (.cells #[.int .u8 x] 5)) =
      .ok (.string ⟨[UInt8.ofNat x.toNat].toArray⟩) (w.alloc (.cells #[.int .u8 x] 5)) := by
  have h := run_convert_bytes_back (P := Tryd.prog) (w.alloc (.cells #[.int .u8 x] 5)) 119 9 5 ⟨w.heap.size, 0, none⟩ 1 [UInt8.ofNat x.toNat] Tryd.underlying119 Tryd.underlying5 Tryd.underlying9
    (fun j hj => by
      have : j = 0 := by simpa using hj
      subst this
      have e : ((UInt8.ofNat x.toNat).toNat : Int) = x := by
        rw [UInt8.toNat_ofNat']; omega
      simp only [List.getElem_cons_zero, e]
      have := World.cell?_alloc_mark w #[.int .u8 x] 5 (0, 0) 0
      simp only [Addr.add]
      exact this)
  exact h

set_option maxHeartbeats 400000 in
theorem specFormat_zero (w : World) :
    Calls Tryd.prog 53 #[.int .i64 0] w fun e w' => e = .returned (.string ⟨(Lib.itoa 0).toArray⟩) ∧ w' = w := by
  rw [Num.itoa_zero]
  go_enter Tryd.func53, Tryd.ntmps53
  go_wp2
  go_ret
  exact ⟨rfl, rfl⟩

set_option maxRecDepth 100000 in
set_option maxHeartbeats 1000000 in
theorem specFormat_pos (n : Int) (h0 : 0 < n) (h1 : n ≤ 9223372036854775807) (w : World) :
    Calls Tryd.prog 53 #[.int .i64 n] w fun e w' => e = .returned (.string ⟨(Lib.itoa n).toArray⟩) ∧ Below w.heap.size w w' := by
  rw [Num.itoa_pos n h0]
  have hz : (n == 0) = false := by simp; omega
  have hlt : decide (n < 0) = false := by simp; omega
  go_enter Tryd.func53, Tryd.ntmps53
  go_wp2
  go_loopw [0, 4] (fun v o wr => ∃ m : Int, ∃ l : List UInt8, 0 ≤ m ∧ m ≤ 9223372036854775807 ∧ v = .int .i64 m ∧ o = .string ⟨l.toArray⟩ ∧ Num.dd n.natAbs = Num.dd m.natAbs ++ l ∧ Below w.heap.size w wr) (fun v _ _ => (intOf v).natAbs)
  case atStart => exact ⟨n, [], by omega, by omega, rfl, rfl, by simp, Below.refl _ w⟩
  case round =>
    obtain ⟨m, l, hm0, hm1, rfl, rfl, hd, hg⟩ := hrel
    have HD := Lib.hid hd; clear hd
    by_cases hm : m = 0
    · subst hm
      go_wp2
      go_ret
      refine ⟨?_, hg⟩
      have := HD.out
      rw [show (0 : Int).natAbs = 0 from rfl, Num.dd_zero] at this
      rw [this]; rfl
    · have hne : (m != 0) = true := by simp; omega
      have hmod : decide (m % 10 < 0) = false := by simp; omega
      have hcv := conv_byte wr (48 + m % 10) (by omega) (by omega)
      have hlen : l.length ≤ 20 := Num.len_of20 n m l (by omega) HD.out
      go_wp2
      exact ⟨⟨m / 10, UInt8.ofNat (48 + m % 10).toNat :: l, by omega, by omega, rfl, congrArg Value.string (Num.bytes_append [_] l), Num.round_pos n m l hm0 hm HD.out, hg.alloc hg.size _⟩, by show (m / 10).natAbs < m.natAbs; omega⟩

set_option maxRecDepth 100000 in
set_option maxHeartbeats 1000000 in
theorem specFormat_neg (n : Int) (h0 : n < 0) (h1 : -9223372036854775808 ≤ n) (w : World) :
    Calls Tryd.prog 53 #[.int .i64 n] w fun e w' => e = .returned (.string ⟨(Lib.itoa n).toArray⟩) ∧ Below w.heap.size w w' := by
  rw [Num.itoa_neg n h0]
  have hz : (n == 0) = false := by simp; omega
  have hlt : decide (n < 0) = true := by simp; omega
  go_enter Tryd.func53, Tryd.ntmps53
  go_wp2
  go_loopw [0, 4] (fun v o wr => ∃ m : Int, ∃ l : List UInt8, m ≤ 0 ∧ -9223372036854775808 ≤ m ∧ v = .int .i64 m ∧ o = .string ⟨l.toArray⟩ ∧ Num.dd n.natAbs = Num.dd m.natAbs ++ l ∧ Below w.heap.size w wr) (fun v _ _ => (intOf v).natAbs)
  case atStart => exact ⟨n, [], by omega, by omega, rfl, rfl, by simp, Below.refl _ w⟩
  case round =>
    obtain ⟨m, l, hm0, hm1, rfl, rfl, hd, hg⟩ := hrel
    have HD := Lib.hid hd; clear hd
    by_cases hm : m = 0
    · subst hm
      have hlen : l.length ≤ 20 := Num.len_of20 n 0 l (by omega) HD.out
      go_wp2
      go_ret
      refine ⟨?_, hg⟩
      have := HD.out
      rw [show (0 : Int).natAbs = 0 from rfl, Num.dd_zero] at this
      rw [this]; exact congrArg (fun x => Ending.returned (Value.string x)) (Num.bytes_append [45] l)
    · have hne : (m != 0) = true := by simp; omega
      have hlen : l.length ≤ 20 := Num.len_of20 n m l (by omega) HD.out
      have hd1 : m.tmod 10 ≤ 0 := by rw [Num.tmod_neg m hm0]; omega
      have hd2 : -9 ≤ m.tmod 10 := by rw [Num.tmod_neg m hm0]; omega
      have hq1 : m.tdiv 10 ≤ 0 := by rw [Num.tdiv_neg m hm0]; omega
      have hq2 : m + 1 ≤ m.tdiv 10 := by rw [Num.tdiv_neg m hm0]; omega
      by_cases hd : m.tmod 10 < 0
      · have hmod : decide (m.tmod 10 < 0) = true := by simp; omega
        have hcv := conv_byte wr (48 + -m.tmod 10) (by omega) (by omega)
        go_wp2
        exact ⟨⟨m.tdiv 10, UInt8.ofNat (48 + -m.tmod 10).toNat :: l, hq1, by omega, rfl, congrArg Value.string (Num.bytes_append [_] l), Num.round_neg n m l hm0 hm HD.out _ (by omega), hg.alloc hg.size _⟩, by show (m.tdiv 10).natAbs < m.natAbs; clear hmod; omega⟩
      · have hmod : decide (m.tmod 10 < 0) = false := by simp; omega
        have hcv := conv_byte wr (48 + m.tmod 10) (by omega) (by omega)
        go_wp2
        exact ⟨⟨m.tdiv 10, UInt8.ofNat (48 + m.tmod 10).toNat :: l, hq1, by omega, rfl, congrArg Value.string (Num.bytes_append [_] l), Num.round_neg n m l hm0 hm HD.out _ (by omega), hg.alloc hg.size _⟩, by show (m.tdiv 10).natAbs < m.natAbs; clear hmod; omega⟩

/-- spec.FormatInt, every int. -/
theorem specFormat (n : Int) (h0 : -9223372036854775808 ≤ n) (h1 : n ≤ 9223372036854775807) (w : World) :
    Calls Tryd.prog 53 #[.int .i64 n] w fun e w' => e = .returned (.string ⟨(Lib.itoa n).toArray⟩) ∧ Below w.heap.size w w' := by
  rcases Int.lt_trichotomy n 0 with h | h | h
  · exact specFormat_neg n h h0 w
  · subst h
    exact (specFormat_zero w).mono fun e w' ⟨he, hw⟩ => ⟨he, by subst hw; exact Below.refl _ _⟩
  · exact specFormat_pos n h h1 w
end Go.Proofs.YtdgfkmnnjhlpbaaDoor
/-
  Proved: impl.FormatInt returns the decimal numeral of every int, and leaves the memory that was there as it was. On these terms: the library's table of powers of ten holds what the program's text lays.
-/
namespace Go.Proofs.YtdgfkmnnjhlpbaaDoor
open Go.ChangeShapes Go.WideShapes Go.ChangeAt Go.RowKit

theorem implFormat (n : Int) (h0 : -9223372036854775808 ≤ n) (h1 : n ≤ 9223372036854775807) (w : World)
    (htab : Lib.TabIs Tryd.prog w "internal/strconv.uint64pow10" .u64 Lib.pow10Tab) :
    Calls Tryd.prog 59 #[.int .i64 n] w fun e w' => e = .returned (.string ⟨(Lib.itoa n).toArray⟩) ∧ Below w.heap.size w w' := by
  go_enter Tryd.func59, Tryd.ntmps59
  go_wp2_with (go_at_call 106; refine (Tryd.strconv_Itoa _ h0 h1 _ htab).mono ?_; rintro e w' ⟨rfl, k, os, rfl⟩)
  go_ret
  exact ⟨rfl, Lib.below_grow _ _ (Nat.le_refl _) _ _⟩

end Go.Proofs.YtdgfkmnnjhlpbaaDoor
/-
  Proved: spec.FormatPath and impl.FormatPath write a list of numbers with dots between them, the empty list as a dash; the memory that was there stays as it was. On these terms: at most 2^20 numbers; the library's table of powers of ten holds what the program's text lays.
-/
namespace Go.Proofs.YtdgfkmnnjhlpbaaDoor
open Go.RowKit

/-- The numeral of a number. -/
def numeral (n : Int) : ByteArray := ⟨(Lib.itoa n).toArray⟩
def numerals (ns : List Int) : List ByteArray := ns.map numeral
def pathText : List Int → ByteArray
  | [] => ⟨#[45]⟩
  | n :: r => ⟨(Lib.join ((numerals (n :: r)).map (·.data.toList)) [46]).toArray⟩
def i64s (ns : List Int) : Prop := ∀ n ∈ ns, -9223372036854775808 ≤ n ∧ n ≤ 9223372036854775807
theorem numerals_length (ns : List Int) : (numerals ns).length = ns.length := List.length_map _
theorem numeral_size (n : Int) (h0 : -9223372036854775808 ≤ n) (h1 : n ≤ 9223372036854775807) : (numeral n).size ≤ 21 := by
  show (Lib.itoa n).toArray.size ≤ 21
  rw [List.size_toArray]
  rcases Int.lt_trichotomy n 0 with h | h | h
  · rw [Num.itoa_neg n h]
    have := Num.dd_len_le 20 n.natAbs (by omega)
    simp; omega
  · subst h; rw [Num.itoa_zero]; simp
  · rw [Num.itoa_pos n h]
    have := Num.dd_len_le 20 n.natAbs (by omega)
    omega
theorem numerals_total : ∀ (ns : List Int), i64s ns → total (numerals ns) ≤ 21 * ns.length
  | [], _ => by simp [numerals, total]
  | n :: r, h => by
    have h1 := numeral_size n (h n (by simp)).1 (h n (by simp)).2
    have h2 := numerals_total r fun m hm => h m (by simp [hm])
    show (numeral n).size + total (numerals r) ≤ _
    simp only [List.length_cons]; omega
theorem numerals_take (ns : List Int) (k : Nat) (h : k < ns.length) : numerals (ns.take (k + 1)) = numerals (ns.take k) ++ [numeral ns[k]] := by
  unfold numerals
  rw [List.take_succ_eq_append_getElem h, List.map_append]; rfl
theorem own_slice {w : World} {B : Nat} {e : TypeId} {size : Nat} {v : Value} {n : Nat} {xs : List Value} (h : w.ownsRow B e size v n xs) : ∃ a cap, v = .slice a n cap := by
  rcases h.2 with ⟨rfl, hn⟩ | ⟨g, cap, cur, rfl, _⟩
  · exact ⟨none, 0, by rw [hn]⟩
  · exact ⟨_, _, rfl⟩
theorem new_one (w : World) (t : TypeId) (x : Value) : ∀ j u, [x][j]? = some u → (w.alloc (.cells #[x] t)).cell? ((⟨w.heap.size, 0, none⟩ : Addr).add j) = some u := by
  intro j u h
  have hj : j = 0 := by
    have := (List.getElem?_eq_some_iff.1 h).1
    simpa using this
  subst hj
  simp at h
  subst h
  rw [addr_add]
  simp
theorem num_next (ss : List ByteArray) (k : Nat) (hk : k < ss.length) :
    ((ss.take k).map Value.string ++ List.replicate (ss.length - k) (Value.string ⟨#[]⟩)).set k (.string ss[k]) = (ss.take (k + 1)).map Value.string ++ List.replicate (ss.length - (k + 1)) (Value.string ⟨#[]⟩) := by
  apply List.ext_getElem
  · simp; omega
  · intro i h1 h2
    simp at h1 h2
    rw [List.getElem_set]
    by_cases hi : k = i
    · subst hi
      rw [if_pos rfl, List.getElem_append_left (by simp; omega)]
      simp
    · rw [if_neg hi]
      by_cases hlt : i < k
      · rw [List.getElem_append_left (by simp; omega), List.getElem_append_left (by simp; omega)]
        simp
      · rw [List.getElem_append_right (by simp; omega), List.getElem_append_right (by simp; omega)]
        simp
set_option maxRecDepth 100000 in
set_option maxHeartbeats 2000000 in
theorem specPathText (v : Value) (ns : List Int) (hn : ns.length ≤ 1048576) (hr : i64s ns) (w : World) (h : Ints w v ns) :
    Calls Tryd.prog 72 #[v] w fun e w' => e = .returned (.string (pathText ns)) ∧ Below w.heap.size w w' := by
  obtain ⟨i0, hi, hz0, hz1, hz2⟩ := info_parts info_str
  have HI := Lib.hid hi; clear hi
  have HZ0 := Lib.hid hz0; clear hz0
  have HZ1 := Lib.hid hz1; clear hz1
  have HZ2 := Lib.hid hz2; clear hz2
  have HR := Lib.hid hr; clear hr
  obtain ⟨a, cap, rfl, hcap, hat⟩ := h
  have HC := Lib.hid hat; clear hat
  go_enter Tryd.func72, Tryd.ntmps72
  go_wp2_with fail
  go_loopw [3, 4] (fun v i wr => ∃ k : Nat, k ≤ ns.length ∧ i = .int .i64 k ∧ wr.ownsRow w.heap.size 9 1 v k ((numerals (ns.take k)).map Value.string) ∧ Below w.heap.size w wr) (fun _ i _ => ns.length - (intOf i).toNat)
  case atStart => exact ⟨0, by omega, rfl, World.ownsRow_made w #[] 0 (Nat.le_refl _) (Nat.zero_le _) rfl, (Below.refl _ _).alloc (Nat.le_refl _) _⟩
  case round =>
    obtain ⟨k, hk, rfl, hown, hb⟩ := hrel
    have HO := Lib.hid hown; clear hown
    have HB := Lib.hid hb; clear hb
    by_cases hlt : k < ns.length
    · obtain ⟨b, off, rfl, hbl, hcell⟩ := HC.out k hlt
      have c0 : wr.cell? ⟨b, off + k, none⟩ = some (.int .i64 ns[k]) := by rw [HB.out.cell (p := ⟨b, off + k, none⟩) hbl]; exact hcell
      have hrk := HR.out ns[k] (List.getElem_mem hlt)
      have HRK := Lib.hid hrk
      clear hcell hrk
      go_wp2_with fail
      refine (specFormat ns[k] HRK.out.1 HRK.out.2 _).mono ?_
      rintro e w1 ⟨rfl, hb1⟩
      have HO1 := Lib.hid (own_below HO.out hb1)
      have HB1 := Lib.hid (HB.out.trans (hb1.mono HB.out.size))
      clear hb1 HO HB c0
      go_wp2_with (at_builtin; go_must (refine wpList_append_own _ rfl (.tmp 12) (.tmp 18) 80 rfl w.heap.size 9 i0 (.string ⟨#[]⟩) 1 16 Tryd.underlying80 HI.out HZ0.out HZ1.out HZ2.out rfl (by decide) _ _ _ rfl (HO1.out.alloc _) ⟨w1.heap.size, 0, none⟩ 1 1 [.string ⟨(Lib.itoa ns[k]).toArray⟩] rfl rfl (new_one _ _ _) (by simp [Value.oneCell']) (by unfold maxLen; omega) (by omega) (by have := HB1.out.size; simp; omega) ?_); intro v2 w2 hown2 hg2 _; refine Hid.out ?_)
      refine Lib.hid ?_
      have hb2 : Below w.heap.size w w2 := (HB1.out.alloc HB1.out.size _).grown hg2 (by have := HB1.out.size; simp; omega) (fun k hk => (HO1.out.lt k hk).1)
      have hown3 : w2.ownsRow w.heap.size 9 1 v2 (k + 1) ((numerals (ns.take (k + 1))).map Value.string) := by
        rw [numerals_take ns k hlt, List.map_append]; exact hown2
      have HO2 := Lib.hid hown3; clear hown3 hown2 hg2
      have HB2 := Lib.hid hb2; clear hb2
      go_wp2_with fail
      exact ⟨⟨k + 1, by omega, by go_num, HO2.out, HB2.out⟩, by simp [intOf]; omega⟩
    · obtain rfl : k = ns.length := by omega
      have HL := HO.out
      rw [List.take_length] at HL
      have HO1 := Lib.hid HL; clear HL HO
      obtain ⟨a2, cap2, rfl⟩ := own_slice HO1.out
      cases ns with
      | nil =>
        go_wp2_with fail
        go_ret
        exact ⟨rfl, HB.out⟩
      | cons n r =>
        have HS := Lib.hid (Strs.of_own (ss := numerals (n :: r)) (by have := HO1.out; rw [← numerals_length (n :: r)] at this; exact this))
        rw [numerals_length] at HS
        go_wp2_with fail
        refine (specJoin _ (numerals (n :: r)) ⟨#[46]⟩ (by rw [numerals_length]; exact hn) (by have := numerals_total _ HR.out; omega) (by decide) _ HS.out).mono ?_
        rintro e w1 ⟨rfl, hb1⟩
        have HB1 := Lib.hid (HB.out.trans (hb1.mono HB.out.size))
        clear hb1
        go_wp2_with fail
        go_ret
        exact ⟨rfl, HB1.out⟩
end Go.Proofs.YtdgfkmnnjhlpbaaDoor
/-
  Proved: impl.FormatPath writes a list of numbers with dots between them, the empty list as a dash; the memory that was there stays as it was. On these terms: at most 2^20 numbers; the library's table of powers of ten holds what the program's text lays.
-/
namespace Go.Proofs.YtdgfkmnnjhlpbaaDoor
open Go.RowKit

def Pow10At (w : World) : Prop := Lib.TabIs Tryd.prog w "internal/strconv.uint64pow10" .u64 Lib.pow10Tab
theorem Pow10At.below {w w' : World} (h : Pow10At w) (hb : Below w.heap.size w w') : Pow10At w' := Law.tab_below hb h
set_option maxRecDepth 100000 in
set_option maxHeartbeats 2000000 in
theorem implPathText (v : Value) (ns : List Int) (hn : ns.length ≤ 1048576) (hr : i64s ns) (w : World) (hp : Pow10At w) (h : Ints w v ns) :
    Calls Tryd.prog 74 #[v] w fun e w' => e = .returned (.string (pathText ns)) ∧ Below w.heap.size w w' := by
  obtain ⟨i0, hi, hz0, hz1, hz2⟩ := info_parts info_str
  have HR := Lib.hid hr; clear hr
  have HP := Lib.hid hp; clear hp
  obtain ⟨a, cap, rfl, hcap, hat⟩ := h
  have HC := Lib.hid hat; clear hat
  cases ns with
  | nil =>
    go_enter Tryd.func74, Tryd.ntmps74
    go_wp2_with fail
    go_ret
    exact ⟨rfl, Below.refl _ _⟩
  | cons n0 r0 =>
  have hpos : 0 < (n0 :: r0).length := by simp
  have HPT : Hid (pathText (n0 :: r0) = ⟨(Lib.join ((numerals (n0 :: r0)).map (·.data.toList)) [46]).toArray⟩) := rfl
  revert HPT hpos
  generalize n0 :: r0 = ns at *
  intro hpos HPT
  have qb : ((ns.length : Int) == 0) = false := by rw [beq_eq_false_iff_ne]; omega
  go_enter Tryd.func74, Tryd.ntmps74
  go_wp2_with (at_make; refine wpList_make_full _ rfl _ _ 80 rfl w.heap.size 9 i0 (.string ⟨#[]⟩) 1 Tryd.underlying80 hi hz0 hz1 .i64 .i64 _ _ ns.length rfl rfl rfl rfl (by rw [hz2]; omega) (by unfold maxLen; omega) (Nat.le_refl _) ?_; intro w0 hown0 hg0; refine Hid.out ?_)
  refine Lib.hid ?_
  have hb0 : Below w.heap.size w w0 := (Below.refl _ w).grown hg0 (Nat.le_refl _) (fun k hk => by cases hk)
  have hown1 : w0.ownsRow w.heap.size 9 1 (.slice (some ⟨w.heap.size, 0, none⟩) ns.length ns.length) ns.length (((numerals ns).take 0).map Value.string ++ List.replicate ((numerals ns).length - 0) (Value.string ⟨#[]⟩)) := by
    have : (madeCells (Value.string ⟨#[]⟩).cells (ns.length * 1)).toList = List.replicate ns.length (Value.string ⟨#[]⟩) := by rw [Nat.mul_one]; exact toList_madeCells_one _ _
    rw [this] at hown0; rw [numerals_length]; simpa using hown0
  have HO := Lib.hid hown1; clear hown1 hown0 hg0 hi hz0 hz1 hz2
  have HB := Lib.hid hb0; clear hb0
  go_wp2_with fail
  go_loopw [14] (fun i wr => ∃ k : Nat, k ≤ ns.length ∧ i = .int .i64 k ∧ wr.ownsRow w.heap.size 9 1 (.slice (some ⟨w.heap.size, 0, none⟩) ns.length ns.length) ns.length (((numerals ns).take k).map Value.string ++ List.replicate ((numerals ns).length - k) (Value.string ⟨#[]⟩)) ∧ Below w.heap.size w wr) (fun i _ => ns.length - (intOf i).toNat)
  case atStart => exact ⟨0, by omega, rfl, HO.out, HB.out⟩
  case round =>
    obtain ⟨k, hk, rfl, hown, hb⟩ := hrel
    have HO2 := Lib.hid hown; clear hown
    have HB2 := Lib.hid hb; clear hb
    by_cases hlt : k < ns.length
    · obtain ⟨b, off, rfl, hbl, hcell⟩ := HC.out k hlt
      have c0 : wr.cell? ⟨b, off + k, none⟩ = some (.int .i64 ns[k]) := by rw [HB2.out.cell (p := ⟨b, off + k, none⟩) hbl]; exact hcell
      have hrk := HR.out ns[k] (List.getElem_mem hlt)
      have HRK := Lib.hid hrk
      clear hcell hrk
      go_wp2_with fail
      refine (implFormat ns[k] HRK.out.1 HRK.out.2 _ (HP.out.below HB2.out)).mono ?_
      rintro e w1 ⟨rfl, hb1⟩
      have HO3 := Lib.hid (own_below HO2.out hb1)
      have HB3 := Lib.hid (HB2.out.trans (hb1.mono HB2.out.size))
      clear hb1 HO2 HB2 c0
      have hlt2 : k < (numerals ns).length := by rw [numerals_length]; exact hlt
      have c1 : ∃ u, w1.cell? ⟨w.heap.size, k, none⟩ = some u := by
        rw [HO3.out.cellAt k (by omega)]
        exact ⟨_, List.getElem?_eq_getElem (by simp; omega)⟩
      obtain ⟨u, c1⟩ := c1
      have f1 := HO3.out.frozenAt k
      have hst := HO3.out.stored k (.string (numerals ns)[k])
      rw [num_next (numerals ns) k hlt2] at hst
      have HS := Lib.hid hst; clear hst
      have HE : Hid ((numerals ns)[k] = ⟨(Lib.itoa ns[k]).toArray⟩) := by show _ = _; simp [numerals, numeral]
      rw [HE.out] at HS
      go_wp2_with fail
      exact ⟨⟨k + 1, by omega, by go_num, HS.out.1, HB3.out.setCell (Nat.le_refl _) _⟩, by simp [intOf]; omega⟩
    · obtain rfl : k = ns.length := by omega
      have HL := HO2.out
      rw [← numerals_length ns, List.take_length, Nat.sub_self, List.replicate_zero, List.append_nil] at HL
      have HS := Lib.hid (Strs.of_own HL)
      clear HL HO2
      rw [numerals_length] at HS
      go_wp2_with fail
      refine (implJoin _ (numerals ns) ⟨#[46]⟩ (by rw [numerals_length]; exact hn) (by have := numerals_total _ HR.out; omega) (by decide) _ HS.out).mono ?_
      rintro e w1 ⟨rfl, hb1⟩
      have HB1 := Lib.hid (HB2.out.trans (hb1.mono HB2.out.size))
      clear hb1
      go_wp2_with fail
      go_ret
      exact ⟨by rw [HPT.out]; rfl, HB1.out⟩
end Go.Proofs.YtdgfkmnnjhlpbaaDoor
/-
  Proved: the two tables that the text of an action reads, and how a row's condition gives them.
-/
namespace Go.Proofs.YtdgfkmnnjhlpbaaDoor
open Go.RowKit Go.ChangeShapes Go.WideShapes Go.ChangeAt

def ActTabs (w : World) : Prop := WordsAt w ∧ Pow10At w
theorem ActTabs.below {w w' : World} (h : ActTabs w) (hb : Below w.heap.size w w') : ActTabs w' := ⟨h.1.below hb, h.2.below hb⟩
set_option maxRecDepth 100000 in
theorem words_of {W : World} (h : laidMet Tryd.prog [("loop.example/g00585/impl.actionWords", Rows.laid_loop_example_g00585_impl_actionWords)] W) : WordsAt W := by
  have hg : Tryd.prog.globalNamed "loop.example/g00585/impl.actionWords" = some 0 := by kernel_rfl
  have hty : (Tryd.prog.globals[0]?).map (·.type) = some 86 := by kernel_rfl
  obtain ⟨ps, ⟨g', t', cs, fuel, p, q, hg', ht', hvar, hd, _, _⟩, _⟩ := h
  obtain rfl := Option.some.inj (hg.symm.trans hg')
  obtain rfl := Option.some.inj (hty.symm.trans ht')
  have hc : ∀ off, W.cell? ⟨0, off, none⟩ = cs.toList[off]? := fun off => by have := World.var?_cell hg hvar off; simpa using this
  have key := cells_of_strs (zs := ⟨#[]⟩ :: actWords) Tryd.underlying86 Tryd.underlying9 (by kernel_rfl) (by kernel_rfl) hd
  have all : ∀ k : Nat, 1 ≤ k → k ≤ 20 → W.cell? ⟨0, k, none⟩ = some (.string (actWord k)) := fun k h1 h2 => by
    rw [hc]
    have hk : k < (⟨#[]⟩ :: actWords).length := by simp; omega
    rw [key k hk]
    obtain ⟨j, rfl⟩ : ∃ j, k = j + 1 := ⟨k - 1, by omega⟩
    have hj : j < actWords.length := by simp; omega
    unfold actWord
    rw [Nat.add_sub_cancel, List.getD_eq_getElem?_getD, List.getElem?_eq_getElem hj]
    rfl
  refine ⟨?_, all⟩
  have h1 := all 1 (by decide) (by decide)
  by_cases hlt : 0 < W.heap.size
  · exact hlt
  · exfalso
    rw [World.cell?] at h1
    simp [Array.getElem?_eq_none (Nat.le_of_not_lt hlt)] at h1
end Go.Proofs.YtdgfkmnnjhlpbaaDoor
/-
  Proved: a decimal numeral of an int has at most 21 bytes; no program.
-/
namespace Go.Proofs.YtdgfkmnnjhlpbaaDoor
open Go.RowKit

theorem itoa_size (n : Int) (h0 : -9223372036854775808 ≤ n) (h1 : n ≤ 9223372036854775807) : (ByteArray.mk (Lib.itoa n).toArray).size ≤ 21 := by
  rw [show (ByteArray.mk (Lib.itoa n).toArray).size = (Lib.itoa n).toArray.size from rfl, List.size_toArray]
  exact Lib.itoa_length_le n h0 h1
end Go.Proofs.YtdgfkmnnjhlpbaaDoor
/-
  Proved: plain facts on the texts of lists of actions; no program.
-/
namespace Go.Proofs.YtdgfkmnnjhlpbaaDoor
open Go.RowKit

def actTexts : List Act → List ByteArray
  | [] => []
  | c :: r => c.text :: actTexts r
def actsText (l : List Act) : ByteArray := ⟨(Lib.join ((actTexts l).map (·.data.toList)) [59]).toArray⟩
theorem actTexts_length (l : List Act) : (actTexts l).length = l.length := by
  induction l with
  | nil => rfl
  | cons a r ih => simp [actTexts, ih]
theorem actTexts_get (l : List Act) : ∀ (k : Nat) (h : k < l.length) (h2 : k < (actTexts l).length), (actTexts l)[k] = l[k].text := by
  induction l with
  | nil => intro k h; simp at h
  | cons a r ih =>
    intro k h h2
    cases k with
    | zero => rfl
    | succ k => simp only [actTexts, List.getElem_cons_succ]; exact ih k (by simpa using h) _
theorem actTexts_take (l : List Act) : ∀ (k : Nat) (h : k < l.length), actTexts (l.take (k + 1)) = actTexts (l.take k) ++ [l[k].text] := by
  induction l with
  | nil => intro k h; simp at h
  | cons a r ih =>
    intro k h
    cases k with
    | zero => simp [actTexts]
    | succ k => simp only [List.take_succ_cons, actTexts, List.getElem_cons_succ, List.cons_append]; rw [ih k (by simpa using h)]
theorem actText_size (c : Act) (h0 : -9223372036854775808 ≤ c.n) (h1 : c.n ≤ 9223372036854775807) : c.text.size ≤ 40 * (1 + c.bulk) := by
  have h2 := itoa_size c.n h0 h1
  have h3 := formatText_size c.ty
  have h4 := actWord_size c.kind.toNat
  have h5 : c.bulk = c.name.size + (c.ty.size - 1) := rfl
  have h6 := c.ty.size_pos
  unfold Act.text
  split
  · rw [actSay_eq]
    unfold actSay2
    have e : (ByteArray.mk #[32]).size = 1 := rfl
    generalize (ByteArray.mk (Lib.itoa c.n).toArray) = fs at h2 ⊢
    cases actNamed c.kind <;> cases decide (0 < actMost c.kind) <;> cases actTyped c.kind <;> simp only [ByteArray.size_append, e, if_true, if_false, Bool.false_eq_true] <;> omega
  · show 0 ≤ _; omega
theorem acts_ranged {w : World} {d : Nat} {v : Value} {l : List Act} (h : ActsAt w d v l) : ∀ c ∈ l, -9223372036854775808 ≤ c.n ∧ c.n ≤ 9223372036854775807 := by
  obtain ⟨a, cap, _, _, _, hat⟩ := h
  intro c hc
  obtain ⟨j, hj, rfl⟩ := List.getElem_of_mem hc
  obtain ⟨b, off, c0, c1, c2, c3, c4, _, _, _, _, _, _, _, ht⟩ := hat j hj
  obtain ⟨_, _, _, _, _, _, _, h2, h3, _⟩ := ht
  exact ⟨h2, h3⟩
theorem actTexts_size : ∀ l : List Act, (∀ c ∈ l, -9223372036854775808 ≤ c.n ∧ c.n ≤ 9223372036854775807) → total (actTexts l) ≤ 40 * Act.bulks l
  | [], _ => by simp [actTexts, total]
  | c :: r, h => by
    have h1 := actText_size c (h c (by simp)).1 (h c (by simp)).2
    have h2 := actTexts_size r fun x hx => h x (by simp [hx])
    simp only [actTexts, total, Act.bulks]
    omega
end Go.Proofs.YtdgfkmnnjhlpbaaDoor
/-
  Proved: which kinds of actions have a name, a type, a number (spec.l15Named, l15Typed, l15Most); the world stays as it was.
-/
namespace Go.Proofs.YtdgfkmnnjhlpbaaDoor
open Go.RowKit

set_option maxRecDepth 100000 in
theorem specNamed (k : Int) (w : World) : Calls Tryd.prog 51 #[.int .i64 k] w fun e w' => e = .returned (.bool (actNamed k)) ∧ w' = w := by
  by_cases h0 : k = 6
  · subst h0
    go_enter Tryd.func51, Tryd.ntmps51
    go_wp2_with fail
    go_ret
    exact ⟨rfl, rfl⟩
  · skip
    by_cases h1 : k = 9
    · subst h1
      go_enter Tryd.func51, Tryd.ntmps51
      go_wp2_with fail
      go_ret
      exact ⟨rfl, rfl⟩
    · skip
      by_cases h2 : k = 20
      · subst h2
        go_enter Tryd.func51, Tryd.ntmps51
        go_wp2_with fail
        go_ret
        exact ⟨rfl, rfl⟩
      · skip
        go_enter Tryd.func51, Tryd.ntmps51
        go_wp2_with fail
        go_ret
        exact ⟨by simp [actNamed, h0, h1, h2], rfl⟩
set_option maxRecDepth 100000 in
theorem specTyped (k : Int) (w : World) : Calls Tryd.prog 54 #[.int .i64 k] w fun e w' => e = .returned (.bool (actTyped k)) ∧ w' = w := by
  by_cases h0 : k = 9
  · subst h0
    go_enter Tryd.func54, Tryd.ntmps54
    go_wp2_with fail
    go_ret
    exact ⟨rfl, rfl⟩
  · skip
    by_cases h1 : k = 17
    · subst h1
      go_enter Tryd.func54, Tryd.ntmps54
      go_wp2_with fail
      go_ret
      exact ⟨rfl, rfl⟩
    · skip
      by_cases h2 : k = 19
      · subst h2
        go_enter Tryd.func54, Tryd.ntmps54
        go_wp2_with fail
        go_ret
        exact ⟨rfl, rfl⟩
      · skip
        go_enter Tryd.func54, Tryd.ntmps54
        go_wp2_with fail
        go_ret
        exact ⟨by simp [actTyped, h0, h1, h2], rfl⟩
set_option maxRecDepth 100000 in
theorem specMost (k : Int) (w : World) : Calls Tryd.prog 52 #[.int .i64 k] w fun e w' => e = .returned (.int .i64 (if k = 2 ∨ k = 18 ∨ k = 7 ∨ k = 8 then actMost k else -1)) ∧ w' = w := by
  by_cases h0 : k = 2
  · subst h0
    go_enter Tryd.func52, Tryd.ntmps52
    go_wp2_with fail
    go_ret
    exact ⟨rfl, rfl⟩
  · skip
    by_cases h1 : k = 18
    · subst h1
      go_enter Tryd.func52, Tryd.ntmps52
      go_wp2_with fail
      go_ret
      exact ⟨rfl, rfl⟩
    · skip
      by_cases h2 : k = 7
      · subst h2
        go_enter Tryd.func52, Tryd.ntmps52
        go_wp2_with fail
        go_ret
        exact ⟨rfl, rfl⟩
      · skip
        by_cases h3 : k = 8
        · subst h3
          go_enter Tryd.func52, Tryd.ntmps52
          go_wp2_with fail
          go_ret
          exact ⟨rfl, rfl⟩
        · skip
          go_enter Tryd.func52, Tryd.ntmps52
          go_wp2_with fail
          go_ret
          exact ⟨rfl, rfl⟩
end Go.Proofs.YtdgfkmnnjhlpbaaDoor
/-
  Proved: spec.l1In says whether a number lies between two others; the world stays as it was.
-/
namespace Go.Proofs.YtdgfkmnnjhlpbaaDoor
open Go.RowKit

set_option maxRecDepth 100000 in
theorem specIn (a b c : Int) (w : World) : Calls Tryd.prog 97 #[.int .i64 a, .int .i64 b, .int .i64 c] w fun e w' => e = .returned (.bool (decide (b ≤ a) && decide (a ≤ c))) ∧ w' = w := by
  by_cases h1 : b ≤ a
  · by_cases h2 : a ≤ c
    · go_enter Tryd.func97, Tryd.ntmps97
      go_wp2_with fail
      go_ret
      exact ⟨by simp [h1, h2], rfl⟩
    · go_enter Tryd.func97, Tryd.ntmps97
      go_wp2_with fail
      go_ret
      exact ⟨by simp [h2], rfl⟩
  · go_enter Tryd.func97, Tryd.ntmps97
    go_wp2_with fail
    go_ret
    exact ⟨by simp; intro; omega, rfl⟩
end Go.Proofs.YtdgfkmnnjhlpbaaDoor
/-
  Proved: spec.IsName says whether a text is a name; the memory that was there stays as it was.
-/
namespace Go.Proofs.YtdgfkmnnjhlpbaaDoor
open Go.RowKit

set_option maxRecDepth 100000 in
set_option maxHeartbeats 4000000 in
theorem specName (s : ByteArray) (w : World) (hs : s.size ≤ 9223372036854775807) : Calls Tryd.prog 98 #[.string s] w fun e w' => e = .returned (.bool (nameB s)) ∧ w' = w := by
  go_enter Tryd.func98, Tryd.ntmps98
  go_wp2_with fail
  go_loop [3] (fun i => ∃ k : Nat, k ≤ s.size ∧ i = .int .i64 k ∧ okB s k = true) (fun i => s.size - (intOf i).toNat)
  case atStart => exact ⟨0, by omega, rfl, rfl⟩
  case round =>
    obtain ⟨k, hk, rfl, hf⟩ := hrel
    have HF := Lib.hid hf; clear hf
    by_cases hlt : k < s.size
    · skip
      have HSUC := Lib.hid (okB_succ s k hlt)
      have hc255 : (s[k]'hlt).toNat < 256 := UInt8.toNat_lt _
      by_cases l1 : 97 ≤ (s[k]'hlt).toNat ∧ (s[k]'hlt).toNat ≤ 122
      · have OK := Lib.hid (okAt_letter (k := k) l1.1 l1.2)
        obtain ⟨l1a, l1b⟩ := l1
        have l1d : decide ((97 : Int) ≤ ((s[k]'hlt).toNat : Int)) = true := by simpa using (by omega : (97 : Int) ≤ ((s[k]'hlt).toNat : Int))
        have l2d : decide (((s[k]'hlt).toNat : Int) ≤ 122) = true := by simpa using (by omega : ((s[k]'hlt).toNat : Int) ≤ 122)
        clear l1a l1b
        go_wp2_with fail
        exact ⟨⟨k + 1, by omega, by go_num, by rw [HSUC.out, HF.out, OK.out]; rfl⟩, by simp [intOf]; omega⟩
      · by_cases l3 : 97 ≤ (s[k]'hlt).toNat
        · skip
          by_cases z : k = 0
          · have OK := Lib.hid (okAt_bad (c := (s[k]'hlt).toNat) (k := k) (by omega) (Or.inl z))
            have l1d : decide ((97 : Int) ≤ ((s[k]'hlt).toNat : Int)) = true := by simpa using (by omega : (97 : Int) ≤ ((s[k]'hlt).toNat : Int))
            have l2d : decide (((s[k]'hlt).toNat : Int) ≤ 122) = false := by simpa using (by omega : (122 : Int) < ((s[k]'hlt).toNat : Int))
            have zb : ((k : Int) == 0) = true := by simp [z]
            clear l1 l3 z
            go_wp2_with fail
            go_ret
            exact ⟨by rw [nameB, okB_false s (k + 1) s.size (by rw [HSUC.out, HF.out, OK.out]; rfl) hlt]; simp, rfl⟩
          · have zb : ((k : Int) == 0) = false := by simpa using z
            have z1 : 1 ≤ k := by omega
            by_cases g1 : 48 ≤ (s[k]'hlt).toNat ∧ (s[k]'hlt).toNat ≤ 57
            · have OK := Lib.hid (okAt_digit (k := k) z1 g1.1 g1.2)
              obtain ⟨g1a, g1b⟩ := g1
              have l1d : decide ((97 : Int) ≤ ((s[k]'hlt).toNat : Int)) = true := by simpa using (by omega : (97 : Int) ≤ ((s[k]'hlt).toNat : Int))
              have l2d : decide (((s[k]'hlt).toNat : Int) ≤ 122) = false := by simpa using (by omega : (122 : Int) < ((s[k]'hlt).toNat : Int))
              have g1d : decide (((s[k]'hlt).toNat : Int) < 48) = false := by simpa using (by omega : (48 : Int) ≤ ((s[k]'hlt).toNat : Int))
              have g2d : decide ((57 : Int) < ((s[k]'hlt).toNat : Int)) = false := by simpa using (by omega : ((s[k]'hlt).toNat : Int) ≤ 57)
              clear z l1 l3 g1a g1b
              go_wp2_with fail
              exact ⟨⟨k + 1, by omega, by go_num, by rw [HSUC.out, HF.out, OK.out]; rfl⟩, by simp [intOf]; omega⟩
            · have OK := Lib.hid (okAt_bad (c := (s[k]'hlt).toNat) (k := k) (by omega) (Or.inr (by omega)))
              by_cases g2 : 48 ≤ (s[k]'hlt).toNat
              · skip
                have l1d : decide ((97 : Int) ≤ ((s[k]'hlt).toNat : Int)) = true := by simpa using (by omega : (97 : Int) ≤ ((s[k]'hlt).toNat : Int))
                have l2d : decide (((s[k]'hlt).toNat : Int) ≤ 122) = false := by simpa using (by omega : (122 : Int) < ((s[k]'hlt).toNat : Int))
                have g1d : decide (((s[k]'hlt).toNat : Int) < 48) = false := by simpa using (by omega : (48 : Int) ≤ ((s[k]'hlt).toNat : Int))
                have g2d : decide ((57 : Int) < ((s[k]'hlt).toNat : Int)) = true := by simpa using (by omega : (57 : Int) < ((s[k]'hlt).toNat : Int))
                clear z l1 l3 g1 g2
                go_wp2_with fail
                go_ret
                exact ⟨by rw [nameB, okB_false s (k + 1) s.size (by rw [HSUC.out, HF.out, OK.out]; rfl) hlt]; simp, rfl⟩
              · skip
                have l1d : decide ((97 : Int) ≤ ((s[k]'hlt).toNat : Int)) = true := by simpa using (by omega : (97 : Int) ≤ ((s[k]'hlt).toNat : Int))
                have l2d : decide (((s[k]'hlt).toNat : Int) ≤ 122) = false := by simpa using (by omega : (122 : Int) < ((s[k]'hlt).toNat : Int))
                have g1d : decide (((s[k]'hlt).toNat : Int) < 48) = true := by simpa using (by omega : ((s[k]'hlt).toNat : Int) < 48)
                clear z l1 l3 g1 g2
                go_wp2_with fail
                go_ret
                exact ⟨by rw [nameB, okB_false s (k + 1) s.size (by rw [HSUC.out, HF.out, OK.out]; rfl) hlt]; simp, rfl⟩
        · skip
          by_cases z : k = 0
          · have OK := Lib.hid (okAt_bad (c := (s[k]'hlt).toNat) (k := k) (by omega) (Or.inl z))
            have l1d : decide ((97 : Int) ≤ ((s[k]'hlt).toNat : Int)) = false := by simpa using (by omega : ((s[k]'hlt).toNat : Int) < 97)
            have zb : ((k : Int) == 0) = true := by simp [z]
            clear l1 l3 z
            go_wp2_with fail
            go_ret
            exact ⟨by rw [nameB, okB_false s (k + 1) s.size (by rw [HSUC.out, HF.out, OK.out]; rfl) hlt]; simp, rfl⟩
          · have zb : ((k : Int) == 0) = false := by simpa using z
            have z1 : 1 ≤ k := by omega
            by_cases g1 : 48 ≤ (s[k]'hlt).toNat ∧ (s[k]'hlt).toNat ≤ 57
            · have OK := Lib.hid (okAt_digit (k := k) z1 g1.1 g1.2)
              obtain ⟨g1a, g1b⟩ := g1
              have l1d : decide ((97 : Int) ≤ ((s[k]'hlt).toNat : Int)) = false := by simpa using (by omega : ((s[k]'hlt).toNat : Int) < 97)
              have g1d : decide (((s[k]'hlt).toNat : Int) < 48) = false := by simpa using (by omega : (48 : Int) ≤ ((s[k]'hlt).toNat : Int))
              have g2d : decide ((57 : Int) < ((s[k]'hlt).toNat : Int)) = false := by simpa using (by omega : ((s[k]'hlt).toNat : Int) ≤ 57)
              clear z l1 l3 g1a g1b
              go_wp2_with fail
              exact ⟨⟨k + 1, by omega, by go_num, by rw [HSUC.out, HF.out, OK.out]; rfl⟩, by simp [intOf]; omega⟩
            · have OK := Lib.hid (okAt_bad (c := (s[k]'hlt).toNat) (k := k) (by omega) (Or.inr (by omega)))
              by_cases g2 : 48 ≤ (s[k]'hlt).toNat
              · skip
                have l1d : decide ((97 : Int) ≤ ((s[k]'hlt).toNat : Int)) = false := by simpa using (by omega : ((s[k]'hlt).toNat : Int) < 97)
                have g1d : decide (((s[k]'hlt).toNat : Int) < 48) = false := by simpa using (by omega : (48 : Int) ≤ ((s[k]'hlt).toNat : Int))
                have g2d : decide ((57 : Int) < ((s[k]'hlt).toNat : Int)) = true := by simpa using (by omega : (57 : Int) < ((s[k]'hlt).toNat : Int))
                clear z l1 l3 g1 g2
                go_wp2_with fail
                go_ret
                exact ⟨by rw [nameB, okB_false s (k + 1) s.size (by rw [HSUC.out, HF.out, OK.out]; rfl) hlt]; simp, rfl⟩
              · skip
                have l1d : decide ((97 : Int) ≤ ((s[k]'hlt).toNat : Int)) = false := by simpa using (by omega : ((s[k]'hlt).toNat : Int) < 97)
                have g1d : decide (((s[k]'hlt).toNat : Int) < 48) = true := by simpa using (by omega : ((s[k]'hlt).toNat : Int) < 48)
                clear z l1 l3 g1 g2
                go_wp2_with fail
                go_ret
                exact ⟨by rw [nameB, okB_false s (k + 1) s.size (by rw [HSUC.out, HF.out, OK.out]; rfl) hlt]; simp, rfl⟩
    · obtain rfl : k = s.size := by omega
      go_wp2_with fail
      refine (specIn _ _ _ w).mono ?_
      rintro e w9 ⟨rfl, rfl⟩
      have w1 : wordB s = ((s.toList == [105, 102]) || ((s.toList == [102, 115, 116]) || (s.toList == [115, 110, 100]))) := rfl
      have e1 : nameB s = (decide (1 ≤ s.size) && (decide (s.size ≤ 5) && !(wordB s))) := by rw [nameB, HF.out]; simp
      have E1 := Lib.hid (e1.trans (by rw [w1]))
      clear w1 e1
      by_cases r1 : 1 ≤ s.size
      · by_cases r2 : s.size ≤ 5
        · have i1 : (1 : Int) ≤ (s.size : Int) := by omega
          have i2 : (s.size : Int) ≤ 5 := by omega
          have R1 := Lib.hid r1
          have R2 := Lib.hid r2
          cases h1 : (s.toList == [105, 102]) with
          | true =>
            go_wp2_with fail
            go_ret
            exact ⟨by rw [E1.out]; simp [h1], rfl⟩
          | false =>
            cases h2 : (s.toList == [102, 115, 116]) with
            | true =>
              go_wp2_with fail
              go_ret
              exact ⟨by rw [E1.out]; simp [h1, h2], rfl⟩
            | false =>
              cases h3 : (s.toList == [115, 110, 100]) with
              | true =>
                go_wp2_with fail
                go_ret
                exact ⟨by rw [E1.out]; simp [h1, h2, h3], rfl⟩
              | false =>
                go_wp2_with fail
                go_ret
                exact ⟨by rw [E1.out]; simp [h1, h2, h3, R1.out, R2.out], rfl⟩
        · have i2 : ¬ ((s.size : Int) ≤ 5) := by omega
          have i1 : (1 : Int) ≤ (s.size : Int) := by omega
          go_wp2_with fail
          go_ret
          exact ⟨by rw [E1.out]; simp [r2], rfl⟩
      · have i1 : ¬ ((1 : Int) ≤ (s.size : Int)) := by omega
        go_wp2_with fail
        go_ret
        exact ⟨by rw [E1.out]; simp [r1], rfl⟩
end Go.Proofs.YtdgfkmnnjhlpbaaDoor
/-
  Proved: spec.IsAction says whether an action is valid; it leaves the memory that was there as it was.
-/
namespace Go.Proofs.YtdgfkmnnjhlpbaaDoor
open Go.RowKit

set_option maxRecDepth 100000 in
set_option maxHeartbeats 4000000 in
theorem specActionTT (d : Nat) (v : Value) (t : Act) (w : World) (h : ActAt w d v t) (hn : t.bulk ≤ 1048576) (hN : actNamed t.kind = true) (hT : actTyped t.kind = true) :
    Calls Tryd.prog 49 #[v] w fun e w' => e = .returned (.bool t.okB) ∧ Below w.heap.size w w' := by
  cases t with
  | mk kd nm n ty =>
    obtain ⟨tk, ta, tn, tc, rfl, hk0, hk1, hn0, hn1, hnm, hty⟩ := h
    dsimp only at hk0 hk1 hn0 hn1 hnm hty hN hT ⊢
    have hsz : ty.size ≤ 1048577 := by have : (Act.mk kd nm n ty).bulk = nm.size + (ty.size - 1) := rfl; omega
    clear hn
    have HQ := Lib.hid (okB_of kd nm n ty)
    have HNL := Lib.hid (ty_isNil hty)
    have B : Hid (Below w.heap.size w (w.alloc (.cells #[.int .i64 kd, .string nm, .int .i64 n, .int .i64 tk, .slice ta tn tc] 33))) := below_alloc _ _
    have HTY := Lib.hid (hty.below B.out)
    have XA : Hid (BoxAt (w.alloc (.cells #[.int .i64 kd, .string nm, .int .i64 n, .int .i64 tk, .slice ta tn tc] 33)) w.heap.size #[.int .i64 kd, .string nm, .int .i64 n, .int .i64 tk, .slice ta tn tc]) := BoxAt.new _ _ _
    clear hty
    have CI : ∀ W, Calls Tryd.prog 97 #[.int .i64 kd, .int .i64 1, .int .i64 20] W fun e w' => e = .returned (.bool (decide (1 ≤ kd) && decide (kd ≤ 20))) ∧ w' = W := fun W => specIn kd 1 20 W
    have CN : ∀ W, Calls Tryd.prog 51 #[.int .i64 kd] W fun e w' => e = .returned (.bool (actNamed kd)) ∧ w' = W := fun W => specNamed kd W
    have CT : ∀ W, Calls Tryd.prog 54 #[.int .i64 kd] W fun e w' => e = .returned (.bool (actTyped kd)) ∧ w' = W := fun W => specTyped kd W
    have CM : ∀ W, Calls Tryd.prog 52 #[.int .i64 kd] W fun e w' => e = .returned (.int .i64 (actMost' kd)) ∧ w' = W := fun W => specMost kd W
    have CX : ∀ W, Calls Tryd.prog 100 #[.int .i64 0, .int .i64 (actMost' kd)] W fun e w' => e = .returned (.int .i64 (actMost kd)) ∧ w' = W := fun W => (specMax 0 (actMost' kd) W).mono (by rintro e w' ⟨rfl, h⟩; exact ⟨by rw [act_max], h⟩)
    have CR : ∀ W, Calls Tryd.prog 97 #[.int .i64 n, .int .i64 0, .int .i64 (actMost kd)] W fun e w' => e = .returned (.bool (decide (0 ≤ n) && decide (n ≤ actMost kd))) ∧ w' = W := fun W => specIn n 0 (actMost kd) W
    have CS : ∀ W, Calls Tryd.prog 98 #[.string nm] W fun e w' => e = .returned (.bool (nameB nm)) ∧ w' = W := fun W => specName nm W hnm
    generalize (decide (1 ≤ kd) && decide (kd ≤ 20)) = bi at HQ CI
    generalize actNamed kd = bn at HQ CN hN
    generalize nameB nm = bb at HQ CS
    generalize actTyped kd = bt at HQ CT hT
    generalize (decide (0 ≤ n) && decide (n ≤ actMost kd)) = br at HQ CR
    generalize actMost kd = mo at CX CR
    generalize actMost' kd = mo' at CX CM
    have HCI := Lib.hid CI
    have HCN := Lib.hid CN
    have HCT := Lib.hid CT
    have HCM := Lib.hid CM
    have HCX := Lib.hid CX
    have HCR := Lib.hid CR
    have HCS := Lib.hid CS
    subst hN
    subst hT
    clear CI CN CT CM CX CR CS
    go_enter Tryd.func49, Tryd.ntmps49
    go_wp2_with fail
    cases bi with
    | false =>
      have c0 := XA.out.2 0
      have c1 := XA.out.2 1
      go_quiet ((first
        | (go_at_call 97; exact Calls.quiet_of_same (HCI.out _))
        | (go_at_call 51; exact Calls.quiet_of_same (HCN.out _))
        | (go_at_call 98; exact Calls.quiet_of_same (HCS.out _))))
      go_wp2_with fail
      go_ret
      exact ⟨by rw [HQ.out]; rfl, below_q B.out nq⟩
    | true =>
      cases bb with
      | false =>
        have c0 := XA.out.2 0
        have c1 := XA.out.2 1
        go_quiet ((first
          | (go_at_call 97; exact Calls.quiet_of_same (HCI.out _))
          | (go_at_call 51; exact Calls.quiet_of_same (HCN.out _))
          | (go_at_call 98; exact Calls.quiet_of_same (HCS.out _))))
        go_wp2_with fail
        go_ret
        exact ⟨by rw [HQ.out]; rfl, below_q B.out nq⟩
      | true =>
        have c0 := XA.out.2 0
        have c1 := XA.out.2 1
        go_quiet ((first
          | (go_at_call 97; exact Calls.quiet_of_same (HCI.out _))
          | (go_at_call 51; exact Calls.quiet_of_same (HCN.out _))
          | (go_at_call 98; exact Calls.quiet_of_same (HCS.out _))))
        have hb : Below (w.alloc (.cells #[.int .i64 kd, .string nm, .int .i64 n, .int .i64 tk, .slice ta tn tc] 33)).heap.size (w.alloc (.cells #[.int .i64 kd, .string nm, .int .i64 n, .int .i64 tk, .slice ta tn tc] 33)) ((w.alloc (.cells #[.int .i64 kd, .string nm, .int .i64 n, .int .i64 tk, .slice ta tn tc] 33)).drewN nq) := below_q (Below.refl _ _) nq
        replace B := Lib.hid (below_thru B.out (Nat.le_refl _) hb)
        replace HTY := Lib.hid (HTY.out.below hb)
        replace XA := Lib.hid (XA.out.below hb)
        clear hb
        generalize (w.alloc (.cells #[.int .i64 kd, .string nm, .int .i64 n, .int .i64 tk, .slice ta tn tc] 33)).drewN nq = wq at B HTY XA ⊢
        clear c0 c1
        go_wp2_with fail
        have hb := below_drew wq
        replace B := Lib.hid (below_thru B.out (Nat.le_refl _) hb)
        replace HTY := Lib.hid (HTY.out.below hb)
        replace XA := Lib.hid (XA.out.below hb)
        clear hb
        cases hno : ty.note with
        | true =>
          have hund : undef = Value.tuple #[] := rfl
          have c0 := XA.out.2 0
          have c3 := XA.out.2 3
          have c4 := XA.out.2 4
          first
            | (go_region_with
                 (first
                  | (go_at_call 54
                     refine (HCT.out _).mono ?_
                     rintro e w1 ⟨rfl, hw⟩
                     subst hw)
                  | (go_at_call 99
                     refine (specNote d _ ty _ HTY.out hsz).mono ?_
                     rintro e w1 ⟨he, hb⟩
                     rw [hno] at he
                     subst he
                     replace B := Lib.hid (below_thru B.out (Nat.le_refl _) hb)
                     replace HTY := Lib.hid (HTY.out.below hb)
                     replace XA := Lib.hid (XA.out.below hb)
                     clear hb
                     have c0 := XA.out.2 0
                     have c3 := XA.out.2 3
                     have c4 := XA.out.2 4)))
            | fail
          all_goals clear hund
          all_goals have c0 := XA.out.2 0
          all_goals have c2 := XA.out.2 2
          all_goals go_wp2_with fail
          all_goals go_quiet ((first
            | (go_at_call 52; exact Calls.quiet_of_same (HCM.out _))
            | (go_at_call 100; exact Calls.quiet_of_same (HCX.out _))
            | (go_at_call 97; exact Calls.quiet_of_same (HCR.out _))))
          all_goals go_wp2_with fail
          all_goals go_ret
          all_goals exact ⟨by rw [HQ.out]; simp [hno], below_q B.out nq⟩
        | false =>
          have hund : undef = Value.tuple #[] := rfl
          have c0 := XA.out.2 0
          have c3 := XA.out.2 3
          have c4 := XA.out.2 4
          first
            | (go_region_with
                 (first
                  | (go_at_call 54
                     refine (HCT.out _).mono ?_
                     rintro e w1 ⟨rfl, hw⟩
                     subst hw)
                  | (go_at_call 99
                     refine (specNote d _ ty _ HTY.out hsz).mono ?_
                     rintro e w1 ⟨he, hb⟩
                     rw [hno] at he
                     subst he
                     replace B := Lib.hid (below_thru B.out (Nat.le_refl _) hb)
                     replace HTY := Lib.hid (HTY.out.below hb)
                     replace XA := Lib.hid (XA.out.below hb)
                     clear hb
                     have c0 := XA.out.2 0
                     have c3 := XA.out.2 3
                     have c4 := XA.out.2 4)))
            | fail
          all_goals clear hund
          all_goals go_wp2_with fail
          all_goals go_ret
          all_goals exact ⟨by rw [HQ.out]; simp [hno], B.out⟩
end Go.Proofs.YtdgfkmnnjhlpbaaDoor
/-
  Proved: spec.IsAction says whether an action is valid; it leaves the memory that was there as it was.
-/
namespace Go.Proofs.YtdgfkmnnjhlpbaaDoor
open Go.RowKit

set_option maxRecDepth 100000 in
set_option maxHeartbeats 4000000 in
theorem specActionTF (d : Nat) (v : Value) (t : Act) (w : World) (h : ActAt w d v t) (hn : t.bulk ≤ 1048576) (hN : actNamed t.kind = true) (hT : actTyped t.kind = false) :
    Calls Tryd.prog 49 #[v] w fun e w' => e = .returned (.bool t.okB) ∧ Below w.heap.size w w' := by
  cases t with
  | mk kd nm n ty =>
    obtain ⟨tk, ta, tn, tc, rfl, hk0, hk1, hn0, hn1, hnm, hty⟩ := h
    dsimp only at hk0 hk1 hn0 hn1 hnm hty hN hT ⊢
    have hsz : ty.size ≤ 1048577 := by have : (Act.mk kd nm n ty).bulk = nm.size + (ty.size - 1) := rfl; omega
    clear hn
    have HQ := Lib.hid (okB_of kd nm n ty)
    have HNL := Lib.hid (ty_isNil hty)
    have B : Hid (Below w.heap.size w (w.alloc (.cells #[.int .i64 kd, .string nm, .int .i64 n, .int .i64 tk, .slice ta tn tc] 33))) := below_alloc _ _
    have HTY := Lib.hid (hty.below B.out)
    have XA : Hid (BoxAt (w.alloc (.cells #[.int .i64 kd, .string nm, .int .i64 n, .int .i64 tk, .slice ta tn tc] 33)) w.heap.size #[.int .i64 kd, .string nm, .int .i64 n, .int .i64 tk, .slice ta tn tc]) := BoxAt.new _ _ _
    clear hty
    have CI : ∀ W, Calls Tryd.prog 97 #[.int .i64 kd, .int .i64 1, .int .i64 20] W fun e w' => e = .returned (.bool (decide (1 ≤ kd) && decide (kd ≤ 20))) ∧ w' = W := fun W => specIn kd 1 20 W
    have CN : ∀ W, Calls Tryd.prog 51 #[.int .i64 kd] W fun e w' => e = .returned (.bool (actNamed kd)) ∧ w' = W := fun W => specNamed kd W
    have CT : ∀ W, Calls Tryd.prog 54 #[.int .i64 kd] W fun e w' => e = .returned (.bool (actTyped kd)) ∧ w' = W := fun W => specTyped kd W
    have CM : ∀ W, Calls Tryd.prog 52 #[.int .i64 kd] W fun e w' => e = .returned (.int .i64 (actMost' kd)) ∧ w' = W := fun W => specMost kd W
    have CX : ∀ W, Calls Tryd.prog 100 #[.int .i64 0, .int .i64 (actMost' kd)] W fun e w' => e = .returned (.int .i64 (actMost kd)) ∧ w' = W := fun W => (specMax 0 (actMost' kd) W).mono (by rintro e w' ⟨rfl, h⟩; exact ⟨by rw [act_max], h⟩)
    have CR : ∀ W, Calls Tryd.prog 97 #[.int .i64 n, .int .i64 0, .int .i64 (actMost kd)] W fun e w' => e = .returned (.bool (decide (0 ≤ n) && decide (n ≤ actMost kd))) ∧ w' = W := fun W => specIn n 0 (actMost kd) W
    have CS : ∀ W, Calls Tryd.prog 98 #[.string nm] W fun e w' => e = .returned (.bool (nameB nm)) ∧ w' = W := fun W => specName nm W hnm
    generalize (decide (1 ≤ kd) && decide (kd ≤ 20)) = bi at HQ CI
    generalize actNamed kd = bn at HQ CN hN
    generalize nameB nm = bb at HQ CS
    generalize actTyped kd = bt at HQ CT hT
    generalize (decide (0 ≤ n) && decide (n ≤ actMost kd)) = br at HQ CR
    generalize actMost kd = mo at CX CR
    generalize actMost' kd = mo' at CX CM
    have HCI := Lib.hid CI
    have HCN := Lib.hid CN
    have HCT := Lib.hid CT
    have HCM := Lib.hid CM
    have HCX := Lib.hid CX
    have HCR := Lib.hid CR
    have HCS := Lib.hid CS
    subst hN
    subst hT
    clear CI CN CT CM CX CR CS
    go_enter Tryd.func49, Tryd.ntmps49
    go_wp2_with fail
    cases bi with
    | false =>
      have c0 := XA.out.2 0
      have c1 := XA.out.2 1
      go_quiet ((first
        | (go_at_call 97; exact Calls.quiet_of_same (HCI.out _))
        | (go_at_call 51; exact Calls.quiet_of_same (HCN.out _))
        | (go_at_call 98; exact Calls.quiet_of_same (HCS.out _))))
      go_wp2_with fail
      go_ret
      exact ⟨by rw [HQ.out]; rfl, below_q B.out nq⟩
    | true =>
      cases bb with
      | false =>
        have c0 := XA.out.2 0
        have c1 := XA.out.2 1
        go_quiet ((first
          | (go_at_call 97; exact Calls.quiet_of_same (HCI.out _))
          | (go_at_call 51; exact Calls.quiet_of_same (HCN.out _))
          | (go_at_call 98; exact Calls.quiet_of_same (HCS.out _))))
        go_wp2_with fail
        go_ret
        exact ⟨by rw [HQ.out]; rfl, below_q B.out nq⟩
      | true =>
        have c0 := XA.out.2 0
        have c1 := XA.out.2 1
        go_quiet ((first
          | (go_at_call 97; exact Calls.quiet_of_same (HCI.out _))
          | (go_at_call 51; exact Calls.quiet_of_same (HCN.out _))
          | (go_at_call 98; exact Calls.quiet_of_same (HCS.out _))))
        have hb : Below (w.alloc (.cells #[.int .i64 kd, .string nm, .int .i64 n, .int .i64 tk, .slice ta tn tc] 33)).heap.size (w.alloc (.cells #[.int .i64 kd, .string nm, .int .i64 n, .int .i64 tk, .slice ta tn tc] 33)) ((w.alloc (.cells #[.int .i64 kd, .string nm, .int .i64 n, .int .i64 tk, .slice ta tn tc] 33)).drewN nq) := below_q (Below.refl _ _) nq
        replace B := Lib.hid (below_thru B.out (Nat.le_refl _) hb)
        replace HTY := Lib.hid (HTY.out.below hb)
        replace XA := Lib.hid (XA.out.below hb)
        clear hb
        generalize (w.alloc (.cells #[.int .i64 kd, .string nm, .int .i64 n, .int .i64 tk, .slice ta tn tc] 33)).drewN nq = wq at B HTY XA ⊢
        clear c0 c1
        go_wp2_with fail
        have hb := below_drew wq
        replace B := Lib.hid (below_thru B.out (Nat.le_refl _) hb)
        replace HTY := Lib.hid (HTY.out.below hb)
        replace XA := Lib.hid (XA.out.below hb)
        clear hb
        cases hno : ty.note with
        | true =>
          have hund : undef = Value.tuple #[] := rfl
          have c0 := XA.out.2 0
          have c3 := XA.out.2 3
          have c4 := XA.out.2 4
          first
            | (go_region_with
                 (first
                  | (go_at_call 54
                     refine (HCT.out _).mono ?_
                     rintro e w1 ⟨rfl, hw⟩
                     subst hw)
                  | (go_at_call 99
                     refine (specNote d _ ty _ HTY.out hsz).mono ?_
                     rintro e w1 ⟨he, hb⟩
                     rw [hno] at he
                     subst he
                     replace B := Lib.hid (below_thru B.out (Nat.le_refl _) hb)
                     replace HTY := Lib.hid (HTY.out.below hb)
                     replace XA := Lib.hid (XA.out.below hb)
                     clear hb
                     have c0 := XA.out.2 0
                     have c3 := XA.out.2 3
                     have c4 := XA.out.2 4)))
            | fail
          all_goals clear hund
          all_goals go_wp2_with fail
          all_goals go_ret
          all_goals exact ⟨by rw [HQ.out]; simp [hno], B.out⟩
        | false =>
          by_cases qt : tk = 0
          · subst qt
            by_cases qs : tn = 0
            · subst qs
              have hil : ty.isNil = true := by rw [HNL.out]; rfl
              have hund : undef = Value.tuple #[] := rfl
              have c0 := XA.out.2 0
              have c3 := XA.out.2 3
              have c4 := XA.out.2 4
              first
                | (go_region_with
                     (first
                      | (go_at_call 54
                         refine (HCT.out _).mono ?_
                         rintro e w1 ⟨rfl, hw⟩
                         subst hw)
                      | (go_at_call 99
                         refine (specNote d _ ty _ HTY.out hsz).mono ?_
                         rintro e w1 ⟨he, hb⟩
                         rw [hno] at he
                         subst he
                         replace B := Lib.hid (below_thru B.out (Nat.le_refl _) hb)
                         replace HTY := Lib.hid (HTY.out.below hb)
                         replace XA := Lib.hid (XA.out.below hb)
                         clear hb
                         have c0 := XA.out.2 0
                         have c3 := XA.out.2 3
                         have c4 := XA.out.2 4)))
                | fail
              all_goals clear hund
              all_goals have c0 := XA.out.2 0
              all_goals have c2 := XA.out.2 2
              all_goals go_wp2_with fail
              all_goals go_quiet ((first
                | (go_at_call 52; exact Calls.quiet_of_same (HCM.out _))
                | (go_at_call 100; exact Calls.quiet_of_same (HCX.out _))
                | (go_at_call 97; exact Calls.quiet_of_same (HCR.out _))))
              all_goals go_wp2_with fail
              all_goals go_ret
              all_goals exact ⟨by rw [HQ.out]; simp [hno, hil], below_q B.out nq⟩
            · have hil : ty.isNil = false := by rw [HNL.out]; simp [qs]
              have q5 : decide ((0 : Int) < (tn : Int)) = true := decide_eq_true (by omega)
              have hund : undef = Value.tuple #[] := rfl
              have c0 := XA.out.2 0
              have c3 := XA.out.2 3
              have c4 := XA.out.2 4
              first
                | (go_region_with
                     (first
                      | (go_at_call 54
                         refine (HCT.out _).mono ?_
                         rintro e w1 ⟨rfl, hw⟩
                         subst hw)
                      | (go_at_call 99
                         refine (specNote d _ ty _ HTY.out hsz).mono ?_
                         rintro e w1 ⟨he, hb⟩
                         rw [hno] at he
                         subst he
                         replace B := Lib.hid (below_thru B.out (Nat.le_refl _) hb)
                         replace HTY := Lib.hid (HTY.out.below hb)
                         replace XA := Lib.hid (XA.out.below hb)
                         clear hb
                         have c0 := XA.out.2 0
                         have c3 := XA.out.2 3
                         have c4 := XA.out.2 4)))
                | fail
              all_goals clear hund
              all_goals go_wp2_with fail
              all_goals go_ret
              all_goals exact ⟨by rw [HQ.out]; simp [hil], B.out⟩
          · have hil : ty.isNil = false := by rw [HNL.out]; simp [qt]
            have q4 : (tk != 0) = true := by simp [qt]
            have hund : undef = Value.tuple #[] := rfl
            have c0 := XA.out.2 0
            have c3 := XA.out.2 3
            have c4 := XA.out.2 4
            first
              | (go_region_with
                   (first
                    | (go_at_call 54
                       refine (HCT.out _).mono ?_
                       rintro e w1 ⟨rfl, hw⟩
                       subst hw)
                    | (go_at_call 99
                       refine (specNote d _ ty _ HTY.out hsz).mono ?_
                       rintro e w1 ⟨he, hb⟩
                       rw [hno] at he
                       subst he
                       replace B := Lib.hid (below_thru B.out (Nat.le_refl _) hb)
                       replace HTY := Lib.hid (HTY.out.below hb)
                       replace XA := Lib.hid (XA.out.below hb)
                       clear hb
                       have c0 := XA.out.2 0
                       have c3 := XA.out.2 3
                       have c4 := XA.out.2 4)))
              | fail
            all_goals clear hund
            all_goals go_wp2_with fail
            all_goals go_ret
            all_goals exact ⟨by rw [HQ.out]; simp [hil], B.out⟩
end Go.Proofs.YtdgfkmnnjhlpbaaDoor
/-
  Proved: spec.IsAction says whether an action is valid; it leaves the memory that was there as it was.
-/
namespace Go.Proofs.YtdgfkmnnjhlpbaaDoor
open Go.RowKit

set_option maxRecDepth 100000 in
set_option maxHeartbeats 4000000 in
theorem specActionFT (d : Nat) (v : Value) (t : Act) (w : World) (h : ActAt w d v t) (hn : t.bulk ≤ 1048576) (hN : actNamed t.kind = false) (hT : actTyped t.kind = true) :
    Calls Tryd.prog 49 #[v] w fun e w' => e = .returned (.bool t.okB) ∧ Below w.heap.size w w' := by
  cases t with
  | mk kd nm n ty =>
    obtain ⟨tk, ta, tn, tc, rfl, hk0, hk1, hn0, hn1, hnm, hty⟩ := h
    dsimp only at hk0 hk1 hn0 hn1 hnm hty hN hT ⊢
    have hsz : ty.size ≤ 1048577 := by have : (Act.mk kd nm n ty).bulk = nm.size + (ty.size - 1) := rfl; omega
    clear hn
    have HQ := Lib.hid (okB_of kd nm n ty)
    have HNL := Lib.hid (ty_isNil hty)
    have B : Hid (Below w.heap.size w (w.alloc (.cells #[.int .i64 kd, .string nm, .int .i64 n, .int .i64 tk, .slice ta tn tc] 33))) := below_alloc _ _
    have HTY := Lib.hid (hty.below B.out)
    have XA : Hid (BoxAt (w.alloc (.cells #[.int .i64 kd, .string nm, .int .i64 n, .int .i64 tk, .slice ta tn tc] 33)) w.heap.size #[.int .i64 kd, .string nm, .int .i64 n, .int .i64 tk, .slice ta tn tc]) := BoxAt.new _ _ _
    clear hty
    have CI : ∀ W, Calls Tryd.prog 97 #[.int .i64 kd, .int .i64 1, .int .i64 20] W fun e w' => e = .returned (.bool (decide (1 ≤ kd) && decide (kd ≤ 20))) ∧ w' = W := fun W => specIn kd 1 20 W
    have CN : ∀ W, Calls Tryd.prog 51 #[.int .i64 kd] W fun e w' => e = .returned (.bool (actNamed kd)) ∧ w' = W := fun W => specNamed kd W
    have CT : ∀ W, Calls Tryd.prog 54 #[.int .i64 kd] W fun e w' => e = .returned (.bool (actTyped kd)) ∧ w' = W := fun W => specTyped kd W
    have CM : ∀ W, Calls Tryd.prog 52 #[.int .i64 kd] W fun e w' => e = .returned (.int .i64 (actMost' kd)) ∧ w' = W := fun W => specMost kd W
    have CX : ∀ W, Calls Tryd.prog 100 #[.int .i64 0, .int .i64 (actMost' kd)] W fun e w' => e = .returned (.int .i64 (actMost kd)) ∧ w' = W := fun W => (specMax 0 (actMost' kd) W).mono (by rintro e w' ⟨rfl, h⟩; exact ⟨by rw [act_max], h⟩)
    have CR : ∀ W, Calls Tryd.prog 97 #[.int .i64 n, .int .i64 0, .int .i64 (actMost kd)] W fun e w' => e = .returned (.bool (decide (0 ≤ n) && decide (n ≤ actMost kd))) ∧ w' = W := fun W => specIn n 0 (actMost kd) W
    have CS : ∀ W, Calls Tryd.prog 98 #[.string nm] W fun e w' => e = .returned (.bool (nameB nm)) ∧ w' = W := fun W => specName nm W hnm
    generalize (decide (1 ≤ kd) && decide (kd ≤ 20)) = bi at HQ CI
    generalize actNamed kd = bn at HQ CN hN
    generalize nameB nm = bb at HQ CS
    generalize actTyped kd = bt at HQ CT hT
    generalize (decide (0 ≤ n) && decide (n ≤ actMost kd)) = br at HQ CR
    generalize actMost kd = mo at CX CR
    generalize actMost' kd = mo' at CX CM
    have HCI := Lib.hid CI
    have HCN := Lib.hid CN
    have HCT := Lib.hid CT
    have HCM := Lib.hid CM
    have HCX := Lib.hid CX
    have HCR := Lib.hid CR
    have HCS := Lib.hid CS
    subst hN
    subst hT
    clear CI CN CT CM CX CR CS
    go_enter Tryd.func49, Tryd.ntmps49
    go_wp2_with fail
    cases bi with
    | false =>
      have c0 := XA.out.2 0
      have c1 := XA.out.2 1
      go_quiet ((first
        | (go_at_call 97; exact Calls.quiet_of_same (HCI.out _))
        | (go_at_call 51; exact Calls.quiet_of_same (HCN.out _))
        | (go_at_call 98; exact Calls.quiet_of_same (HCS.out _))))
      go_wp2_with fail
      go_ret
      exact ⟨by rw [HQ.out]; rfl, below_q B.out nq⟩
    | true =>
      cases bb with
      | true =>
        have c0 := XA.out.2 0
        have c1 := XA.out.2 1
        go_quiet ((first
          | (go_at_call 97; exact Calls.quiet_of_same (HCI.out _))
          | (go_at_call 51; exact Calls.quiet_of_same (HCN.out _))
          | (go_at_call 98; exact Calls.quiet_of_same (HCS.out _))))
        go_wp2_with fail
        go_ret
        exact ⟨by rw [HQ.out]; rfl, below_q B.out nq⟩
      | false =>
        by_cases hz : nm.size = 0
        · have ez := text_none hz
          have c0 := XA.out.2 0
          have c1 := XA.out.2 1
          go_quiet ((first
            | (go_at_call 97; exact Calls.quiet_of_same (HCI.out _))
            | (go_at_call 51; exact Calls.quiet_of_same (HCN.out _))
            | (go_at_call 98; exact Calls.quiet_of_same (HCS.out _))))
          clear ez
          have hb : Below (w.alloc (.cells #[.int .i64 kd, .string nm, .int .i64 n, .int .i64 tk, .slice ta tn tc] 33)).heap.size (w.alloc (.cells #[.int .i64 kd, .string nm, .int .i64 n, .int .i64 tk, .slice ta tn tc] 33)) ((w.alloc (.cells #[.int .i64 kd, .string nm, .int .i64 n, .int .i64 tk, .slice ta tn tc] 33)).drewN nq) := below_q (Below.refl _ _) nq
          replace B := Lib.hid (below_thru B.out (Nat.le_refl _) hb)
          replace HTY := Lib.hid (HTY.out.below hb)
          replace XA := Lib.hid (XA.out.below hb)
          clear hb
          generalize (w.alloc (.cells #[.int .i64 kd, .string nm, .int .i64 n, .int .i64 tk, .slice ta tn tc] 33)).drewN nq = wq at B HTY XA ⊢
          clear c0 c1
          go_wp2_with fail
          have hb := below_drew wq
          replace B := Lib.hid (below_thru B.out (Nat.le_refl _) hb)
          replace HTY := Lib.hid (HTY.out.below hb)
          replace XA := Lib.hid (XA.out.below hb)
          clear hb
          cases hno : ty.note with
          | true =>
            have hund : undef = Value.tuple #[] := rfl
            have c0 := XA.out.2 0
            have c3 := XA.out.2 3
            have c4 := XA.out.2 4
            first
              | (go_region_with
                   (first
                    | (go_at_call 54
                       refine (HCT.out _).mono ?_
                       rintro e w1 ⟨rfl, hw⟩
                       subst hw)
                    | (go_at_call 99
                       refine (specNote d _ ty _ HTY.out hsz).mono ?_
                       rintro e w1 ⟨he, hb⟩
                       rw [hno] at he
                       subst he
                       replace B := Lib.hid (below_thru B.out (Nat.le_refl _) hb)
                       replace HTY := Lib.hid (HTY.out.below hb)
                       replace XA := Lib.hid (XA.out.below hb)
                       clear hb
                       have c0 := XA.out.2 0
                       have c3 := XA.out.2 3
                       have c4 := XA.out.2 4)))
              | fail
            all_goals clear hund
            all_goals have c0 := XA.out.2 0
            all_goals have c2 := XA.out.2 2
            all_goals go_wp2_with fail
            all_goals go_quiet ((first
              | (go_at_call 52; exact Calls.quiet_of_same (HCM.out _))
              | (go_at_call 100; exact Calls.quiet_of_same (HCX.out _))
              | (go_at_call 97; exact Calls.quiet_of_same (HCR.out _))))
            all_goals go_wp2_with fail
            all_goals go_ret
            all_goals exact ⟨by rw [HQ.out]; simp [hno, hz], below_q B.out nq⟩
          | false =>
            have hund : undef = Value.tuple #[] := rfl
            have c0 := XA.out.2 0
            have c3 := XA.out.2 3
            have c4 := XA.out.2 4
            first
              | (go_region_with
                   (first
                    | (go_at_call 54
                       refine (HCT.out _).mono ?_
                       rintro e w1 ⟨rfl, hw⟩
                       subst hw)
                    | (go_at_call 99
                       refine (specNote d _ ty _ HTY.out hsz).mono ?_
                       rintro e w1 ⟨he, hb⟩
                       rw [hno] at he
                       subst he
                       replace B := Lib.hid (below_thru B.out (Nat.le_refl _) hb)
                       replace HTY := Lib.hid (HTY.out.below hb)
                       replace XA := Lib.hid (XA.out.below hb)
                       clear hb
                       have c0 := XA.out.2 0
                       have c3 := XA.out.2 3
                       have c4 := XA.out.2 4)))
              | fail
            all_goals clear hund
            all_goals go_wp2_with fail
            all_goals go_ret
            all_goals exact ⟨by rw [HQ.out]; simp [hno], B.out⟩
        · have ez := toList_some (s := nm) (by omega)
          have c0 := XA.out.2 0
          have c1 := XA.out.2 1
          go_quiet ((first
            | (go_at_call 97; exact Calls.quiet_of_same (HCI.out _))
            | (go_at_call 51; exact Calls.quiet_of_same (HCN.out _))
            | (go_at_call 98; exact Calls.quiet_of_same (HCS.out _))))
          go_wp2_with fail
          go_ret
          exact ⟨by rw [HQ.out]; simp [hz], below_q B.out nq⟩
end Go.Proofs.YtdgfkmnnjhlpbaaDoor
/-
  Proved: spec.IsAction says whether an action is valid; it leaves the memory that was there as it was.
-/
namespace Go.Proofs.YtdgfkmnnjhlpbaaDoor
open Go.RowKit

set_option maxRecDepth 100000 in
set_option maxHeartbeats 4000000 in
theorem specActionFF (d : Nat) (v : Value) (t : Act) (w : World) (h : ActAt w d v t) (hn : t.bulk ≤ 1048576) (hN : actNamed t.kind = false) (hT : actTyped t.kind = false) :
    Calls Tryd.prog 49 #[v] w fun e w' => e = .returned (.bool t.okB) ∧ Below w.heap.size w w' := by
  cases t with
  | mk kd nm n ty =>
    obtain ⟨tk, ta, tn, tc, rfl, hk0, hk1, hn0, hn1, hnm, hty⟩ := h
    dsimp only at hk0 hk1 hn0 hn1 hnm hty hN hT ⊢
    have hsz : ty.size ≤ 1048577 := by have : (Act.mk kd nm n ty).bulk = nm.size + (ty.size - 1) := rfl; omega
    clear hn
    have HQ := Lib.hid (okB_of kd nm n ty)
    have HNL := Lib.hid (ty_isNil hty)
    have B : Hid (Below w.heap.size w (w.alloc (.cells #[.int .i64 kd, .string nm, .int .i64 n, .int .i64 tk, .slice ta tn tc] 33))) := below_alloc _ _
    have HTY := Lib.hid (hty.below B.out)
    have XA : Hid (BoxAt (w.alloc (.cells #[.int .i64 kd, .string nm, .int .i64 n, .int .i64 tk, .slice ta tn tc] 33)) w.heap.size #[.int .i64 kd, .string nm, .int .i64 n, .int .i64 tk, .slice ta tn tc]) := BoxAt.new _ _ _
    clear hty
    have CI : ∀ W, Calls Tryd.prog 97 #[.int .i64 kd, .int .i64 1, .int .i64 20] W fun e w' => e = .returned (.bool (decide (1 ≤ kd) && decide (kd ≤ 20))) ∧ w' = W := fun W => specIn kd 1 20 W
    have CN : ∀ W, Calls Tryd.prog 51 #[.int .i64 kd] W fun e w' => e = .returned (.bool (actNamed kd)) ∧ w' = W := fun W => specNamed kd W
    have CT : ∀ W, Calls Tryd.prog 54 #[.int .i64 kd] W fun e w' => e = .returned (.bool (actTyped kd)) ∧ w' = W := fun W => specTyped kd W
    have CM : ∀ W, Calls Tryd.prog 52 #[.int .i64 kd] W fun e w' => e = .returned (.int .i64 (actMost' kd)) ∧ w' = W := fun W => specMost kd W
    have CX : ∀ W, Calls Tryd.prog 100 #[.int .i64 0, .int .i64 (actMost' kd)] W fun e w' => e = .returned (.int .i64 (actMost kd)) ∧ w' = W := fun W => (specMax 0 (actMost' kd) W).mono (by rintro e w' ⟨rfl, h⟩; exact ⟨by rw [act_max], h⟩)
    have CR : ∀ W, Calls Tryd.prog 97 #[.int .i64 n, .int .i64 0, .int .i64 (actMost kd)] W fun e w' => e = .returned (.bool (decide (0 ≤ n) && decide (n ≤ actMost kd))) ∧ w' = W := fun W => specIn n 0 (actMost kd) W
    have CS : ∀ W, Calls Tryd.prog 98 #[.string nm] W fun e w' => e = .returned (.bool (nameB nm)) ∧ w' = W := fun W => specName nm W hnm
    generalize (decide (1 ≤ kd) && decide (kd ≤ 20)) = bi at HQ CI
    generalize actNamed kd = bn at HQ CN hN
    generalize nameB nm = bb at HQ CS
    generalize actTyped kd = bt at HQ CT hT
    generalize (decide (0 ≤ n) && decide (n ≤ actMost kd)) = br at HQ CR
    generalize actMost kd = mo at CX CR
    generalize actMost' kd = mo' at CX CM
    have HCI := Lib.hid CI
    have HCN := Lib.hid CN
    have HCT := Lib.hid CT
    have HCM := Lib.hid CM
    have HCX := Lib.hid CX
    have HCR := Lib.hid CR
    have HCS := Lib.hid CS
    subst hN
    subst hT
    clear CI CN CT CM CX CR CS
    go_enter Tryd.func49, Tryd.ntmps49
    go_wp2_with fail
    cases bi with
    | false =>
      have c0 := XA.out.2 0
      have c1 := XA.out.2 1
      go_quiet ((first
        | (go_at_call 97; exact Calls.quiet_of_same (HCI.out _))
        | (go_at_call 51; exact Calls.quiet_of_same (HCN.out _))
        | (go_at_call 98; exact Calls.quiet_of_same (HCS.out _))))
      go_wp2_with fail
      go_ret
      exact ⟨by rw [HQ.out]; rfl, below_q B.out nq⟩
    | true =>
      cases bb with
      | true =>
        have c0 := XA.out.2 0
        have c1 := XA.out.2 1
        go_quiet ((first
          | (go_at_call 97; exact Calls.quiet_of_same (HCI.out _))
          | (go_at_call 51; exact Calls.quiet_of_same (HCN.out _))
          | (go_at_call 98; exact Calls.quiet_of_same (HCS.out _))))
        go_wp2_with fail
        go_ret
        exact ⟨by rw [HQ.out]; rfl, below_q B.out nq⟩
      | false =>
        by_cases hz : nm.size = 0
        · have ez := text_none hz
          have c0 := XA.out.2 0
          have c1 := XA.out.2 1
          go_quiet ((first
            | (go_at_call 97; exact Calls.quiet_of_same (HCI.out _))
            | (go_at_call 51; exact Calls.quiet_of_same (HCN.out _))
            | (go_at_call 98; exact Calls.quiet_of_same (HCS.out _))))
          clear ez
          have hb : Below (w.alloc (.cells #[.int .i64 kd, .string nm, .int .i64 n, .int .i64 tk, .slice ta tn tc] 33)).heap.size (w.alloc (.cells #[.int .i64 kd, .string nm, .int .i64 n, .int .i64 tk, .slice ta tn tc] 33)) ((w.alloc (.cells #[.int .i64 kd, .string nm, .int .i64 n, .int .i64 tk, .slice ta tn tc] 33)).drewN nq) := below_q (Below.refl _ _) nq
          replace B := Lib.hid (below_thru B.out (Nat.le_refl _) hb)
          replace HTY := Lib.hid (HTY.out.below hb)
          replace XA := Lib.hid (XA.out.below hb)
          clear hb
          generalize (w.alloc (.cells #[.int .i64 kd, .string nm, .int .i64 n, .int .i64 tk, .slice ta tn tc] 33)).drewN nq = wq at B HTY XA ⊢
          clear c0 c1
          go_wp2_with fail
          have hb := below_drew wq
          replace B := Lib.hid (below_thru B.out (Nat.le_refl _) hb)
          replace HTY := Lib.hid (HTY.out.below hb)
          replace XA := Lib.hid (XA.out.below hb)
          clear hb
          cases hno : ty.note with
          | true =>
            have hund : undef = Value.tuple #[] := rfl
            have c0 := XA.out.2 0
            have c3 := XA.out.2 3
            have c4 := XA.out.2 4
            first
              | (go_region_with
                   (first
                    | (go_at_call 54
                       refine (HCT.out _).mono ?_
                       rintro e w1 ⟨rfl, hw⟩
                       subst hw)
                    | (go_at_call 99
                       refine (specNote d _ ty _ HTY.out hsz).mono ?_
                       rintro e w1 ⟨he, hb⟩
                       rw [hno] at he
                       subst he
                       replace B := Lib.hid (below_thru B.out (Nat.le_refl _) hb)
                       replace HTY := Lib.hid (HTY.out.below hb)
                       replace XA := Lib.hid (XA.out.below hb)
                       clear hb
                       have c0 := XA.out.2 0
                       have c3 := XA.out.2 3
                       have c4 := XA.out.2 4)))
              | fail
            all_goals clear hund
            all_goals go_wp2_with fail
            all_goals go_ret
            all_goals exact ⟨by rw [HQ.out]; simp [hno], B.out⟩
          | false =>
            by_cases qt : tk = 0
            · subst qt
              by_cases qs : tn = 0
              · subst qs
                have hil : ty.isNil = true := by rw [HNL.out]; rfl
                have hund : undef = Value.tuple #[] := rfl
                have c0 := XA.out.2 0
                have c3 := XA.out.2 3
                have c4 := XA.out.2 4
                first
                  | (go_region_with
                       (first
                        | (go_at_call 54
                           refine (HCT.out _).mono ?_
                           rintro e w1 ⟨rfl, hw⟩
                           subst hw)
                        | (go_at_call 99
                           refine (specNote d _ ty _ HTY.out hsz).mono ?_
                           rintro e w1 ⟨he, hb⟩
                           rw [hno] at he
                           subst he
                           replace B := Lib.hid (below_thru B.out (Nat.le_refl _) hb)
                           replace HTY := Lib.hid (HTY.out.below hb)
                           replace XA := Lib.hid (XA.out.below hb)
                           clear hb
                           have c0 := XA.out.2 0
                           have c3 := XA.out.2 3
                           have c4 := XA.out.2 4)))
                  | fail
                all_goals clear hund
                all_goals have c0 := XA.out.2 0
                all_goals have c2 := XA.out.2 2
                all_goals go_wp2_with fail
                all_goals go_quiet ((first
                  | (go_at_call 52; exact Calls.quiet_of_same (HCM.out _))
                  | (go_at_call 100; exact Calls.quiet_of_same (HCX.out _))
                  | (go_at_call 97; exact Calls.quiet_of_same (HCR.out _))))
                all_goals go_wp2_with fail
                all_goals go_ret
                all_goals exact ⟨by rw [HQ.out]; simp [hno, hil, hz], below_q B.out nq⟩
              · have hil : ty.isNil = false := by rw [HNL.out]; simp [qs]
                have q5 : decide ((0 : Int) < (tn : Int)) = true := decide_eq_true (by omega)
                have hund : undef = Value.tuple #[] := rfl
                have c0 := XA.out.2 0
                have c3 := XA.out.2 3
                have c4 := XA.out.2 4
                first
                  | (go_region_with
                       (first
                        | (go_at_call 54
                           refine (HCT.out _).mono ?_
                           rintro e w1 ⟨rfl, hw⟩
                           subst hw)
                        | (go_at_call 99
                           refine (specNote d _ ty _ HTY.out hsz).mono ?_
                           rintro e w1 ⟨he, hb⟩
                           rw [hno] at he
                           subst he
                           replace B := Lib.hid (below_thru B.out (Nat.le_refl _) hb)
                           replace HTY := Lib.hid (HTY.out.below hb)
                           replace XA := Lib.hid (XA.out.below hb)
                           clear hb
                           have c0 := XA.out.2 0
                           have c3 := XA.out.2 3
                           have c4 := XA.out.2 4)))
                  | fail
                all_goals clear hund
                all_goals go_wp2_with fail
                all_goals go_ret
                all_goals exact ⟨by rw [HQ.out]; simp [hil], B.out⟩
            · have hil : ty.isNil = false := by rw [HNL.out]; simp [qt]
              have q4 : (tk != 0) = true := by simp [qt]
              have hund : undef = Value.tuple #[] := rfl
              have c0 := XA.out.2 0
              have c3 := XA.out.2 3
              have c4 := XA.out.2 4
              first
                | (go_region_with
                     (first
                      | (go_at_call 54
                         refine (HCT.out _).mono ?_
                         rintro e w1 ⟨rfl, hw⟩
                         subst hw)
                      | (go_at_call 99
                         refine (specNote d _ ty _ HTY.out hsz).mono ?_
                         rintro e w1 ⟨he, hb⟩
                         rw [hno] at he
                         subst he
                         replace B := Lib.hid (below_thru B.out (Nat.le_refl _) hb)
                         replace HTY := Lib.hid (HTY.out.below hb)
                         replace XA := Lib.hid (XA.out.below hb)
                         clear hb
                         have c0 := XA.out.2 0
                         have c3 := XA.out.2 3
                         have c4 := XA.out.2 4)))
                | fail
              all_goals clear hund
              all_goals go_wp2_with fail
              all_goals go_ret
              all_goals exact ⟨by rw [HQ.out]; simp [hil], B.out⟩
        · have ez := toList_some (s := nm) (by omega)
          have c0 := XA.out.2 0
          have c1 := XA.out.2 1
          go_quiet ((first
            | (go_at_call 97; exact Calls.quiet_of_same (HCI.out _))
            | (go_at_call 51; exact Calls.quiet_of_same (HCN.out _))
            | (go_at_call 98; exact Calls.quiet_of_same (HCS.out _))))
          go_wp2_with fail
          go_ret
          exact ⟨by rw [HQ.out]; simp [hz], below_q B.out nq⟩
end Go.Proofs.YtdgfkmnnjhlpbaaDoor
/-
  Proved: spec.IsAction says whether an action is valid; it leaves the memory that was there as it was.
-/
namespace Go.Proofs.YtdgfkmnnjhlpbaaDoor
open Go.RowKit

theorem specAction (d : Nat) (v : Value) (t : Act) (w : World) (h : ActAt w d v t) (hn : t.bulk ≤ 1048576) :
    Calls Tryd.prog 49 #[v] w fun e w' => e = .returned (.bool t.okB) ∧ Below w.heap.size w w' := by
  cases hN : actNamed t.kind with
  | true => cases hT : actTyped t.kind with
    | true => exact specActionTT d v t w h hn hN hT
    | false => exact specActionTF d v t w h hn hN hT
  | false => cases hT : actTyped t.kind with
    | true => exact specActionFT d v t w h hn hN hT
    | false => exact specActionFF d v t w h hn hN hT
end Go.Proofs.YtdgfkmnnjhlpbaaDoor
/-
  Proved: impl.nodeOf says which of the five kinds a type's root has (nil if it has none of their forms), and leaves the memory that was there as it was.
-/
namespace Go.Proofs.YtdgfkmnnjhlpbaaDoor
open Go.RowKit

theorem below_drewN {B : Nat} {a w : World} (h : Below B a w) (n : Nat) : Below B a (w.drewN n) := ⟨h.os, h.tape, h.output, h.size, h.block⟩
/-- What nodeOf gives for a root of kind k with the parts ts. -/
def NodeAt (w : World) (d : Nat) (n : Value) (k : Int) (ts : List Ty) : Prop :=
  (kindOk k ts.length = false ∧ n = .nilIface) ∨
  (kindOk k ts.length = true ∧ ts = [] ∧ ((k = 1 ∧ n = .iface 137 (.agg #[])) ∨ (k = 2 ∧ n = .iface 138 (.agg #[])) ∨ (k = 3 ∧ n = .iface 139 (.agg #[])))) ∨
  (kindOk k ts.length = true ∧ ∃ t1 t2 k1 s1 k2 s2, ts = [t1, t2] ∧ TyAt w d (.agg #[.int .i64 k1, s1]) t1 ∧ TyAt w d (.agg #[.int .i64 k2, s2]) t2 ∧
    ((k = 4 ∧ n = .iface 141 (.agg #[.int .i64 k1, s1, .int .i64 k2, s2])) ∨ (k = 5 ∧ n = .iface 143 (.agg #[.int .i64 k1, s1, .int .i64 k2, s2]))))
def NodeEnd (w0 w : World) (d : Nat) (k : Int) (ts : List Ty) (e : Ending) (w' : World) : Prop :=
  ∃ n, e = .returned n ∧ NodeAt w0 d n k ts ∧ Below w.heap.size w w'
theorem node_bad {w0 w w' : World} {d : Nat} {k : Int} {ts : List Ty} (h : kindOk k ts.length = false) (hb : Below w.heap.size w w') : NodeEnd w0 w d k ts (.returned .nilIface) w' :=
  ⟨_, rfl, Or.inl ⟨h, rfl⟩, hb⟩
theorem two_of {d : Nat} {w : World} {ts : List Ty} {a : Option Addr} (hl : ts.length = 2)
    (hat : ∀ j (h : j < ts.length), ∃ b off c0 c1, a = some ⟨b, off, none⟩ ∧ b < w.heap.size ∧ w.cell? ⟨b, off + j * 2, none⟩ = some c0 ∧ w.cell? ⟨b, off + j * 2 + 1, none⟩ = some c1 ∧ TyAt w d (.agg #[c0, c1]) ts[j]) :
    ∃ t1 t2 k1 s1 n1 c1 k2 s2 n2 c2 b off, ts = [t1, t2] ∧ a = some ⟨b, off, none⟩ ∧ b < w.heap.size ∧ w.cell? ⟨b, off, none⟩ = some (.int .i64 k1) ∧ w.cell? ⟨b, off + 1, none⟩ = some (.slice s1 n1 c1) ∧ w.cell? ⟨b, off + 2, none⟩ = some (.int .i64 k2) ∧ w.cell? ⟨b, off + 3, none⟩ = some (.slice s2 n2 c2) ∧
      TyAt w d (.agg #[.int .i64 k1, .slice s1 n1 c1]) t1 ∧ TyAt w d (.agg #[.int .i64 k2, .slice s2 n2 c2]) t2 := by
  match ts, hl, hat with
  | [t1, t2], _, hat =>
    obtain ⟨b, off, x0, x1, rfl, hbl, h0, h1, ht1⟩ := hat 0 (by simp)
    obtain ⟨b', off', y0, y1, he, _, h2, h3, ht2⟩ := hat 1 (by simp)
    cases he
    obtain ⟨k1, s1, n1, c1, rfl, rfl⟩ := at_parts ht1
    obtain ⟨k2, s2, n2, c2, rfl, rfl⟩ := at_parts ht2
    exact ⟨t1, t2, k1, s1, n1, c1, k2, s2, n2, c2, b, off, rfl, rfl, hbl, by simpa using h0, by simpa using h1, by simpa using h2, by simpa [Nat.add_assoc] using h3, ht1, ht2⟩

set_option maxRecDepth 100000 in
set_option maxHeartbeats 2000000 in
theorem implNode (w0 : World) (d : Nat) (v : Value) (kd : Int) (ts : List Ty) (w : World) (h : TyAt w0 (d + 1) v (.node kd ts)) (hw : Below w0.heap.size w0 w) (hsz : ts.length ≤ 1152921504606846976) :
    Calls Tryd.prog 129 #[v] w (NodeEnd w0 w d kd ts) := by
  have HW := Lib.hid hw; clear hw
  obtain ⟨sl, rfl, hk0, hk1, a, cap, rfl, hcap, hcap2, hat⟩ := h
  have HAT := Lib.hid hat; clear hat
  obtain ⟨n, hn⟩ : ∃ n, n = ts.length := ⟨_, rfl⟩
  have HN := Lib.hid hn
  rw [← hn] at hcap hsz ⊢
  clear hn
  by_cases q1 : kd = 1
  · subst q1
    by_cases z : n = 0
    · subst z
      go_enter Tryd.func129, Tryd.ntmps129
      go_wp2_with fail
      go_ret
      have hts : ts = [] := List.eq_nil_of_length_eq_zero HN.out.symm
      exact ⟨_, rfl, Or.inr (Or.inl ⟨by rw [hts]; rfl, hts, Or.inl ⟨rfl, rfl⟩⟩), below_alloc _ _⟩
    · have z2 : ¬ ((n : Int) = 0) := by omega
      go_enter Tryd.func129, Tryd.ntmps129
      go_wp2_with fail
      go_ret
      exact node_bad (by rw [← HN.out]; simp [kindOk, z]) (below_alloc _ _)
  by_cases q2 : kd = 2
  · subst q2
    by_cases z : n = 0
    · subst z
      go_enter Tryd.func129, Tryd.ntmps129
      go_wp2_with fail
      go_ret
      have hts : ts = [] := List.eq_nil_of_length_eq_zero HN.out.symm
      exact ⟨_, rfl, Or.inr (Or.inl ⟨by rw [hts]; rfl, hts, Or.inr (Or.inl ⟨rfl, rfl⟩)⟩), below_alloc _ _⟩
    · have z2 : ¬ ((n : Int) = 0) := by omega
      go_enter Tryd.func129, Tryd.ntmps129
      go_wp2_with fail
      go_ret
      exact node_bad (by rw [← HN.out]; simp [kindOk, z]) (below_alloc _ _)
  by_cases q3 : kd = 3
  · subst q3
    by_cases z : n = 0
    · subst z
      go_enter Tryd.func129, Tryd.ntmps129
      go_wp2_with fail
      go_ret
      have hts : ts = [] := List.eq_nil_of_length_eq_zero HN.out.symm
      exact ⟨_, rfl, Or.inr (Or.inl ⟨by rw [hts]; rfl, hts, Or.inr (Or.inr ⟨rfl, rfl⟩)⟩), below_alloc _ _⟩
    · have z2 : ¬ ((n : Int) = 0) := by omega
      go_enter Tryd.func129, Tryd.ntmps129
      go_wp2_with fail
      go_ret
      exact node_bad (by rw [← HN.out]; simp [kindOk, z]) (below_alloc _ _)
  by_cases q4 : kd = 4
  · subst q4
    by_cases z : n = 2
    · subst z
      obtain ⟨t1, t2, k1, s1, n1, c1, k2, s2, n2, c2, b, off, hts, rfl, hbl0, g0, g1, g2, g3, ht1, ht2⟩ := two_of HN.out.symm HAT.out
      have HTS := Lib.hid hts
      have H1 := Lib.hid ht1
      have H2 := Lib.hid ht2
      clear hts ht1 ht2 HAT
      have hbl := Nat.lt_of_lt_of_le hbl0 HW.out.size
      have h0 := (HW.out.cell (p := ⟨b, off, none⟩) hbl0).trans g0
      have h1 := (HW.out.cell (p := ⟨b, off + 1, none⟩) hbl0).trans g1
      have h2 := (HW.out.cell (p := ⟨b, off + 2, none⟩) hbl0).trans g2
      have h3 := (HW.out.cell (p := ⟨b, off + 3, none⟩) hbl0).trans g3
      clear g0 g1 g2 g3
      have hb2 : ¬ (b = w.heap.size) := by omega
      go_enter Tryd.func129, Tryd.ntmps129
      go_wp2_with fail
      go_quiet (fail)
      go_wp2_with fail
      go_ret
      have X : ∀ nq, Below w.heap.size w ((w.alloc (.cells #[.int .i64 4, .slice (some ⟨b, off, none⟩) 2 cap] 31)).drewN nq) := fun nq => below_drewN (below_alloc _ _) nq
      exact ⟨_, rfl, Or.inr (Or.inr ⟨by rw [HTS.out]; rfl, t1, t2, k1, _, k2, _, HTS.out, H1.out, H2.out, Or.inl ⟨rfl, rfl⟩⟩), X _⟩
    · have z2 : ¬ ((n : Int) = 2) := by omega
      go_enter Tryd.func129, Tryd.ntmps129
      go_wp2_with fail
      go_ret
      exact node_bad (by rw [← HN.out]; simp [kindOk, z]) (below_alloc _ _)
  by_cases q5 : kd = 5
  · subst q5
    by_cases z : n = 2
    · subst z
      obtain ⟨t1, t2, k1, s1, n1, c1, k2, s2, n2, c2, b, off, hts, rfl, hbl0, g0, g1, g2, g3, ht1, ht2⟩ := two_of HN.out.symm HAT.out
      have HTS := Lib.hid hts
      have H1 := Lib.hid ht1
      have H2 := Lib.hid ht2
      clear hts ht1 ht2 HAT
      have hbl := Nat.lt_of_lt_of_le hbl0 HW.out.size
      have h0 := (HW.out.cell (p := ⟨b, off, none⟩) hbl0).trans g0
      have h1 := (HW.out.cell (p := ⟨b, off + 1, none⟩) hbl0).trans g1
      have h2 := (HW.out.cell (p := ⟨b, off + 2, none⟩) hbl0).trans g2
      have h3 := (HW.out.cell (p := ⟨b, off + 3, none⟩) hbl0).trans g3
      clear g0 g1 g2 g3
      have hb2 : ¬ (b = w.heap.size) := by omega
      go_enter Tryd.func129, Tryd.ntmps129
      go_wp2_with fail
      go_quiet (fail)
      go_wp2_with fail
      go_ret
      have X : ∀ nq, Below w.heap.size w ((w.alloc (.cells #[.int .i64 5, .slice (some ⟨b, off, none⟩) 2 cap] 31)).drewN nq) := fun nq => below_drewN (below_alloc _ _) nq
      exact ⟨_, rfl, Or.inr (Or.inr ⟨by rw [HTS.out]; rfl, t1, t2, k1, _, k2, _, HTS.out, H1.out, H2.out, Or.inr ⟨rfl, rfl⟩⟩), X _⟩
    · have z2 : ¬ ((n : Int) = 2) := by omega
      go_enter Tryd.func129, Tryd.ntmps129
      go_wp2_with fail
      go_ret
      exact node_bad (by rw [← HN.out]; simp [kindOk, z]) (below_alloc _ _)
  go_enter Tryd.func129, Tryd.ntmps129
  go_wp2_with fail
  go_ret
  exact node_bad (by rw [← HN.out]; simp [kindOk, q1, q2, q3, q4, q5]) (below_alloc _ _)
end Go.Proofs.YtdgfkmnnjhlpbaaDoor
/-
  Proved: plain facts on four cells that lie behind one another, and on kinds.
-/
namespace Go.Proofs.YtdgfkmnnjhlpbaaDoor
open Go.RowKit

/-- Four cells that lie behind one another. -/
def FourAt (w : World) (b off : Nat) (c0 c1 c2 c3 : Value) : Prop :=
  b < w.heap.size ∧ w.cell? ⟨b, off, none⟩ = some c0 ∧ w.cell? ⟨b, off + 1, none⟩ = some c1 ∧ w.cell? ⟨b, off + 2, none⟩ = some c2 ∧ w.cell? ⟨b, off + 3, none⟩ = some c3
theorem FourAt.below {w w' : World} {b off : Nat} {c0 c1 c2 c3 : Value} (h : FourAt w b off c0 c1 c2 c3) (hb : Below w.heap.size w w') : FourAt w' b off c0 c1 c2 c3 := by
  obtain ⟨hl, h0, h1, h2, h3⟩ := h
  exact ⟨Nat.lt_of_lt_of_le hl hb.size, (hb.cell (p := ⟨b, off, none⟩) hl).trans h0, (hb.cell (p := ⟨b, off + 1, none⟩) hl).trans h1, (hb.cell (p := ⟨b, off + 2, none⟩) hl).trans h2, (hb.cell (p := ⟨b, off + 3, none⟩) hl).trans h3⟩
theorem kind_cases {k : Int} {n : Nat} (h : kindOk k n = true) : (k = 1 ∧ n = 0) ∨ (k = 2 ∧ n = 0) ∨ (k = 3 ∧ n = 0) ∨ (k = 4 ∧ n = 2) ∨ (k = 5 ∧ n = 2) := by
  unfold kindOk at h
  split at h
  · have := of_decide_eq_true h; omega
  · split at h
    · have := of_decide_eq_true h; omega
    · cases h
theorem FourAt.stored {w : World} {b off q j : Nat} {u c0 c1 c2 c3 : Value} (h : FourAt w b off c0 c1 c2 c3) (hne : b ≠ q) : FourAt (w.setCell ⟨q, j, none⟩ u) b off c0 c1 c2 c3 := by
  obtain ⟨hl, h0, h1, h2, h3⟩ := h
  have e : (w.setCell ⟨q, j, none⟩ u).heap[b]? = w.heap[b]? := heap_setCell_other _ _ _ _ (by simpa using hne)
  refine ⟨by simpa using hl, ?_, ?_, ?_, ?_⟩
  · rw [World.cell?_of_block (a := ⟨b, off, none⟩) e]; exact h0
  · rw [World.cell?_of_block (a := ⟨b, off + 1, none⟩) e]; exact h1
  · rw [World.cell?_of_block (a := ⟨b, off + 2, none⟩) e]; exact h2
  · rw [World.cell?_of_block (a := ⟨b, off + 3, none⟩) e]; exact h3
theorem OwnIn.stored {w : World} {d : Nat} {v : Value} {t : Ty} {lo hi q j : Nat} {u : Value} (h : OwnIn w d v t lo hi) (hq : q < lo) : OwnIn (w.setCell ⟨q, j, none⟩ u) d v t lo hi := by
  obtain ⟨fp, h, hf, hz⟩ := h
  refine ⟨fp, h.kept (by simp) fun b hb => ?_, hf, by simpa using hz⟩
  have := (hf.2 b hb).1
  exact heap_setCell_other _ _ _ _ (by simp; omega)
end Go.Proofs.YtdgfkmnnjhlpbaaDoor
/-
  Proved: spec.l4Text gives the text of a type's tree; the memory that was there stays as it was.
-/
namespace Go.Proofs.YtdgfkmnnjhlpbaaDoor
open Go.RowKit

set_option maxRecDepth 100000 in
set_option maxHeartbeats 4000000 in
theorem specText : ∀ (d : Nat) (v : Value) (t : Ty) (w : World), TyAt w d v t → t.form = true → t.size ≤ 1048577 →
    Calls Tryd.prog 101 #[v] w fun e w' => e = .returned (.string t.text) ∧ Below w.heap.size w w'
  | 0, _, _, _, h, _, _ => h.elim
  | d + 1, v, .node kd ts, w, h, hfm, hsz => by
    have IH : Hid (∀ (v : Value) (t : Ty) (w : World), TyAt w d v t → t.form = true → t.size ≤ 1048577 → Calls Tryd.prog 101 #[v] w fun e w' => e = .returned (.string t.text) ∧ Below w.heap.size w w') := specText d
    obtain ⟨sl, rfl, hk0, hk1, a, cap, rfl, hcap, hcap2, hat⟩ := h
    have HAT := Lib.hid hat; clear hat
    have HF := Lib.hid hfm
    have HS := Lib.hid hsz
    have hko : kindOk kd ts.length = true := by simp only [Ty.form, Bool.and_eq_true] at hfm; exact hfm.2
    clear hfm hsz hcap hcap2 hk0 hk1
    obtain ⟨n, hn⟩ : ∃ n, n = ts.length := ⟨_, rfl⟩
    have HN := Lib.hid hn
    rw [← hn] at hko ⊢
    clear hn
    rcases kind_cases hko with ⟨z1, _⟩ | ⟨z1, _⟩ | ⟨z1, _⟩ | ⟨z1, z2⟩ | ⟨z1, z2⟩ <;> clear hko
    · subst z1
      have HFIN : Hid ((Ty.node 1 ts).text = ⟨#[63]⟩) := by show _ = _; simp [Ty.text, textOf]
      go_enter Tryd.func101, Tryd.ntmps101
      go_wp2_with fail
      go_ret
      exact ⟨by rw [HFIN.out]; rfl, below_alloc _ _⟩
    · subst z1
      have HFIN : Hid ((Ty.node 2 ts).text = ⟨#[78]⟩) := by show _ = _; simp [Ty.text, textOf]
      go_enter Tryd.func101, Tryd.ntmps101
      go_wp2_with fail
      go_ret
      exact ⟨by rw [HFIN.out]; rfl, below_alloc _ _⟩
    · subst z1
      have HFIN : Hid ((Ty.node 3 ts).text = ⟨#[66]⟩) := by show _ = _; simp [Ty.text, textOf]
      go_enter Tryd.func101, Tryd.ntmps101
      go_wp2_with fail
      go_ret
      exact ⟨by rw [HFIN.out]; rfl, below_alloc _ _⟩
    · subst z1
      subst z2
      obtain ⟨t1, t2, k1, s1, n1, c1, k2, s2, n2, c2, b, off, hts, rfl, hbl0, g0, g1, g2, g3, ht1, ht2⟩ := two_of HN.out.symm HAT.out
      subst hts
      have X0 : Hid (FourAt w b off (.int .i64 k1) (.slice s1 n1 c1) (.int .i64 k2) (.slice s2 n2 c2)) := ⟨hbl0, g0, g1, g2, g3⟩
      clear HAT HN hbl0 g0 g1 g2 g3
      have F1 := Lib.hid (form_two HF.out).1
      have F2 := Lib.hid (form_two HF.out).2
      have z1 := t1.text_size
      have z2 := t2.text_size
      have hs2 := HS.out
      simp only [Ty.size, Ty.sizes] at hs2
      have Z1 := Lib.hid (show t1.size ≤ 1048577 by omega)
      have Z2 := Lib.hid (show t2.size ≤ 1048577 by omega)
      have m1 : ¬ (9223372036854775807 < 1 + t1.text.size) := by omega
      have m2 : ¬ (9223372036854775807 < 1 + t1.text.size + 1) := by omega
      have m3 : ¬ (9223372036854775807 < 1 + t1.text.size + 1 + t2.text.size) := by omega
      have m4 : ¬ (9223372036854775807 < 1 + t1.text.size + 1 + t2.text.size + 1) := by omega
      clear hs2 z1 z2
      have B : Hid (Below w.heap.size w (w.alloc (.cells #[.int .i64 4, .slice (some ⟨b, off, none⟩) 2 cap] 31))) := below_alloc _ _
      have H1 := Lib.hid (ht1.below B.out)
      have H2 := Lib.hid (ht2.below B.out)
      have X4 := Lib.hid (X0.out.below B.out)
      have XN : Hid (BoxAt (w.alloc (.cells #[.int .i64 4, .slice (some ⟨b, off, none⟩) 2 cap] 31)) w.heap.size #[.int .i64 4, .slice (some ⟨b, off, none⟩) 2 cap]) := BoxAt.new _ _ _
      clear ht1 ht2 X0
      go_enter Tryd.func101, Tryd.ntmps101
      go_wp2_with fail
      have hb := below_drew (w.alloc (.cells #[.int .i64 4, .slice (some ⟨b, off, none⟩) 2 cap] 31))
      replace B := Lib.hid (below_thru B.out (Nat.le_refl _) hb)
      replace H1 := Lib.hid (H1.out.below hb)
      replace H2 := Lib.hid (H2.out.below hb)
      replace XN := Lib.hid (XN.out.below hb)
      replace X4 := Lib.hid (X4.out.below hb)
      clear hb
      go_region_held3 (fun w' => w'.cell? ⟨w.heap.size, 1, none⟩ = some (.slice (some ⟨b, off, none⟩) 2 cap) ∧ w'.cell? ⟨b, off, none⟩ = some (.int .i64 k1) ∧ w'.cell? ⟨b, off + 1, none⟩ = some (.slice s1 n1 c1) ∧ w'.cell? ⟨b, off + 2, none⟩ = some (.int .i64 k2) ∧ w'.cell? ⟨b, off + 3, none⟩ = some (.slice s2 n2 c2)) (exact ⟨XN.out.2 1, X4.out.2.1, X4.out.2.2.1, X4.out.2.2.2.1, X4.out.2.2.2.2⟩)
        (first
         | (go_at_call_of 101 (Value.agg #[Value.int IntKind.i64 k1, Value.slice s1 n1 c1])
            refine (IH.out _ t1 _ H1.out F1.out Z1.out).mono ?_
            rintro e w1 ⟨rfl, hb⟩
            replace B := Lib.hid (below_thru B.out (Nat.le_refl _) hb)
            replace H1 := Lib.hid (H1.out.below hb)
            replace H2 := Lib.hid (H2.out.below hb)
            replace XN := Lib.hid (XN.out.below hb)
            replace X4 := Lib.hid (X4.out.below hb)
            clear hb)
         | (go_at_call_of 101 (Value.agg #[Value.int IntKind.i64 k2, Value.slice s2 n2 c2])
            refine (IH.out _ t2 _ H2.out F2.out Z2.out).mono ?_
            rintro e w2 ⟨rfl, hb⟩
            replace B := Lib.hid (below_thru B.out (Nat.le_refl _) hb)
            replace H1 := Lib.hid (H1.out.below hb)
            replace H2 := Lib.hid (H2.out.below hb)
            replace XN := Lib.hid (XN.out.below hb)
            replace X4 := Lib.hid (X4.out.below hb)
            clear hb))
      go_wp2_with fail
      go_ret
      exact ⟨by rw [Ty.text_arrow]; rfl, B.out⟩
    · subst z1
      subst z2
      obtain ⟨t1, t2, k1, s1, n1, c1, k2, s2, n2, c2, b, off, hts, rfl, hbl0, g0, g1, g2, g3, ht1, ht2⟩ := two_of HN.out.symm HAT.out
      subst hts
      have X0 : Hid (FourAt w b off (.int .i64 k1) (.slice s1 n1 c1) (.int .i64 k2) (.slice s2 n2 c2)) := ⟨hbl0, g0, g1, g2, g3⟩
      clear HAT HN hbl0 g0 g1 g2 g3
      have F1 := Lib.hid (form_two HF.out).1
      have F2 := Lib.hid (form_two HF.out).2
      have z1 := t1.text_size
      have z2 := t2.text_size
      have hs2 := HS.out
      simp only [Ty.size, Ty.sizes] at hs2
      have Z1 := Lib.hid (show t1.size ≤ 1048577 by omega)
      have Z2 := Lib.hid (show t2.size ≤ 1048577 by omega)
      have m1 : ¬ (9223372036854775807 < 1 + t1.text.size) := by omega
      have m2 : ¬ (9223372036854775807 < 1 + t1.text.size + 1) := by omega
      have m3 : ¬ (9223372036854775807 < 1 + t1.text.size + 1 + t2.text.size) := by omega
      have m4 : ¬ (9223372036854775807 < 1 + t1.text.size + 1 + t2.text.size + 1) := by omega
      clear hs2 z1 z2
      have B : Hid (Below w.heap.size w (w.alloc (.cells #[.int .i64 5, .slice (some ⟨b, off, none⟩) 2 cap] 31))) := below_alloc _ _
      have H1 := Lib.hid (ht1.below B.out)
      have H2 := Lib.hid (ht2.below B.out)
      have X4 := Lib.hid (X0.out.below B.out)
      have XN : Hid (BoxAt (w.alloc (.cells #[.int .i64 5, .slice (some ⟨b, off, none⟩) 2 cap] 31)) w.heap.size #[.int .i64 5, .slice (some ⟨b, off, none⟩) 2 cap]) := BoxAt.new _ _ _
      clear ht1 ht2 X0
      go_enter Tryd.func101, Tryd.ntmps101
      go_wp2_with fail
      have hb := below_drew (w.alloc (.cells #[.int .i64 5, .slice (some ⟨b, off, none⟩) 2 cap] 31))
      replace B := Lib.hid (below_thru B.out (Nat.le_refl _) hb)
      replace H1 := Lib.hid (H1.out.below hb)
      replace H2 := Lib.hid (H2.out.below hb)
      replace XN := Lib.hid (XN.out.below hb)
      replace X4 := Lib.hid (X4.out.below hb)
      clear hb
      go_region_held3 (fun w' => w'.cell? ⟨w.heap.size, 1, none⟩ = some (.slice (some ⟨b, off, none⟩) 2 cap) ∧ w'.cell? ⟨b, off, none⟩ = some (.int .i64 k1) ∧ w'.cell? ⟨b, off + 1, none⟩ = some (.slice s1 n1 c1) ∧ w'.cell? ⟨b, off + 2, none⟩ = some (.int .i64 k2) ∧ w'.cell? ⟨b, off + 3, none⟩ = some (.slice s2 n2 c2)) (exact ⟨XN.out.2 1, X4.out.2.1, X4.out.2.2.1, X4.out.2.2.2.1, X4.out.2.2.2.2⟩)
        (first
         | (go_at_call_of 101 (Value.agg #[Value.int IntKind.i64 k1, Value.slice s1 n1 c1])
            refine (IH.out _ t1 _ H1.out F1.out Z1.out).mono ?_
            rintro e w1 ⟨rfl, hb⟩
            replace B := Lib.hid (below_thru B.out (Nat.le_refl _) hb)
            replace H1 := Lib.hid (H1.out.below hb)
            replace H2 := Lib.hid (H2.out.below hb)
            replace XN := Lib.hid (XN.out.below hb)
            replace X4 := Lib.hid (X4.out.below hb)
            clear hb)
         | (go_at_call_of 101 (Value.agg #[Value.int IntKind.i64 k2, Value.slice s2 n2 c2])
            refine (IH.out _ t2 _ H2.out F2.out Z2.out).mono ?_
            rintro e w2 ⟨rfl, hb⟩
            replace B := Lib.hid (below_thru B.out (Nat.le_refl _) hb)
            replace H1 := Lib.hid (H1.out.below hb)
            replace H2 := Lib.hid (H2.out.below hb)
            replace XN := Lib.hid (XN.out.below hb)
            replace X4 := Lib.hid (X4.out.below hb)
            clear hb))
      go_wp2_with fail
      go_ret
      exact ⟨by rw [Ty.text_pair]; rfl, B.out⟩
end Go.Proofs.YtdgfkmnnjhlpbaaDoor
/-
  Proved: spec.FormatType gives the text of a valid type, the empty text for others; the memory that was there stays as it was.
-/
namespace Go.Proofs.YtdgfkmnnjhlpbaaDoor
open Go.RowKit

set_option maxRecDepth 100000 in
set_option maxHeartbeats 1000000 in
theorem specFormatType (d : Nat) (v : Value) (t : Ty) (w : World) (h : TyAt w d v t) (hsz : t.size ≤ 1048577) :
    Calls Tryd.prog 55 #[v] w fun e w' => e = .returned (.string (formatText t)) ∧ Below w.heap.size w w' := by
  have HT := Lib.hid h
  obtain ⟨yk, ya, yn, yc, rfl⟩ := agg_parts h
  clear h
  have B : Hid (Below w.heap.size w (w.alloc (.cells #[.int .i64 yk, .slice ya yn yc] 31))) := below_alloc _ _
  have HA := Lib.hid (HT.out.below B.out)
  have XA : Hid (BoxAt (w.alloc (.cells #[.int .i64 yk, .slice ya yn yc] 31)) w.heap.size #[.int .i64 yk, .slice ya yn yc]) := BoxAt.new _ _ _
  clear HT
  go_enter Tryd.func55, Tryd.ntmps55
  go_wp2_with fail
  refine (specValid d _ t _ HA.out hsz).mono ?_
  rintro e w1 ⟨rfl, hb⟩
  replace B := Lib.hid (below_thru B.out (Nat.le_refl _) hb)
  replace HA := Lib.hid (HA.out.below hb)
  replace XA := Lib.hid (XA.out.below hb)
  clear hb
  cases hv : t.valid with
  | false =>
    have HV := Lib.hid hv; clear hv
    go_wp2_with fail
    go_ret
    exact ⟨by rw [format_bad HV.out]; rfl, B.out⟩
  | true =>
    have HV := Lib.hid hv
    have hfm : t.form = true := by simp only [Ty.valid, Bool.and_eq_true] at hv; exact hv.2
    clear hv
    have a0 := XA.out.2 0
    have a1 := XA.out.2 1
    go_wp2_with fail
    refine (specText d _ t _ HA.out hfm hsz).mono ?_
    rintro e w2 ⟨rfl, hb⟩
    have B2 := Lib.hid (below_thru B.out (Nat.le_refl _) hb)
    clear hb hfm
    go_wp2_with fail
    go_ret
    exact ⟨by rw [format_good HV.out]; rfl, B2.out⟩
end Go.Proofs.YtdgfkmnnjhlpbaaDoor
/-
  Proved: spec.FormatAction gives the text of a valid action, the empty text for others; the memory that was there stays as it was.
-/
namespace Go.Proofs.YtdgfkmnnjhlpbaaDoor
open Go.RowKit

theorem most_pos (kn : Int) : (0 < (if kn = 2 ∨ kn = 18 ∨ kn = 7 ∨ kn = 8 then actMost kn else -1)) ↔ 0 < actMost kn := by
  by_cases h : kn = 2 ∨ kn = 18 ∨ kn = 7 ∨ kn = 8
  · rw [if_pos h]
  · rw [if_neg h]
    have h2 : actMost kn = 0 := by
      unfold actMost
      rw [if_neg (by omega), if_neg (by omega), if_neg (by omega)]
    omega
set_option maxRecDepth 100000 in
theorem specWords (w : World) : Calls Tryd.prog 50 #[] w fun e w' => ∃ b, e = .returned (.slice (some ⟨b, 0, none⟩) 20 20) ∧ (∀ k : Nat, k < 20 → w'.cell? ⟨b, k, none⟩ = some (.string (actWord (k + 1)))) ∧ Below w.heap.size w w' := by
  go_enter Tryd.func50, Tryd.ntmps50
  go_wp2_with fail
  go_ret
  refine ⟨w.heap.size, rfl, fun k h1 => ?_, below_alloc _ _⟩
  have hx := (BoxAt.new w (actWords.map Value.string).toArray 9).2 k
  refine Eq.trans hx ?_
  have hk : k < actWords.length := by simpa using h1
  rw [List.getElem?_toArray, List.getElem?_map, List.getElem?_eq_getElem hk]
  unfold actWord
  rw [Nat.add_sub_cancel, List.getD_eq_getElem?_getD, List.getElem?_eq_getElem hk]
  rfl
set_option maxRecDepth 100000 in
set_option maxHeartbeats 4000000 in
theorem specActText (d : Nat) (v : Value) (t : Act) (w : World) (h : ActAt w d v t) (hn : t.bulk ≤ 1048576) :
    Calls Tryd.prog 12 #[v] w fun e w' => e = .returned (.string t.text) ∧ Below w.heap.size w w' := by
  cases t with
  | mk kd nm n ty =>
    have HIN := Lib.hid h
    have HBK := Lib.hid hn
    obtain ⟨tk, ta, tn, tc, rfl, hk0, hk1, hn0, hn1, hnm, hty⟩ := h
    dsimp only at hk0 hk1 hn0 hn1 hnm hty ⊢
    have hbk : (Act.mk kd nm n ty).bulk = nm.size + (ty.size - 1) := rfl
    have hsz : ty.size ≤ 1048577 := by omega
    have hns : nm.size ≤ 1048576 := by omega
    clear hn hbk
    have B : Hid (Below w.heap.size w (w.alloc (.cells #[.int .i64 kd, .string nm, .int .i64 n, .int .i64 tk, .slice ta tn tc] 33))) := below_alloc _ _
    have HA := Lib.hid (HIN.out.below B.out)
    have HTY := Lib.hid (hty.below B.out)
    have XA : Hid (BoxAt (w.alloc (.cells #[.int .i64 kd, .string nm, .int .i64 n, .int .i64 tk, .slice ta tn tc] 33)) w.heap.size #[.int .i64 kd, .string nm, .int .i64 n, .int .i64 tk, .slice ta tn tc]) := BoxAt.new _ _ _
    clear hty HIN
    go_enter Tryd.func12, Tryd.ntmps12
    go_wp2_with fail
    refine (specAction d _ (Act.mk kd nm n ty) _ HA.out HBK.out).mono ?_
    rintro e w1 ⟨rfl, hb⟩
    replace B := Lib.hid (below_thru B.out (Nat.le_refl _) hb)
    replace HA := Lib.hid (HA.out.below hb)
    replace HTY := Lib.hid (HTY.out.below hb)
    replace XA := Lib.hid (XA.out.below hb)
    clear hb
    cases hv : (Act.mk kd nm n ty).okB with
    | false =>
      have HV := Lib.hid (act_bad hv); clear hv
      go_wp2_with fail
      go_ret
      exact ⟨by rw [HV.out]; rfl, B.out⟩
    | true =>
      have hrg := act_range hv
      have HV := Lib.hid (act_good hv); clear hv
      dsimp only at hrg
      obtain ⟨j, rfl⟩ : ∃ j : Nat, kd = (j : Int) + 1 := ⟨(kd - 1).toNat, by omega⟩
      have hr2 : j < 20 := by omega
      have hr3 : (0 : Int) ≤ (j : Int) := by omega
      have hr4 : (j : Int) < 20 := by omega
      have hwr : IntKind.i64.wrap (j : Int) = (j : Int) := IntWalk.i64_in _ (by omega)
      clear hrg
      have hws := actWord_size (j + 1)
      have hts := formatText_size ty
      have hfs : (ByteArray.mk (Lib.itoa n).toArray).size ≤ 21 := itoa_size n hn0 hn1
      have CN : ∀ W, Calls Tryd.prog 51 #[.int .i64 ((j : Int) + 1)] W fun e w' => e = .returned (.bool (actNamed ((j : Int) + 1))) ∧ w' = W := fun W => specNamed ((j : Int) + 1) W
      have CT : ∀ W, Calls Tryd.prog 54 #[.int .i64 ((j : Int) + 1)] W fun e w' => e = .returned (.bool (actTyped ((j : Int) + 1))) ∧ w' = W := fun W => specTyped ((j : Int) + 1) W
      have CM : ∀ W, Calls Tryd.prog 52 #[.int .i64 ((j : Int) + 1)] W fun e w' => e = .returned (.int .i64 (if ((j : Int) + 1) = 2 ∨ ((j : Int) + 1) = 18 ∨ ((j : Int) + 1) = 7 ∨ ((j : Int) + 1) = 8 then actMost ((j : Int) + 1) else -1)) ∧ w' = W := fun W => specMost ((j : Int) + 1) W
      have CI : ∀ W, Calls Tryd.prog 53 #[.int .i64 n] W fun e w' => e = .returned (.string ⟨(Lib.itoa n).toArray⟩) ∧ Below W.heap.size W w' := fun W => specFormat n hn0 hn1 W
      have CF : ∀ (W : World) (v : Value) (_ : TyAt W d v ty), Calls Tryd.prog 55 #[v] W fun e w' => e = .returned (.string (formatText ty)) ∧ Below W.heap.size W w' := fun W v h => specFormatType d v ty W h hsz
      have hmo : (0 < (if ((j : Int) + 1) = 2 ∨ ((j : Int) + 1) = 18 ∨ ((j : Int) + 1) = 7 ∨ ((j : Int) + 1) = 8 then actMost ((j : Int) + 1) else -1)) ↔ 0 < actMost ((j : Int) + 1) := most_pos ((j : Int) + 1)
      have HVV : Hid ((Act.mk ((j : Int) + 1) nm n ty).text = actSay (actWord (j + 1)) nm ⟨(Lib.itoa n).toArray⟩ (formatText ty) (actNamed ((j : Int) + 1)) (decide (0 < actMost ((j : Int) + 1))) (actTyped ((j : Int) + 1))) := by have h : (Act.mk ((j : Int) + 1) nm n ty).text = actSay (actWord (((j : Int) + 1)).toNat) nm ⟨(Lib.itoa n).toArray⟩ (formatText ty) (actNamed ((j : Int) + 1)) (decide (0 < actMost ((j : Int) + 1))) (actTyped ((j : Int) + 1)) := HV.out; rw [show (((j : Int) + 1)).toNat = j + 1 by omega] at h; exact h
      clear HV
      generalize hmq : (if ((j : Int) + 1) = 2 ∨ ((j : Int) + 1) = 18 ∨ ((j : Int) + 1) = 7 ∨ ((j : Int) + 1) = 8 then actMost ((j : Int) + 1) else -1) = mo at CM hmo
      clear hmq
      generalize hmb : decide (0 < actMost ((j : Int) + 1)) = bm at HVV
      have hmo2 : decide (0 < mo) = bm := by rw [← hmb]; exact decide_eq_decide.2 hmo
      clear hmo hmb
      generalize actNamed ((j : Int) + 1) = bn at HVV CN
      generalize actTyped ((j : Int) + 1) = bt at HVV CT
      generalize (ByteArray.mk (Lib.itoa n).toArray) = fs at HVV CI hfs
      generalize formatText ty = ts at HVV CF hts
      have HCN := Lib.hid CN
      have HCT := Lib.hid CT
      have HCM := Lib.hid CM
      have HCI := Lib.hid CI
      have HCF := Lib.hid CF
      clear CN CT CM CI CF
      have hmq2 : Hid (decide (0 < mo) = bm) := hmo2
      clear hmo2
      have c0 := XA.out.2 0
      have c1 := XA.out.2 1
      have c2 := XA.out.2 2
      have c3 := XA.out.2 3
      have c4 := XA.out.2 4
      go_wp2_with fail
      have hbd := below_drew w1
      replace B := Lib.hid (below_thru B.out (Nat.le_refl _) hbd)
      replace HTY := Lib.hid (HTY.out.below hbd)
      replace XA := Lib.hid (XA.out.below hbd)
      clear hbd c0 c1 c2 c3 c4
      have c0 := XA.out.2 0
      go_region_law (first
        | (go_simp
           go_at_call 50
           refine (specWords _).mono ?_
           rintro e w2 ⟨bw, rfl, hwc, hb⟩
           have cw := hwc j hr2
           have B2 := Lib.hid (below_thru B.out (Nat.le_refl _) hb)
           have HTY2 := Lib.hid (HTY.out.below hb)
           have XA2 := Lib.hid (XA.out.below hb)
           have c0' := XA2.out.2 0
           clear hb hwc))
      all_goals
        replace B := B2
        replace HTY := HTY2
        replace XA := XA2
        clear c0 c0'
        generalize actWord (j + 1) = wd at *
        have c0 := XA.out.2 0
        have c1 := XA.out.2 1
        have c2 := XA.out.2 2
        have c3 := XA.out.2 3
        have c4 := XA.out.2 4
        have s0 : ¬ (9223372036854775807 < wd.size + 1) := by omega
        have s1 : ¬ (9223372036854775807 < wd.size + 1 + nm.size) := by omega
        have s2 : ¬ (9223372036854775807 < wd.size + 1 + fs.size) := by omega
        have s3 : ¬ (9223372036854775807 < wd.size + 1 + nm.size + 1) := by omega
        have s4 : ¬ (9223372036854775807 < wd.size + 1 + nm.size + 1 + fs.size) := by omega
        have s5 : ¬ (9223372036854775807 < wd.size + 1 + ts.size) := by omega
        have s6 : ¬ (9223372036854775807 < wd.size + 1 + nm.size + 1 + ts.size) := by omega
        have s7 : ¬ (9223372036854775807 < wd.size + 1 + fs.size + 1) := by omega
        have s8 : ¬ (9223372036854775807 < wd.size + 1 + fs.size + 1 + ts.size) := by omega
        have s9 : ¬ (9223372036854775807 < wd.size + 1 + nm.size + 1 + fs.size + 1) := by omega
        have s10 : ¬ (9223372036854775807 < wd.size + 1 + nm.size + 1 + fs.size + 1 + ts.size) := by omega
        clear hws hts hfs hns hsz
        go_wp2_with fail
        refine (HCN.out _).mono ?_
        rintro e w' ⟨rfl, rfl⟩
        cases bn with
        | false =>
          go_wp2_with fail
          refine (HCM.out _).mono ?_
          rintro e w' ⟨rfl, rfl⟩
          have hmd := hmq2.out
          cases bm with
          | false =>
            go_wp2_with fail
            refine (HCT.out _).mono ?_
            rintro e w' ⟨rfl, rfl⟩
            cases bt with
            | false =>
              go_wp2_with fail
              go_ret
              exact ⟨by rw [HVV.out, actSay_eq]; rfl, B.out⟩
            | true =>
              go_wp2_with fail
              refine (HCF.out _ _ HTY.out).mono ?_
              rintro e w5 ⟨rfl, hb⟩
              replace B := Lib.hid (below_thru B.out (Nat.le_refl _) hb)
              replace XA := Lib.hid (XA.out.below hb)
              clear hb
              go_wp2_with fail
              go_ret
              exact ⟨by rw [HVV.out, actSay_eq]; rfl, B.out⟩
          | true =>
            go_wp2_with fail
            refine (HCI.out _).mono ?_
            clear c0 c1 c2 c3 c4
            rintro e w4 ⟨rfl, hb⟩
            replace B := Lib.hid (below_thru B.out (Nat.le_refl _) hb)
            replace HTY := Lib.hid (HTY.out.below hb)
            replace XA := Lib.hid (XA.out.below hb)
            clear hb
            have c0 := XA.out.2 0
            have c1 := XA.out.2 1
            have c2 := XA.out.2 2
            have c3 := XA.out.2 3
            have c4 := XA.out.2 4
            go_wp2_with fail
            refine (HCT.out _).mono ?_
            rintro e w' ⟨rfl, rfl⟩
            cases bt with
            | false =>
              go_wp2_with fail
              go_ret
              exact ⟨by rw [HVV.out, actSay_eq]; rfl, B.out⟩
            | true =>
              go_wp2_with fail
              refine (HCF.out _ _ HTY.out).mono ?_
              rintro e w5 ⟨rfl, hb⟩
              replace B := Lib.hid (below_thru B.out (Nat.le_refl _) hb)
              replace XA := Lib.hid (XA.out.below hb)
              clear hb
              go_wp2_with fail
              go_ret
              exact ⟨by rw [HVV.out, actSay_eq]; rfl, B.out⟩
        | true =>
          go_wp2_with fail
          refine (HCM.out _).mono ?_
          rintro e w' ⟨rfl, rfl⟩
          have hmd := hmq2.out
          cases bm with
          | false =>
            go_wp2_with fail
            refine (HCT.out _).mono ?_
            rintro e w' ⟨rfl, rfl⟩
            cases bt with
            | false =>
              go_wp2_with fail
              go_ret
              exact ⟨by rw [HVV.out, actSay_eq]; rfl, B.out⟩
            | true =>
              go_wp2_with fail
              refine (HCF.out _ _ HTY.out).mono ?_
              rintro e w5 ⟨rfl, hb⟩
              replace B := Lib.hid (below_thru B.out (Nat.le_refl _) hb)
              replace XA := Lib.hid (XA.out.below hb)
              clear hb
              go_wp2_with fail
              go_ret
              exact ⟨by rw [HVV.out, actSay_eq]; rfl, B.out⟩
          | true =>
            go_wp2_with fail
            refine (HCI.out _).mono ?_
            clear c0 c1 c2 c3 c4
            rintro e w4 ⟨rfl, hb⟩
            replace B := Lib.hid (below_thru B.out (Nat.le_refl _) hb)
            replace HTY := Lib.hid (HTY.out.below hb)
            replace XA := Lib.hid (XA.out.below hb)
            clear hb
            have c0 := XA.out.2 0
            have c1 := XA.out.2 1
            have c2 := XA.out.2 2
            have c3 := XA.out.2 3
            have c4 := XA.out.2 4
            go_wp2_with fail
            refine (HCT.out _).mono ?_
            rintro e w' ⟨rfl, rfl⟩
            cases bt with
            | false =>
              go_wp2_with fail
              go_ret
              exact ⟨by rw [HVV.out, actSay_eq]; rfl, B.out⟩
            | true =>
              go_wp2_with fail
              refine (HCF.out _ _ HTY.out).mono ?_
              rintro e w5 ⟨rfl, hb⟩
              replace B := Lib.hid (below_thru B.out (Nat.le_refl _) hb)
              replace XA := Lib.hid (XA.out.below hb)
              clear hb
              go_wp2_with fail
              go_ret
              exact ⟨by rw [HVV.out, actSay_eq]; rfl, B.out⟩
end Go.Proofs.YtdgfkmnnjhlpbaaDoor
/-
  Proved: spec.FormatActions gives the texts of the actions with semicolons between them; the memory that was there stays as it was.
-/
namespace Go.Proofs.YtdgfkmnnjhlpbaaDoor
open Go.RowKit

set_option maxRecDepth 100000 in
set_option maxHeartbeats 4000000 in
theorem specActsText (d : Nat) (v : Value) (l : List Act) (w : World) (h : ActsAt w d v l) (hsz : Act.bulks l ≤ 1048576) :
    Calls Tryd.prog 17 #[v] w fun e w' => e = .returned (.string (actsText l)) ∧ Below w.heap.size w w' := by
  obtain ⟨i0, hi, hz0, hz1, hz2⟩ := info_parts info_str
  have HI := Lib.hid hi; clear hi
  have HZ0 := Lib.hid hz0; clear hz0
  have HZ1 := Lib.hid hz1; clear hz1
  have HZ2 := Lib.hid hz2; clear hz2
  have HRG := Lib.hid (acts_ranged h)
  have HSZ := Lib.hid hsz
  have hlen : l.length ≤ 1048576 := by have := Act.length_le l; omega
  obtain ⟨a, cap, rfl, hcap, hcap2, hat⟩ := h
  have HAT := Lib.hid hat; clear hat hsz
  have HTL : Hid ((actTexts l).length = l.length) := actTexts_length l
  have HTOT : Hid (total (actTexts l) ≤ 65011712) := by show _ ≤ _; have h1 := actTexts_size l HRG.out; have h2 := HSZ.out; omega
  go_enter Tryd.func17, Tryd.ntmps17
  go_wp2_with fail
  go_loopw [3, 4] (fun v i wr => ∃ k : Nat, k ≤ l.length ∧ i = .int .i64 k ∧ wr.ownsRow w.heap.size 9 1 v k ((actTexts (l.take k)).map Value.string) ∧ Below w.heap.size w wr) (fun _ i _ => l.length - (intOf i).toNat)
  case atStart => exact ⟨0, by omega, rfl, by simpa [actTexts] using World.ownsRow_made w #[] 0 (Nat.le_refl _) (Nat.zero_le _) rfl, (Below.refl _ _).alloc (Nat.le_refl _) _⟩
  case round =>
    obtain ⟨k, hk, rfl, hown, hb⟩ := hrel
    have HO2 := Lib.hid hown; clear hown
    have HB2 := Lib.hid hb; clear hb
    by_cases hlt : k < l.length
    · obtain ⟨b, off, x0, x1, x2, x3, x4, rfl, hbl, hc0, hc1, hc2, hc3, hc4, ht⟩ := HAT.out k hlt
      have hg := Act.bulk_get l k hlt
      have hxb : l[k].bulk ≤ 1048576 := by have := HSZ.out; omega
      obtain ⟨yk, ynm, yn, ytk, yta, ytn, ytc, hv⟩ := act_parts ht
      injection hv with hv
      injection hv with hv
      simp only [List.cons.injEq, and_true] at hv
      obtain ⟨rfl, rfl, rfl, rfl, rfl⟩ := hv
      have HTE := Lib.hid (ht.below HB2.out)
      have e0 : wr.cell? ⟨b, off + k * 5, none⟩ = some (.int .i64 yk) := (HB2.out.cell (p := ⟨b, off + k * 5, none⟩) hbl).trans hc0
      have e1 : wr.cell? ⟨b, off + k * 5 + 1, none⟩ = some (.string ynm) := (HB2.out.cell (p := ⟨b, off + k * 5 + 1, none⟩) hbl).trans hc1
      have e2 : wr.cell? ⟨b, off + k * 5 + 2, none⟩ = some (.int .i64 yn) := (HB2.out.cell (p := ⟨b, off + k * 5 + 2, none⟩) hbl).trans hc2
      have e3 : wr.cell? ⟨b, off + k * 5 + 3, none⟩ = some (.int .i64 ytk) := (HB2.out.cell (p := ⟨b, off + k * 5 + 3, none⟩) hbl).trans hc3
      have e4 : wr.cell? ⟨b, off + k * 5 + 4, none⟩ = some (.slice yta ytn ytc) := (HB2.out.cell (p := ⟨b, off + k * 5 + 4, none⟩) hbl).trans hc4
      clear ht hc0 hc1 hc2 hc3 hc4 hg
      go_wp2_with fail
      refine (specActText d _ l[k] _ HTE.out hxb).mono ?_
      rintro e w1 ⟨rfl, hb1⟩
      have HO1 := Lib.hid (own_below HO2.out hb1)
      have HB1 := Lib.hid (below_thru HB2.out (Nat.le_refl _) hb1)
      clear hb1 HO2 e0 e1 e2 e3 e4
      have hzw : w.heap.size ≤ w1.heap.size := HB1.out.size
      go_wp2_with (at_builtin; go_must (refine wpList_append_own_at _ rfl _ _ 80 rfl w.heap.size 9 i0 (.string ⟨#[]⟩) 1 16 Tryd.underlying80 HI.out HZ0.out HZ1.out HZ2.out rfl (by decide) _ _ _ rfl (HO1.out.alloc _) ⟨w1.heap.size, 0, none⟩ 1 1 [.string l[k].text] rfl rfl (new_one _ _ _) (by simp [Value.oneCell']) (by unfold maxLen; omega) (by omega) (by simp; omega) ?_); intro v2 w2 hown2 hg2 _ hblk2; refine Hid.out ?_)
      refine Lib.hid ?_
      have hb2 := (HB1.out.alloc hzw _).grown hg2 (by simp; omega) (fun k hk => (HO1.out.lt k hk).1)
      have hown3 : w2.ownsRow w.heap.size 9 1 v2 (k + 1) ((actTexts (l.take (k + 1))).map Value.string) := by
        rw [actTexts_take l k hlt, List.map_append]; exact hown2
      have HO2 := Lib.hid hown3; clear hown3 hown2 hg2 hblk2
      have HB3 := Lib.hid hb2; clear hb2
      go_wp2_with fail
      exact ⟨⟨k + 1, by omega, by go_num, HO2.out, HB3.out⟩, by simp [intOf]; omega⟩
    · obtain rfl : k = l.length := by omega
      have HL := HO2.out
      rw [List.take_length, ← HTL.out] at HL
      have HS := Lib.hid (Strs.of_own HL)
      obtain ⟨oa, oc, rfl⟩ := own_slice HL
      clear HL HO2
      go_wp2_with fail
      refine (specJoin _ (actTexts l) ⟨#[59]⟩ (by rw [HTL.out]; exact hlen) (by have := HTOT.out; omega) (by decide) _ HS.out).mono ?_
      rintro e w1 ⟨rfl, hb1⟩
      have HB1 := Lib.hid (below_thru HB2.out (Nat.le_refl _) hb1)
      clear hb1
      go_wp2_with fail
      go_ret
      exact ⟨rfl, HB1.out⟩
end Go.Proofs.YtdgfkmnnjhlpbaaDoor
/-
  Proved: which kinds of actions have a name, a type, a number (impl.actionHasName, actionHasType, greatestNumber); the world stays as it was.
-/
namespace Go.Proofs.YtdgfkmnnjhlpbaaDoor
open Go.RowKit

set_option maxRecDepth 100000 in
theorem implNamed (k : Int) (w : World) : Calls Tryd.prog 57 #[.int .i64 k] w fun e w' => e = .returned (.bool (actNamed k)) ∧ w' = w := by
  by_cases h0 : k = 6
  · subst h0
    go_enter Tryd.func57, Tryd.ntmps57
    go_wp2_with fail
    go_ret
    exact ⟨rfl, rfl⟩
  · skip
    by_cases h1 : k = 9
    · subst h1
      go_enter Tryd.func57, Tryd.ntmps57
      go_wp2_with fail
      go_ret
      exact ⟨rfl, rfl⟩
    · skip
      by_cases h2 : k = 20
      · subst h2
        go_enter Tryd.func57, Tryd.ntmps57
        go_wp2_with fail
        go_ret
        exact ⟨rfl, rfl⟩
      · skip
        go_enter Tryd.func57, Tryd.ntmps57
        go_wp2_with fail
        go_ret
        exact ⟨by simp [actNamed, h0, h1, h2], rfl⟩
set_option maxRecDepth 100000 in
theorem implTyped (k : Int) (w : World) : Calls Tryd.prog 60 #[.int .i64 k] w fun e w' => e = .returned (.bool (actTyped k)) ∧ w' = w := by
  by_cases h0 : k = 9
  · subst h0
    go_enter Tryd.func60, Tryd.ntmps60
    go_wp2_with fail
    go_ret
    exact ⟨rfl, rfl⟩
  · skip
    by_cases h1 : k = 17
    · subst h1
      go_enter Tryd.func60, Tryd.ntmps60
      go_wp2_with fail
      go_ret
      exact ⟨rfl, rfl⟩
    · skip
      by_cases h2 : k = 19
      · subst h2
        go_enter Tryd.func60, Tryd.ntmps60
        go_wp2_with fail
        go_ret
        exact ⟨rfl, rfl⟩
      · skip
        go_enter Tryd.func60, Tryd.ntmps60
        go_wp2_with fail
        go_ret
        exact ⟨by simp [actTyped, h0, h1, h2], rfl⟩
set_option maxRecDepth 100000 in
theorem implMost (k : Int) (w : World) : Calls Tryd.prog 102 #[.int .i64 k] w fun e w' => e = .returned (.int .i64 (actMost k)) ∧ w' = w := by
  by_cases h0 : k = 2
  · subst h0
    go_enter Tryd.func102, Tryd.ntmps102
    go_wp2_with fail
    go_ret
    exact ⟨rfl, rfl⟩
  · skip
    by_cases h1 : k = 18
    · subst h1
      go_enter Tryd.func102, Tryd.ntmps102
      go_wp2_with fail
      go_ret
      exact ⟨rfl, rfl⟩
    · skip
      by_cases h2 : k = 7
      · subst h2
        go_enter Tryd.func102, Tryd.ntmps102
        go_wp2_with fail
        go_ret
        exact ⟨rfl, rfl⟩
      · skip
        by_cases h3 : k = 8
        · subst h3
          go_enter Tryd.func102, Tryd.ntmps102
          go_wp2_with fail
          go_ret
          exact ⟨rfl, rfl⟩
        · skip
          go_enter Tryd.func102, Tryd.ntmps102
          go_wp2_with fail
          go_ret
          exact ⟨by simp [actMost, h0, h1, h2, h3], rfl⟩
end Go.Proofs.YtdgfkmnnjhlpbaaDoor
/-
  Proved: impl.isWord says whether a text is one of the three words; the memory that was there stays as it was.
-/
namespace Go.Proofs.YtdgfkmnnjhlpbaaDoor
open Go.RowKit

set_option maxRecDepth 100000 in
theorem implWord (s : ByteArray) (w : World) : Calls Tryd.prog 127 #[.string s] w fun e w' => e = .returned (.bool (wordB s)) ∧ w = w' := by
  cases h1 : (s.toList == [105, 102]) with
  | true =>
    go_enter Tryd.func127, Tryd.ntmps127
    go_wp2_with fail
    go_ret
    exact ⟨by simp [wordB, h1], rfl⟩
  | false =>
    cases h2 : (s.toList == [102, 115, 116]) with
    | true =>
      go_enter Tryd.func127, Tryd.ntmps127
      go_wp2_with fail
      go_ret
      exact ⟨by simp [wordB, h1, h2], rfl⟩
    | false =>
      cases h3 : (s.toList == [115, 110, 100]) with
      | true =>
        go_enter Tryd.func127, Tryd.ntmps127
        go_wp2_with fail
        go_ret
        exact ⟨by simp [wordB, h1, h2, h3], rfl⟩
      | false =>
        go_enter Tryd.func127, Tryd.ntmps127
        go_wp2_with fail
        go_ret
        exact ⟨by simp [wordB, h1, h2, h3], rfl⟩
end Go.Proofs.YtdgfkmnnjhlpbaaDoor
/-
  Proved: impl.IsName says whether a text is a name; the memory that was there stays as it was.
-/
namespace Go.Proofs.YtdgfkmnnjhlpbaaDoor
open Go.RowKit

theorem below_iter (w : World) (s : ByteArray) (k : Nat) : Below w.heap.size w (w.iter s k) := (Below.refl _ _).alloc (Nat.le_refl _) _
set_option maxRecDepth 100000 in
set_option maxHeartbeats 4000000 in
theorem implName (s : ByteArray) (w : World) (hs : s.size ≤ 9223372036854775807) : Calls Tryd.prog 103 #[.string s] w fun e w' => e = .returned (.bool (nameB s)) ∧ Below w.heap.size w w' := by
  by_cases r1 : 1 ≤ s.size
  case neg =>
    have hz : s.size = 0 := by omega
    have hl : s.toList = [] := List.eq_nil_of_length_eq_zero (by rw [size_of_toList]; exact hz)
    have h1 : (s.toList == []) = true := by rw [hl]; rfl
    have h2 : s.toList.isEmpty = true := by rw [hl]; rfl
    have HR := Lib.hid r1
    clear hz hl r1
    go_enter Tryd.func103, Tryd.ntmps103
    go_wp2_with fail
    go_ret
    exact ⟨by simp [nameB, HR.out], Below.refl _ _⟩
  have h1 : (s.toList == []) = false := toList_some r1
  have h2 : s.toList.isEmpty = false := by cases hh : s.toList with | nil => rw [hh] at h1; cases h1 | cons a r => rfl
  by_cases r2 : s.size ≤ 5
  case neg =>
    have i2 : (5 : Int) < (s.size : Int) := by omega
    go_enter Tryd.func103, Tryd.ntmps103
    go_wp2_with fail
    go_ret
    exact ⟨by simp [nameB, r2], Below.refl _ _⟩
  have i2 : ¬ ((5 : Int) < (s.size : Int)) := by omega
  cases hw : wordB s with
  | true =>
    go_enter Tryd.func103, Tryd.ntmps103
    go_wp2_with fail
    refine (implWord s w).mono ?_
    rintro e w1 ⟨rfl, rfl⟩
    go_wp2_with fail
    go_ret
    exact ⟨by simp [nameB, hw], Below.refl _ _⟩
  | false =>
    have HNB : Hid (nameB s = okB s s.size) := by show _ = _; simp [nameB, hw, r1, r2]
    go_enter Tryd.func103, Tryd.ntmps103
    go_wp2_with fail
    refine (implWord s w).mono ?_
    rintro e w1 ⟨rfl, rfl⟩
    go_wp2_with fail
    go_loopw [3] (fun _ wr => ∃ k : Nat, wr = w.iter s k ∧ k ≤ s.size ∧ okB s k = true) (fun _ wr => s.size - wr.iterPos w.heap.size)
    case atStart => exact ⟨0, rfl, by omega, rfl⟩
    case round =>
      obtain ⟨k, rfl, hk, hf⟩ := hrel
      have HF := Lib.hid hf; clear hf
      by_cases hlt : k < s.size
      · have HSUC := Lib.hid (okB_succ s k hlt)
        by_cases hasc : (s[k]'hlt).toNat < 128
        · have hnx : ∀ ty, (Instr.next (.pointer (some ⟨w.heap.size, 0, none⟩)) true ty).run Tryd.prog (w.iter s k) = _ := fun ty => run_next_ascii w s k ty hlt hasc
          by_cases l1 : 97 ≤ (s[k]'hlt).toNat ∧ (s[k]'hlt).toNat ≤ 122
          · have OK := Lib.hid (okAt_letter (k := k) l1.1 l1.2)
            obtain ⟨l1a, l1b⟩ := l1
            have l1d : decide ((97 : Int) ≤ ((s[k]'hlt).toNat : Int)) = true := by simpa using (by omega : (97 : Int) ≤ ((s[k]'hlt).toNat : Int))
            have l2d : decide (((s[k]'hlt).toNat : Int) ≤ 122) = true := by simpa using (by omega : ((s[k]'hlt).toNat : Int) ≤ 122)
            clear l1a l1b
            go_wp2_with fail
            all_goals exact ⟨⟨k + 1, rfl, hlt, by rw [HSUC.out, HF.out, OK.out]; rfl⟩, by simp; omega⟩
          · by_cases l3 : 97 ≤ (s[k]'hlt).toNat
            · skip
              by_cases z : k = 0
              · have OK := Lib.hid (okAt_bad (c := (s[k]'hlt).toNat) (k := k) (by omega) (Or.inl z))
                have l1d : decide ((97 : Int) ≤ ((s[k]'hlt).toNat : Int)) = true := by simpa using (by omega : (97 : Int) ≤ ((s[k]'hlt).toNat : Int))
                have l2d : decide (((s[k]'hlt).toNat : Int) ≤ 122) = false := by simpa using (by omega : (122 : Int) < ((s[k]'hlt).toNat : Int))
                have zb : ((k : Int) == 0) = true := by simp [z]
                clear l1 l3 z
                go_wp2_with fail
                all_goals go_ret
                all_goals exact ⟨by rw [HNB.out, okB_false s (k + 1) s.size (by rw [HSUC.out, HF.out, OK.out]; rfl) hlt]; rfl, below_iter _ _ _⟩
              · have zb : ((k : Int) == 0) = false := by simpa using z
                have z1 : 1 ≤ k := by omega
                by_cases g1 : 48 ≤ (s[k]'hlt).toNat ∧ (s[k]'hlt).toNat ≤ 57
                · have OK := Lib.hid (okAt_digit (k := k) z1 g1.1 g1.2)
                  obtain ⟨g1a, g1b⟩ := g1
                  have l1d : decide ((97 : Int) ≤ ((s[k]'hlt).toNat : Int)) = true := by simpa using (by omega : (97 : Int) ≤ ((s[k]'hlt).toNat : Int))
                  have l2d : decide (((s[k]'hlt).toNat : Int) ≤ 122) = false := by simpa using (by omega : (122 : Int) < ((s[k]'hlt).toNat : Int))
                  have g1d : decide ((48 : Int) ≤ ((s[k]'hlt).toNat : Int)) = true := by simpa using (by omega : (48 : Int) ≤ ((s[k]'hlt).toNat : Int))
                  have g2d : decide (((s[k]'hlt).toNat : Int) ≤ 57) = true := by simpa using (by omega : ((s[k]'hlt).toNat : Int) ≤ 57)
                  clear z l1 l3 g1a g1b
                  go_wp2_with fail
                  all_goals exact ⟨⟨k + 1, rfl, hlt, by rw [HSUC.out, HF.out, OK.out]; rfl⟩, by simp; omega⟩
                · have OK := Lib.hid (okAt_bad (c := (s[k]'hlt).toNat) (k := k) (by omega) (Or.inr (by omega)))
                  by_cases g2 : 48 ≤ (s[k]'hlt).toNat
                  · skip
                    have l1d : decide ((97 : Int) ≤ ((s[k]'hlt).toNat : Int)) = true := by simpa using (by omega : (97 : Int) ≤ ((s[k]'hlt).toNat : Int))
                    have l2d : decide (((s[k]'hlt).toNat : Int) ≤ 122) = false := by simpa using (by omega : (122 : Int) < ((s[k]'hlt).toNat : Int))
                    have g1d : decide ((48 : Int) ≤ ((s[k]'hlt).toNat : Int)) = true := by simpa using (by omega : (48 : Int) ≤ ((s[k]'hlt).toNat : Int))
                    have g2d : decide (((s[k]'hlt).toNat : Int) ≤ 57) = false := by simpa using (by omega : (57 : Int) < ((s[k]'hlt).toNat : Int))
                    clear z l1 l3 g1 g2
                    go_wp2_with fail
                    all_goals go_ret
                    all_goals exact ⟨by rw [HNB.out, okB_false s (k + 1) s.size (by rw [HSUC.out, HF.out, OK.out]; rfl) hlt]; rfl, below_iter _ _ _⟩
                  · skip
                    have l1d : decide ((97 : Int) ≤ ((s[k]'hlt).toNat : Int)) = true := by simpa using (by omega : (97 : Int) ≤ ((s[k]'hlt).toNat : Int))
                    have l2d : decide (((s[k]'hlt).toNat : Int) ≤ 122) = false := by simpa using (by omega : (122 : Int) < ((s[k]'hlt).toNat : Int))
                    have g1d : decide ((48 : Int) ≤ ((s[k]'hlt).toNat : Int)) = false := by simpa using (by omega : ((s[k]'hlt).toNat : Int) < 48)
                    clear z l1 l3 g1 g2
                    go_wp2_with fail
                    all_goals go_ret
                    all_goals exact ⟨by rw [HNB.out, okB_false s (k + 1) s.size (by rw [HSUC.out, HF.out, OK.out]; rfl) hlt]; rfl, below_iter _ _ _⟩
            · skip
              by_cases z : k = 0
              · have OK := Lib.hid (okAt_bad (c := (s[k]'hlt).toNat) (k := k) (by omega) (Or.inl z))
                have l1d : decide ((97 : Int) ≤ ((s[k]'hlt).toNat : Int)) = false := by simpa using (by omega : ((s[k]'hlt).toNat : Int) < 97)
                have zb : ((k : Int) == 0) = true := by simp [z]
                clear l1 l3 z
                go_wp2_with fail
                all_goals go_ret
                all_goals exact ⟨by rw [HNB.out, okB_false s (k + 1) s.size (by rw [HSUC.out, HF.out, OK.out]; rfl) hlt]; rfl, below_iter _ _ _⟩
              · have zb : ((k : Int) == 0) = false := by simpa using z
                have z1 : 1 ≤ k := by omega
                by_cases g1 : 48 ≤ (s[k]'hlt).toNat ∧ (s[k]'hlt).toNat ≤ 57
                · have OK := Lib.hid (okAt_digit (k := k) z1 g1.1 g1.2)
                  obtain ⟨g1a, g1b⟩ := g1
                  have l1d : decide ((97 : Int) ≤ ((s[k]'hlt).toNat : Int)) = false := by simpa using (by omega : ((s[k]'hlt).toNat : Int) < 97)
                  have g1d : decide ((48 : Int) ≤ ((s[k]'hlt).toNat : Int)) = true := by simpa using (by omega : (48 : Int) ≤ ((s[k]'hlt).toNat : Int))
                  have g2d : decide (((s[k]'hlt).toNat : Int) ≤ 57) = true := by simpa using (by omega : ((s[k]'hlt).toNat : Int) ≤ 57)
                  clear z l1 l3 g1a g1b
                  go_wp2_with fail
                  all_goals exact ⟨⟨k + 1, rfl, hlt, by rw [HSUC.out, HF.out, OK.out]; rfl⟩, by simp; omega⟩
                · have OK := Lib.hid (okAt_bad (c := (s[k]'hlt).toNat) (k := k) (by omega) (Or.inr (by omega)))
                  by_cases g2 : 48 ≤ (s[k]'hlt).toNat
                  · skip
                    have l1d : decide ((97 : Int) ≤ ((s[k]'hlt).toNat : Int)) = false := by simpa using (by omega : ((s[k]'hlt).toNat : Int) < 97)
                    have g1d : decide ((48 : Int) ≤ ((s[k]'hlt).toNat : Int)) = true := by simpa using (by omega : (48 : Int) ≤ ((s[k]'hlt).toNat : Int))
                    have g2d : decide (((s[k]'hlt).toNat : Int) ≤ 57) = false := by simpa using (by omega : (57 : Int) < ((s[k]'hlt).toNat : Int))
                    clear z l1 l3 g1 g2
                    go_wp2_with fail
                    all_goals go_ret
                    all_goals exact ⟨by rw [HNB.out, okB_false s (k + 1) s.size (by rw [HSUC.out, HF.out, OK.out]; rfl) hlt]; rfl, below_iter _ _ _⟩
                  · skip
                    have l1d : decide ((97 : Int) ≤ ((s[k]'hlt).toNat : Int)) = false := by simpa using (by omega : ((s[k]'hlt).toNat : Int) < 97)
                    have g1d : decide ((48 : Int) ≤ ((s[k]'hlt).toNat : Int)) = false := by simpa using (by omega : ((s[k]'hlt).toNat : Int) < 48)
                    clear z l1 l3 g1 g2
                    go_wp2_with fail
                    all_goals go_ret
                    all_goals exact ⟨by rw [HNB.out, okB_false s (k + 1) s.size (by rw [HSUC.out, HF.out, OK.out]; rfl) hlt]; rfl, below_iter _ _ _⟩
        · have hnx : ∀ ty, (Instr.next (.pointer (some ⟨w.heap.size, 0, none⟩)) true ty).run Tryd.prog (w.iter s k) = _ := fun ty => run_next_any w s k ty hlt
          have hd := (decode_high s k hlt (by omega)).1
          have OK : Hid (okAt (s[k]'hlt).toNat k = false) := okAt_bad (by omega) (Or.inr (by omega))
          have m1 : decide ((97 : Int) ≤ ((Utf8.decode s k).1 : Int)) = true := by simpa using (by omega : (97 : Int) ≤ ((Utf8.decode s k).1 : Int))
          have m2 : decide (((Utf8.decode s k).1 : Int) ≤ 122) = false := by simpa using (by omega : (122 : Int) < ((Utf8.decode s k).1 : Int))
          have m3 : decide ((48 : Int) ≤ ((Utf8.decode s k).1 : Int)) = true := by simpa using (by omega : (48 : Int) ≤ ((Utf8.decode s k).1 : Int))
          have m4 : decide (((Utf8.decode s k).1 : Int) ≤ 57) = false := by simpa using (by omega : (57 : Int) < ((Utf8.decode s k).1 : Int))
          by_cases z : k = 0
          · have zb : ((k : Int) == 0) = true := by simp [z]
            clear z
            go_wp2_with fail
            go_ret
            exact ⟨by rw [HNB.out, okB_false s (k + 1) s.size (by rw [HSUC.out, HF.out, OK.out]; rfl) hlt]; rfl, below_iter _ _ _⟩
          · have zb : ((k : Int) == 0) = false := by simpa using z
            clear z
            go_wp2_with fail
            go_ret
            exact ⟨by rw [HNB.out, okB_false s (k + 1) s.size (by rw [HSUC.out, HF.out, OK.out]; rfl) hlt]; rfl, below_iter _ _ _⟩
      · have hnx : ∀ ty, (Instr.next (.pointer (some ⟨w.heap.size, 0, none⟩)) true ty).run Tryd.prog (w.iter s k) = _ := fun ty => run_next_end w s k ty hlt
        have hks : k = s.size := by omega
        have HK := Lib.hid hks
        clear hks
        go_wp2_with fail
        go_ret
        exact ⟨by rw [HNB.out, ← HK.out, HF.out]; rfl, below_iter _ _ _⟩
end Go.Proofs.YtdgfkmnnjhlpbaaDoor
/-
  Proved: the method parts of each of the five nodes gives the parts of a type (none for the first three), and leaves the memory that was there as it was; which function a call of parts through the interface runs.
-/
namespace Go.Proofs.YtdgfkmnnjhlpbaaDoor
open Go.RowKit

theorem meth_unknown (n : Nat) (w : World) : (method (n + 1) 137 (.agg #[]) "loop.example/g00585/impl.parts").run Tryd.prog w = .ok (173, .agg #[]) w := by kernel_rfl
theorem meth_num (n : Nat) (w : World) : (method (n + 1) 138 (.agg #[]) "loop.example/g00585/impl.parts").run Tryd.prog w = .ok (174, .agg #[]) w := by kernel_rfl
theorem meth_bool (n : Nat) (w : World) : (method (n + 1) 139 (.agg #[]) "loop.example/g00585/impl.parts").run Tryd.prog w = .ok (175, .agg #[]) w := by kernel_rfl
theorem meth_arrow (n : Nat) (w : World) (a b c d : Value) : (method (n + 1) 141 (.agg #[a, b, c, d]) "loop.example/g00585/impl.parts").run Tryd.prog w = .ok (176, .agg #[a, b, c, d]) w := by kernel_rfl
theorem meth_pair (n : Nat) (w : World) (a b c d : Value) : (method (n + 1) 143 (.agg #[a, b, c, d]) "loop.example/g00585/impl.parts").run Tryd.prog w = .ok (177, .agg #[a, b, c, d]) w := by kernel_rfl

set_option maxRecDepth 100000 in
theorem parts_unknown (w : World) : Calls Tryd.prog 173 #[.agg #[]] w fun e w' => e = .returned (.slice none 0 0) ∧ Below w.heap.size w w' := by
  go_enter Tryd.func173, Tryd.ntmps173
  go_wp2_with fail
  go_ret
  exact ⟨rfl, below_alloc _ _⟩
set_option maxRecDepth 100000 in
theorem parts_num (w : World) : Calls Tryd.prog 174 #[.agg #[]] w fun e w' => e = .returned (.slice none 0 0) ∧ Below w.heap.size w w' := by
  go_enter Tryd.func174, Tryd.ntmps174
  go_wp2_with fail
  go_ret
  exact ⟨rfl, below_alloc _ _⟩
set_option maxRecDepth 100000 in
theorem parts_bool (w : World) : Calls Tryd.prog 175 #[.agg #[]] w fun e w' => e = .returned (.slice none 0 0) ∧ Below w.heap.size w w' := by
  go_enter Tryd.func175, Tryd.ntmps175
  go_wp2_with fail
  go_ret
  exact ⟨rfl, below_alloc _ _⟩
def PartsEnd (w0 : World) (d : Nat) (t1 t2 : Ty) (w : World) (e : Ending) (w' : World) : Prop :=
  ∃ b, e = .returned (.slice (some ⟨b, 0, none⟩) 2 2) ∧ RowIn (TyAt w0 d) w' w.heap.size (.slice (some ⟨b, 0, none⟩) 2 2) [t1, t2] ∧ Below w.heap.size w w'
theorem tys_two {w0 w : World} {d b lo : Nat} {t1 t2 : Ty} {k1 k2 : Int} {s1 s2 : Value} (hlo : lo ≤ b) (hb : b < w.heap.size) (h0 : w.cell? ⟨b, 0, none⟩ = some (.int .i64 k1)) (h1 : w.cell? ⟨b, 1, none⟩ = some s1) (h2 : w.cell? ⟨b, 2, none⟩ = some (.int .i64 k2)) (h3 : w.cell? ⟨b, 3, none⟩ = some s2)
    (ht1 : TyAt w0 d (.agg #[.int .i64 k1, s1]) t1) (ht2 : TyAt w0 d (.agg #[.int .i64 k2, s2]) t2) : RowIn (TyAt w0 d) w lo (.slice (some ⟨b, 0, none⟩) 2 2) [t1, t2] := by
  refine ⟨_, _, rfl, Nat.le_refl _, by simp, fun j hj => ?_⟩
  match j, hj with
  | 0, _ => exact ⟨b, 0, _, _, rfl, hlo, hb, by simpa using h0, by simpa using h1, ht1⟩
  | 1, _ => exact ⟨b, 0, _, _, rfl, hlo, hb, by simpa using h2, by simpa using h3, ht2⟩
theorem box_four {w : World} {a b c d : Value} {T : TypeId} : BoxAt ((w.alloc (.cells #[a, b, c, d] T)).alloc (.cells #[a, b, c, d] 31)) (w.heap.size + 1) #[a, b, c, d] := by
  have h := BoxAt.new (w.alloc (.cells #[a, b, c, d] T)) #[a, b, c, d] 31
  rw [show (w.alloc (.cells #[a, b, c, d] T)).heap.size = w.heap.size + 1 from by simp] at h
  exact h
set_option maxRecDepth 100000 in
set_option maxHeartbeats 1000000 in
theorem parts_arrow (w0 : World) (d : Nat) (t1 t2 : Ty) (k1 k2 : Int) (v1 v2 : Value) (w : World) (h1 : TyAt w0 d (.agg #[.int .i64 k1, v1]) t1) (h2 : TyAt w0 d (.agg #[.int .i64 k2, v2]) t2) :
    Calls Tryd.prog 176 #[.agg #[.int .i64 k1, v1, .int .i64 k2, v2]] w (PartsEnd w0 d t1 t2 w) := by
  obtain ⟨_, s1, n1, c1, _, rfl⟩ := at_parts h1
  obtain ⟨_, s2, n2, c2, _, rfl⟩ := at_parts h2
  have H1 := Lib.hid h1
  have H2 := Lib.hid h2
  clear h1 h2
  go_enter Tryd.func176, Tryd.ntmps176
  go_wp2_with fail
  go_ret
  have X := ((Below.refl w.heap.size w).alloc (Nat.le_refl _) (.cells #[.int .i64 k1, .slice s1 n1 c1, .int .i64 k2, .slice s2 n2 c2] 141)).alloc (by simp) (.cells #[.int .i64 k1, .slice s1 n1 c1, .int .i64 k2, .slice s2 n2 c2] 31)
  have Y := box_four (w := w) (a := .int .i64 k1) (b := .slice s1 n1 c1) (c := .int .i64 k2) (d := .slice s2 n2 c2) (T := 141)
  exact ⟨_, rfl, tys_two (by omega) Y.1 (Y.2 0) (Y.2 1) (Y.2 2) (Y.2 3) H1.out H2.out, X⟩
set_option maxRecDepth 100000 in
set_option maxHeartbeats 1000000 in
theorem parts_pair (w0 : World) (d : Nat) (t1 t2 : Ty) (k1 k2 : Int) (v1 v2 : Value) (w : World) (h1 : TyAt w0 d (.agg #[.int .i64 k1, v1]) t1) (h2 : TyAt w0 d (.agg #[.int .i64 k2, v2]) t2) :
    Calls Tryd.prog 177 #[.agg #[.int .i64 k1, v1, .int .i64 k2, v2]] w (PartsEnd w0 d t1 t2 w) := by
  obtain ⟨_, s1, n1, c1, _, rfl⟩ := at_parts h1
  obtain ⟨_, s2, n2, c2, _, rfl⟩ := at_parts h2
  have H1 := Lib.hid h1
  have H2 := Lib.hid h2
  clear h1 h2
  go_enter Tryd.func177, Tryd.ntmps177
  go_wp2_with fail
  go_ret
  have X := ((Below.refl w.heap.size w).alloc (Nat.le_refl _) (.cells #[.int .i64 k1, .slice s1 n1 c1, .int .i64 k2, .slice s2 n2 c2] 143)).alloc (by simp) (.cells #[.int .i64 k1, .slice s1 n1 c1, .int .i64 k2, .slice s2 n2 c2] 31)
  have Y := box_four (w := w) (a := .int .i64 k1) (b := .slice s1 n1 c1) (c := .int .i64 k2) (d := .slice s2 n2 c2) (T := 143)
  exact ⟨_, rfl, tys_two (by omega) Y.1 (Y.2 0) (Y.2 1) (Y.2 2) (Y.2 3) H1.out H2.out, X⟩
end Go.Proofs.YtdgfkmnnjhlpbaaDoor
/-
  Proved: impl.typeWithin says whether a type's tree has the form of a type and fits into the room and the depth that are left; it counts the room down, and touches nothing else.
-/
namespace Go.Proofs.YtdgfkmnnjhlpbaaDoor
open Go.RowKit

def within (t : Ty) (r dp : Int) : Bool := decide ((t.size : Int) ≤ r) && decide ((t.depth : Int) ≤ dp) && t.form
def WithinEnd (p : Nat) (r dp : Int) (t : Ty) (w : World) (e : Ending) (w' : World) : Prop :=
  ∃ r' : Int, e = .returned (.bool (within t r dp)) ∧ w'.cell? ⟨p, 0, none⟩ = some (.int .i64 r') ∧ w'.frozen? ⟨p, 0, none⟩ = false ∧ r - t.size ≤ r' ∧ r' ≤ r ∧ (within t r dp = true → r' = r - t.size) ∧
    Below p w w' ∧ (∀ b, b < w.heap.size → b ≠ p → w'.heap[b]? = w.heap[b]?)
/-- What the count leaves of memory: below p nothing has changed, nor any old block but p; the room holds r. -/
def Room (p : Nat) (r : Int) (w w' : World) : Prop :=
  w'.cell? ⟨p, 0, none⟩ = some (.int .i64 r) ∧ w'.frozen? ⟨p, 0, none⟩ = false ∧ Below p w w' ∧ (∀ b, b < w.heap.size → b ≠ p → w'.heap[b]? = w.heap[b]?)
theorem Room.stored {p : Nat} {r : Int} {x : Value} {w w2 : World} (hp : p < w.heap.size) (hb : Below w.heap.size w w2) (e0 : w2.cell? ⟨p, 0, none⟩ = some x) (e1 : w2.frozen? ⟨p, 0, none⟩ = false) : Room p r w (w2.setCell ⟨p, 0, none⟩ (.int .i64 r)) := by
  refine ⟨by simp [go_sem, e0], by simp [go_sem, e1], (hb.mono (Nat.le_of_lt hp)).setCell (Nat.le_refl _) _, fun b h1 h2 => ?_⟩
  rw [heap_setCell_other _ _ _ _ h2]
  exact hb.block b h1
theorem Room.below {p : Nat} {r : Int} {w w1 w2 : World} (hp : p < w.heap.size) (h : Room p r w w1) (hb : Below w1.heap.size w1 w2) : Room p r w w2 := by
  obtain ⟨h0, h1, h2, h3⟩ := h
  have hz := h2.size
  refine ⟨(hb.cell (p := ⟨p, 0, none⟩) (Nat.lt_of_lt_of_le hp hz)).trans h0, (hb.frozen (p := ⟨p, 0, none⟩) (Nat.lt_of_lt_of_le hp hz)).trans h1, h2.trans (hb.mono (by omega)), fun b hb1 hb2 => ?_⟩
  rw [hb.block b (by omega)]
  exact h3 b hb1 hb2
theorem Room.on {p : Nat} {r r2 : Int} {w w1 w2 : World} (h : Room p r w w1) (h2 : Room p r2 w1 w2) : Room p r2 w w2 := by
  obtain ⟨_, _, g2, g3⟩ := h
  obtain ⟨k0, k1, k2, k3⟩ := h2
  refine ⟨k0, k1, g2.trans k2, fun b hb1 hb2 => ?_⟩
  rw [k3 b (by have := g2.size; omega) hb2]
  exact g3 b hb1 hb2
theorem WithinEnd.of {p : Nat} {r dp r' : Int} {t : Ty} {w w' : World} {b : Bool} (hb : within t r dp = b) (hr : Room p r' w w') (h1 : r - t.size ≤ r') (h2 : r' ≤ r) (h3 : b = true → r' = r - t.size) : WithinEnd p r dp t w (.returned (.bool b)) w' := by
  subst hb
  exact ⟨r', rfl, hr.1, hr.2.1, h1, h2, h3, hr.2.2.1, hr.2.2.2⟩
theorem WithinEnd.room {p : Nat} {r dp : Int} {t : Ty} {w w' : World} {e : Ending} (h : WithinEnd p r dp t w e w') : ∃ r', e = .returned (.bool (within t r dp)) ∧ Room p r' w w' ∧ r - t.size ≤ r' ∧ r' ≤ r ∧ (within t r dp = true → r' = r - t.size) := by
  obtain ⟨r', h0, h1, h2, h3, h4, h5, h6, h7⟩ := h
  exact ⟨r', h0, ⟨h1, h2, h6, h7⟩, h3, h4, h5⟩
theorem Ty.depths_get (ts : List Ty) (k : Nat) (h : k < ts.length) : ts[k].depth ≤ Ty.depths ts := by
  induction ts generalizing k with
  | nil => simp at h
  | cons s r ih =>
    cases k with
    | zero => simp only [List.getElem_cons_zero, Ty.depths]; omega
    | succ k => simp only [List.getElem_cons_succ, Ty.depths]; have := ih k (by simpa using h); omega
theorem within_true {t : Ty} {r dp : Int} (h : within t r dp = true) : (t.size : Int) ≤ r ∧ (t.depth : Int) ≤ dp ∧ t.form = true := by
  simp only [within, Bool.and_eq_true, decide_eq_true_eq] at h
  exact ⟨h.1.1, h.1.2, h.2⟩
theorem within_sub {kd r dp r2 : Int} {ts : List Ty} {k : Nat} (h : k < ts.length) (hr : r2 = r - 1 - Ty.sizes (ts.take k)) (hf : within ts[k] r2 (dp - 1) = false) : within (.node kd ts) r dp = false := by
  cases hw : within (.node kd ts) r dp with
  | false => rfl
  | true =>
    obtain ⟨w1, w2, w3⟩ := within_true hw
    simp only [Ty.size, Ty.depth, Ty.form, Bool.and_eq_true] at w1 w2 w3
    have h1 := Ty.sizes_take ts k h
    have h2 := Ty.sizes_le ts (k + 1)
    have h3 := Ty.depths_get ts k h
    have h4 : ts[k].form = true := by
      have e := Ty.forms_take ts k h
      cases hfk : ts[k].form with
      | true => rfl
      | false =>
        rw [hfk, Bool.and_false] at e
        have := Ty.forms_false ts (k + 1) e
        rw [this] at w3; exact absurd w3.1 (by simp)
    have : within ts[k] r2 (dp - 1) = true := by
      simp only [within, Bool.and_eq_true, decide_eq_true_eq]
      exact ⟨⟨by omega, by omega⟩, h4⟩
    rw [this] at hf; cases hf
theorem within_mk {t : Ty} {r dp : Int} (h1 : (t.size : Int) ≤ r) (h2 : (t.depth : Int) ≤ dp) (h3 : t.form = true) : within t r dp = true := by
  simp only [within, Bool.and_eq_true, decide_eq_true_eq]
  exact ⟨⟨h1, h2⟩, h3⟩
set_option maxRecDepth 100000 in
set_option maxHeartbeats 4000000 in
theorem implWithin (w0 : World) : ∀ (d : Nat) (v : Value) (t : Ty) (p : Nat) (r dp : Int) (w : World), TyAt w0 d v t → Below w0.heap.size w0 w → w0.heap.size ≤ p → t.size ≤ 1048577 → p < w.heap.size → 0 ≤ r → r ≤ 1048576 → 0 ≤ dp → dp ≤ 100 →
    w.cell? ⟨p, 0, none⟩ = some (.int .i64 r) → w.frozen? ⟨p, 0, none⟩ = false →
    Calls Tryd.prog 116 #[v, .pointer (some ⟨p, 0, none⟩), .int .i64 dp] w (WithinEnd p r dp t w)
  | 0, _, _, _, _, _, _, h, _, _, _, _, _, _, _, _, _, _ => h.elim
  | d + 1, v, .node kd ts, p, r, dp, w, h, hw0, hp0, hsz, hp, hr0, hr1, hd0, hd1, hcell, hfroz => by
    have IH : Hid (∀ (v : Value) (t : Ty) (p : Nat) (r dp : Int) (w : World), TyAt w0 d v t → Below w0.heap.size w0 w → w0.heap.size ≤ p → t.size ≤ 1048577 → p < w.heap.size → 0 ≤ r → r ≤ 1048576 → 0 ≤ dp → dp ≤ 100 →
      w.cell? ⟨p, 0, none⟩ = some (.int .i64 r) → w.frozen? ⟨p, 0, none⟩ = false →
      Calls Tryd.prog 116 #[v, .pointer (some ⟨p, 0, none⟩), .int .i64 dp] w (WithinEnd p r dp t w)) := implWithin w0 d
    have hlen : ts.length ≤ 1152921504606846976 := by have := Ty.length_le ts; simp [Ty.size] at hsz; omega
    have HSZ : Hid (1 + Ty.sizes ts ≤ 1048577) := by simp [Ty.size] at hsz; show _ ≤ _; omega
    have hszi : (Ty.node kd ts).size = 1 + Ty.sizes ts := rfl
    have HSI := Lib.hid hszi
    clear hsz hszi
    have HT := Lib.hid h
    obtain ⟨sk, sa, sn, sc, rfl⟩ := agg_parts h
    clear h
    have HW0 := Lib.hid hw0; clear hw0
    have hb := HW0.out.alloc HW0.out.size (.cells #[.int .i64 sk, .slice sa sn sc] 31)
    have HW1 := Lib.hid hb; clear hb
    have hpw : ¬ (p = w.heap.size) := by omega
    go_enter Tryd.func116, Tryd.ntmps116
    go_wp2_with fail
    refine (implNode w0 d _ kd ts _ HT.out HW1.out hlen).mono ?_
    rintro e w2 ⟨n, rfl, hnode, hb⟩
    have B2 := Lib.hid (below_on (below_alloc w _) hb (by simp)); clear hb HW1
    have e0 := (B2.out.cell (p := ⟨p, 0, none⟩) hp).trans hcell
    have e1 := (B2.out.frozen (p := ⟨p, 0, none⟩) hp).trans hfroz
    have R2 := Lib.hid (Room.stored (r := r - 1) hp B2.out e0 e1)
    clear hcell hfroz
    have fin : ∀ b, within (.node kd ts) r dp = b → b = false → WithinEnd p r dp (.node kd ts) w (.returned (.bool b)) (w2.setCell ⟨p, 0, none⟩ (.int .i64 (r - 1))) := fun b h1 h2 =>
      WithinEnd.of h1 R2.out (by rw [HSI.out]; omega) (by omega) (fun h => by rw [h2] at h; cases h)
    have FIN := Lib.hid fin; clear fin
    have HSG : Hid (Ty.size (.node kd ts) = 1 + Ty.sizes ts) := HSI.out
    by_cases hkb : kindOk kd ts.length = false
    · have hn : n = .nilIface := by
        rcases hnode with ⟨_, h⟩ | ⟨h, _⟩ | ⟨h, _⟩
        · exact h
        · rw [hkb] at h; cases h
        · rw [hkb] at h; cases h
      subst hn
      go_wp2_with fail
      go_ret
      exact FIN.out _ (by simp [within, Ty.form, hkb]) rfl
    have hko : kindOk kd ts.length = true := by simpa using hkb
    have HKO := Lib.hid hko; clear hko hkb
    have early : r < 1 ∨ dp = 0 → within (.node kd ts) r dp = false := fun h => by
      cases hw : within (.node kd ts) r dp with
      | false => rfl
      | true =>
        obtain ⟨w1, w2, w3⟩ := within_true hw
        simp only [Ty.size, Ty.depth] at w1 w2
        omega
    have EARLY := Lib.hid early; clear early
    by_cases hr : r < 1
    · rcases hnode with ⟨h, _⟩ | ⟨_, rfl, ⟨rfl, rfl⟩ | ⟨rfl, rfl⟩ | ⟨rfl, rfl⟩⟩ | ⟨_, t1, t2, k1, s1, k2, s2, rfl, ht1, ht2, ⟨rfl, rfl⟩ | ⟨rfl, rfl⟩⟩
      · rw [HKO.out] at h; cases h
      all_goals (go_wp2_with fail; go_ret; exact FIN.out _ (EARLY.out (Or.inl hr)) rfl)
    by_cases hd : dp = 0
    · have hdb : (dp == 0) = true := by simp [hd]
      rcases hnode with ⟨h, _⟩ | ⟨_, rfl, ⟨rfl, rfl⟩ | ⟨rfl, rfl⟩ | ⟨rfl, rfl⟩⟩ | ⟨_, t1, t2, k1, s1, k2, s2, rfl, ht1, ht2, ⟨rfl, rfl⟩ | ⟨rfl, rfl⟩⟩
      · rw [HKO.out] at h; cases h
      all_goals (go_wp2_with fail; go_ret; exact FIN.out _ (EARLY.out (Or.inr hd)) rfl)
    have hdb : (dp == 0) = false := by simp [hd]
    clear FIN EARLY
    rcases hnode with ⟨h, _⟩ | ⟨_, rfl, ⟨rfl, rfl⟩ | ⟨rfl, rfl⟩ | ⟨rfl, rfl⟩⟩ | ⟨_, t1, t2, k1, s1, k2, s2, rfl, ht1, ht2, ⟨rfl, rfl⟩ | ⟨rfl, rfl⟩⟩
    · rw [HKO.out] at h; cases h
    · have hm := meth_unknown
      go_wp2_with fail
      refine (parts_unknown _).mono ?_
      rintro e w4 ⟨rfl, hb⟩
      have R4 := Lib.hid (R2.out.below hp hb)
      have HZ : Hid (w.heap.size ≤ w2.heap.size) := B2.out.size
      have hz4 := hb.size
      rw [World.size_setCell] at hz4
      clear hb R2 e0 e1 B2 hm
      have hz2 : w.heap.size ≤ w2.heap.size := HZ.out
      clear HZ
      go_wp2_with fail
      go_loopw [32] (fun i wr => ∃ k : Nat, k ≤ 0 ∧ i = .int .i64 k ∧ 0 ≤ r - 1 - (Ty.sizes (List.take k []) : Int) ∧ (Ty.depths (List.take k []) : Int) ≤ dp - 1 ∧ Ty.forms (List.take k []) = true ∧ Room p (r - 1 - Ty.sizes (List.take k [])) w wr ∧ w4.heap.size ≤ wr.heap.size ∧ (∀ b, b < w4.heap.size → b ≠ p → wr.heap[b]? = w4.heap[b]?)) (fun i _ => 0 - (intOf i).toNat)
      case atStart => exact ⟨0, by omega, rfl, by simp [Ty.sizes]; omega, by simp [Ty.depths]; omega, by simp [Ty.forms], by simpa [Ty.sizes] using R4.out, Nat.le_refl _, fun _ _ _ => rfl⟩
      case round =>
        obtain ⟨k, hk, rfl, hs, hds, hf, hroom, hz, hkeep⟩ := hrel
        have HS := Lib.hid hs
        have HD := Lib.hid hds
        have HF := Lib.hid hf
        have HR := Lib.hid hroom
        have HK := Lib.hid hkeep
        clear hs hds hf hroom hkeep
        obtain rfl : k = 0 := by omega
        have hfin : within (.node 1 []) r dp = true := by
          have h1 : 0 ≤ r - 1 - (Ty.sizes [] : Int) := HS.out
          have h2 : (Ty.depths [] : Int) ≤ dp - 1 := HD.out
          have h3 : Ty.forms [] = true := HF.out
          have h4 := HKO.out
          exact within_mk (show ((1 + Ty.sizes [] : Nat) : Int) ≤ r by omega) (show ((1 + Ty.depths [] : Nat) : Int) ≤ dp by omega) (by simp only [Ty.form, h3, h4, Bool.and_self])
        have HFIN := Lib.hid hfin; clear hfin
        have h1 : 0 ≤ r - 1 - (Ty.sizes [] : Int) := HS.out
        have hlo : r - ↑(1 + Ty.sizes []) ≤ r - 1 - ↑(Ty.sizes []) := by omega
        have HLO := Lib.hid hlo; clear hlo h1
        go_wp2_with fail
        go_ret
        exact WithinEnd.of (r' := r - 1 - ↑(Ty.sizes [])) HFIN.out HR.out (by rw [HSG.out]; exact HLO.out) (by omega) (fun _ => by rw [HSG.out]; omega)
    · have hm := meth_num
      go_wp2_with fail
      refine (parts_num _).mono ?_
      rintro e w4 ⟨rfl, hb⟩
      have R4 := Lib.hid (R2.out.below hp hb)
      have HZ : Hid (w.heap.size ≤ w2.heap.size) := B2.out.size
      have hz4 := hb.size
      rw [World.size_setCell] at hz4
      clear hb R2 e0 e1 B2 hm
      have hz2 : w.heap.size ≤ w2.heap.size := HZ.out
      clear HZ
      go_wp2_with fail
      go_loopw [32] (fun i wr => ∃ k : Nat, k ≤ 0 ∧ i = .int .i64 k ∧ 0 ≤ r - 1 - (Ty.sizes (List.take k []) : Int) ∧ (Ty.depths (List.take k []) : Int) ≤ dp - 1 ∧ Ty.forms (List.take k []) = true ∧ Room p (r - 1 - Ty.sizes (List.take k [])) w wr ∧ w4.heap.size ≤ wr.heap.size ∧ (∀ b, b < w4.heap.size → b ≠ p → wr.heap[b]? = w4.heap[b]?)) (fun i _ => 0 - (intOf i).toNat)
      case atStart => exact ⟨0, by omega, rfl, by simp [Ty.sizes]; omega, by simp [Ty.depths]; omega, by simp [Ty.forms], by simpa [Ty.sizes] using R4.out, Nat.le_refl _, fun _ _ _ => rfl⟩
      case round =>
        obtain ⟨k, hk, rfl, hs, hds, hf, hroom, hz, hkeep⟩ := hrel
        have HS := Lib.hid hs
        have HD := Lib.hid hds
        have HF := Lib.hid hf
        have HR := Lib.hid hroom
        have HK := Lib.hid hkeep
        clear hs hds hf hroom hkeep
        obtain rfl : k = 0 := by omega
        have hfin : within (.node 2 []) r dp = true := by
          have h1 : 0 ≤ r - 1 - (Ty.sizes [] : Int) := HS.out
          have h2 : (Ty.depths [] : Int) ≤ dp - 1 := HD.out
          have h3 : Ty.forms [] = true := HF.out
          have h4 := HKO.out
          exact within_mk (show ((1 + Ty.sizes [] : Nat) : Int) ≤ r by omega) (show ((1 + Ty.depths [] : Nat) : Int) ≤ dp by omega) (by simp only [Ty.form, h3, h4, Bool.and_self])
        have HFIN := Lib.hid hfin; clear hfin
        have h1 : 0 ≤ r - 1 - (Ty.sizes [] : Int) := HS.out
        have hlo : r - ↑(1 + Ty.sizes []) ≤ r - 1 - ↑(Ty.sizes []) := by omega
        have HLO := Lib.hid hlo; clear hlo h1
        go_wp2_with fail
        go_ret
        exact WithinEnd.of (r' := r - 1 - ↑(Ty.sizes [])) HFIN.out HR.out (by rw [HSG.out]; exact HLO.out) (by omega) (fun _ => by rw [HSG.out]; omega)
    · have hm := meth_bool
      go_wp2_with fail
      refine (parts_bool _).mono ?_
      rintro e w4 ⟨rfl, hb⟩
      have R4 := Lib.hid (R2.out.below hp hb)
      have HZ : Hid (w.heap.size ≤ w2.heap.size) := B2.out.size
      have hz4 := hb.size
      rw [World.size_setCell] at hz4
      clear hb R2 e0 e1 B2 hm
      have hz2 : w.heap.size ≤ w2.heap.size := HZ.out
      clear HZ
      go_wp2_with fail
      go_loopw [32] (fun i wr => ∃ k : Nat, k ≤ 0 ∧ i = .int .i64 k ∧ 0 ≤ r - 1 - (Ty.sizes (List.take k []) : Int) ∧ (Ty.depths (List.take k []) : Int) ≤ dp - 1 ∧ Ty.forms (List.take k []) = true ∧ Room p (r - 1 - Ty.sizes (List.take k [])) w wr ∧ w4.heap.size ≤ wr.heap.size ∧ (∀ b, b < w4.heap.size → b ≠ p → wr.heap[b]? = w4.heap[b]?)) (fun i _ => 0 - (intOf i).toNat)
      case atStart => exact ⟨0, by omega, rfl, by simp [Ty.sizes]; omega, by simp [Ty.depths]; omega, by simp [Ty.forms], by simpa [Ty.sizes] using R4.out, Nat.le_refl _, fun _ _ _ => rfl⟩
      case round =>
        obtain ⟨k, hk, rfl, hs, hds, hf, hroom, hz, hkeep⟩ := hrel
        have HS := Lib.hid hs
        have HD := Lib.hid hds
        have HF := Lib.hid hf
        have HR := Lib.hid hroom
        have HK := Lib.hid hkeep
        clear hs hds hf hroom hkeep
        obtain rfl : k = 0 := by omega
        have hfin : within (.node 3 []) r dp = true := by
          have h1 : 0 ≤ r - 1 - (Ty.sizes [] : Int) := HS.out
          have h2 : (Ty.depths [] : Int) ≤ dp - 1 := HD.out
          have h3 : Ty.forms [] = true := HF.out
          have h4 := HKO.out
          exact within_mk (show ((1 + Ty.sizes [] : Nat) : Int) ≤ r by omega) (show ((1 + Ty.depths [] : Nat) : Int) ≤ dp by omega) (by simp only [Ty.form, h3, h4, Bool.and_self])
        have HFIN := Lib.hid hfin; clear hfin
        have h1 : 0 ≤ r - 1 - (Ty.sizes [] : Int) := HS.out
        have hlo : r - ↑(1 + Ty.sizes []) ≤ r - 1 - ↑(Ty.sizes []) := by omega
        have HLO := Lib.hid hlo; clear hlo h1
        go_wp2_with fail
        go_ret
        exact WithinEnd.of (r' := r - 1 - ↑(Ty.sizes [])) HFIN.out HR.out (by rw [HSG.out]; exact HLO.out) (by omega) (fun _ => by rw [HSG.out]; omega)
    · have H1 := Lib.hid ht1
      have H2 := Lib.hid ht2
      clear ht1 ht2
      have hm := fun (n : Nat) (w : World) => meth_arrow n w (.int .i64 k1) s1 (.int .i64 k2) s2
      go_wp2_with fail
      refine (parts_arrow w0 d t1 t2 k1 k2 s1 s2 _ H1.out H2.out).mono ?_
      rintro e w4 ⟨bb, rfl, hrow, hb⟩
      have R4 := Lib.hid (R2.out.below hp hb)
      have HZ : Hid (w.heap.size ≤ w2.heap.size) := B2.out.size
      have hz4 := hb.size
      rw [World.size_setCell] at hz4
      clear hb R2 e0 e1 B2 hm
      have hz2 : w.heap.size ≤ w2.heap.size := HZ.out
      clear HZ
      have HROW : Hid (∀ j (h : j < 2), ∃ x0 x1, p < bb ∧ bb < w4.heap.size ∧ w4.cell? ⟨bb, j * 2, none⟩ = some x0 ∧ w4.cell? ⟨bb, j * 2 + 1, none⟩ = some x1 ∧ TyAt w0 d (.agg #[x0, x1]) ([t1, t2][j]'h)) := fun j hj => by
        obtain ⟨a9, c9, he, _, _, hat⟩ := hrow
        obtain ⟨b9, o9, x0, x1, ha, h1, h2, h3, h4, h5⟩ := hat j hj
        simp only [Value.slice.injEq] at he
        obtain ⟨rfl, _⟩ := he
        injection ha with ha
        injection ha with ha1 ha2
        subst ha1 ha2
        rw [World.size_setCell] at h1
        exact ⟨x0, x1, by omega, h2, by simpa using h3, by simpa using h4, h5⟩
      clear hrow H1 H2
      go_wp2_with fail
      go_loopw [32] (fun i wr => ∃ k : Nat, k ≤ 2 ∧ i = .int .i64 k ∧ 0 ≤ r - 1 - (Ty.sizes (List.take k [t1, t2]) : Int) ∧ (Ty.depths (List.take k [t1, t2]) : Int) ≤ dp - 1 ∧ Ty.forms (List.take k [t1, t2]) = true ∧ Room p (r - 1 - Ty.sizes (List.take k [t1, t2])) w wr ∧ w4.heap.size ≤ wr.heap.size ∧ (∀ b, b < w4.heap.size → b ≠ p → wr.heap[b]? = w4.heap[b]?)) (fun i _ => 2 - (intOf i).toNat)
      case atStart => exact ⟨0, by omega, rfl, by simp [Ty.sizes]; omega, by simp [Ty.depths]; omega, by simp [Ty.forms], by simpa [Ty.sizes] using R4.out, Nat.le_refl _, fun _ _ _ => rfl⟩
      case round =>
        obtain ⟨k, hk, rfl, hs, hds, hf, hroom, hz, hkeep⟩ := hrel
        have HS := Lib.hid hs
        have HD := Lib.hid hds
        have HF := Lib.hid hf
        have HR := Lib.hid hroom
        have HK := Lib.hid hkeep
        clear hs hds hf hroom hkeep
        by_cases hlt : k < 2
        · obtain ⟨x0, x1, hpb, hbl, hc0, hc1, ht⟩ := HROW.out k hlt
          obtain ⟨yk, ya, yn, yc, rfl, rfl⟩ := at_parts ht
          have x0 : wr.cell? ⟨bb, k * 2, none⟩ = some (.int .i64 yk) := by rw [World.cell?_of_block (HK.out bb hbl (by omega))]; exact hc0
          have x1 : wr.cell? ⟨bb, k * 2 + 1, none⟩ = some (.slice ya yn yc) := by rw [World.cell?_of_block (HK.out bb hbl (by omega))]; exact hc1
          have hpp := below_alloc wr (.cells #[.int .i64 yk, .slice ya yn yc] 31)
          have HTK := Lib.hid ht
          have HRP := Lib.hid (HR.out.below hp hpp)
          have HWP : Hid (Below w0.heap.size w0 (wr.alloc (.cells #[.int .i64 yk, .slice ya yn yc] 31))) := HW0.out.trans (HRP.out.2.2.1.mono hp0)
          have hg := Ty.size_get [t1, t2] k hlt
          have hzk : Ty.size ([t1, t2][k]'hlt) ≤ 1048577 := by have := HSZ.out; omega
          have hpk : p < (wr.alloc (.cells #[.int .i64 yk, .slice ya yn yc] 31)).heap.size := by simp; omega
          obtain ⟨rr, hrr⟩ : ∃ rr, rr = r - 1 - (Ty.sizes (List.take k [t1, t2]) : Int) := ⟨_, rfl⟩
          rw [← hrr] at HRP HS
          have HRR := Lib.hid hrr; clear hrr
          have g0 : 0 ≤ rr := HS.out
          have g1 : rr ≤ 1048576 := by have := HRR.out; omega
          have gd : 0 ≤ dp - 1 := by omega
          clear ht hc0 hc1 hpp hg
          go_wp2_with fail
          refine (IH.out _ _ p rr (dp - 1) _ HTK.out HWP.out hp0 hzk hpk g0 g1 gd (by omega) HRP.out.1 HRP.out.2.1).mono ?_
          rintro e w6 hend
          obtain ⟨r6, rfl, hr6, h1, h2, h3⟩ := hend.room
          have HR6 := Lib.hid (HRP.out.on hr6)
          have HK6 : Hid (∀ b, b < w4.heap.size → b ≠ p → w6.heap[b]? = w4.heap[b]?) := fun b hb1 hb2 => by
            rw [hr6.2.2.2 b (by simp; omega) hb2, heap_alloc_old _ _ (by omega)]
            exact HK.out b hb1 hb2
          have hz6 : w4.heap.size ≤ w6.heap.size := by have := hr6.2.2.1.size; simp at this; omega
          clear hend hr6
          cases hw : within ([t1, t2][k]'hlt) rr (dp - 1) with
          | true =>
            have h4 := h3 hw
            obtain ⟨u1, u2, u3⟩ := within_true hw
            subst h4
            have HU3 := Lib.hid u3
            have T1 := Lib.hid (Ty.sizes_take [t1, t2] k hlt)
            have T2 := Lib.hid (Ty.depths_take [t1, t2] k hlt)
            have T3 := Lib.hid (Ty.forms_take [t1, t2] k hlt)
            have HW := Lib.hid hw
            have U2 := Lib.hid u2
            have U1 := Lib.hid u1
            clear h1 h2 h3 u3 u2 u1 hw
            have eq1 : Hid (rr - ↑(Ty.size ([t1, t2][k]'hlt)) = r - 1 - ↑(Ty.sizes (List.take (k + 1) [t1, t2]))) := by rw [T1.out]; have := HRR.out; show _ = _; omega
            go_wp2_with fail
            exact ⟨⟨k + 1, by omega, by go_num, by rw [← eq1.out]; have := U1.out; omega, by rw [T2.out]; have := HD.out; have := U2.out; omega, by rw [T3.out, HF.out, HU3.out]; rfl, by rw [← eq1.out]; exact HR6.out, hz6, HK6.out⟩, by simp [intOf]; omega⟩
          | false =>
            have hfin := within_sub (kd := 4) (r := r) (dp := dp) hlt HRR.out hw
            have HFIN := Lib.hid hfin
            have hsz1 := Ty.sizes_take [t1, t2] k hlt
            have hsz2 := Ty.sizes_le [t1, t2] (k + 1)
            have hq := HRR.out
            have hlo : r - ↑(1 + Ty.sizes [t1, t2]) ≤ r6 := by omega
            have hhi : r6 ≤ r := by omega
            clear hfin hw hsz1 hsz2 hq h1 h2 h3
            go_wp2_with fail
            go_ret
            exact WithinEnd.of HFIN.out HR6.out (by rw [HSG.out]; exact hlo) hhi (fun h => by cases h)
        · obtain rfl : k = 2 := by omega
          have hfin : within (.node 4 [t1, t2]) r dp = true := by
            have h1 : 0 ≤ r - 1 - (Ty.sizes [t1, t2] : Int) := HS.out
            have h2 : (Ty.depths [t1, t2] : Int) ≤ dp - 1 := HD.out
            have h3 : Ty.forms [t1, t2] = true := HF.out
            have h4 := HKO.out
            exact within_mk (show ((1 + Ty.sizes [t1, t2] : Nat) : Int) ≤ r by omega) (show ((1 + Ty.depths [t1, t2] : Nat) : Int) ≤ dp by omega) (by simp only [Ty.form, h3, h4, Bool.and_self])
          have HFIN := Lib.hid hfin; clear hfin
          have h1 : 0 ≤ r - 1 - (Ty.sizes [t1, t2] : Int) := HS.out
          have hlo : r - ↑(1 + Ty.sizes [t1, t2]) ≤ r - 1 - ↑(Ty.sizes [t1, t2]) := by omega
          have HLO := Lib.hid hlo; clear hlo h1
          go_wp2_with fail
          go_ret
          exact WithinEnd.of (r' := r - 1 - ↑(Ty.sizes [t1, t2])) HFIN.out HR.out (by rw [HSG.out]; exact HLO.out) (by omega) (fun _ => by rw [HSG.out]; omega)
    · have H1 := Lib.hid ht1
      have H2 := Lib.hid ht2
      clear ht1 ht2
      have hm := fun (n : Nat) (w : World) => meth_pair n w (.int .i64 k1) s1 (.int .i64 k2) s2
      go_wp2_with fail
      refine (parts_pair w0 d t1 t2 k1 k2 s1 s2 _ H1.out H2.out).mono ?_
      rintro e w4 ⟨bb, rfl, hrow, hb⟩
      have R4 := Lib.hid (R2.out.below hp hb)
      have HZ : Hid (w.heap.size ≤ w2.heap.size) := B2.out.size
      have hz4 := hb.size
      rw [World.size_setCell] at hz4
      clear hb R2 e0 e1 B2 hm
      have hz2 : w.heap.size ≤ w2.heap.size := HZ.out
      clear HZ
      have HROW : Hid (∀ j (h : j < 2), ∃ x0 x1, p < bb ∧ bb < w4.heap.size ∧ w4.cell? ⟨bb, j * 2, none⟩ = some x0 ∧ w4.cell? ⟨bb, j * 2 + 1, none⟩ = some x1 ∧ TyAt w0 d (.agg #[x0, x1]) ([t1, t2][j]'h)) := fun j hj => by
        obtain ⟨a9, c9, he, _, _, hat⟩ := hrow
        obtain ⟨b9, o9, x0, x1, ha, h1, h2, h3, h4, h5⟩ := hat j hj
        simp only [Value.slice.injEq] at he
        obtain ⟨rfl, _⟩ := he
        injection ha with ha
        injection ha with ha1 ha2
        subst ha1 ha2
        rw [World.size_setCell] at h1
        exact ⟨x0, x1, by omega, h2, by simpa using h3, by simpa using h4, h5⟩
      clear hrow H1 H2
      go_wp2_with fail
      go_loopw [32] (fun i wr => ∃ k : Nat, k ≤ 2 ∧ i = .int .i64 k ∧ 0 ≤ r - 1 - (Ty.sizes (List.take k [t1, t2]) : Int) ∧ (Ty.depths (List.take k [t1, t2]) : Int) ≤ dp - 1 ∧ Ty.forms (List.take k [t1, t2]) = true ∧ Room p (r - 1 - Ty.sizes (List.take k [t1, t2])) w wr ∧ w4.heap.size ≤ wr.heap.size ∧ (∀ b, b < w4.heap.size → b ≠ p → wr.heap[b]? = w4.heap[b]?)) (fun i _ => 2 - (intOf i).toNat)
      case atStart => exact ⟨0, by omega, rfl, by simp [Ty.sizes]; omega, by simp [Ty.depths]; omega, by simp [Ty.forms], by simpa [Ty.sizes] using R4.out, Nat.le_refl _, fun _ _ _ => rfl⟩
      case round =>
        obtain ⟨k, hk, rfl, hs, hds, hf, hroom, hz, hkeep⟩ := hrel
        have HS := Lib.hid hs
        have HD := Lib.hid hds
        have HF := Lib.hid hf
        have HR := Lib.hid hroom
        have HK := Lib.hid hkeep
        clear hs hds hf hroom hkeep
        by_cases hlt : k < 2
        · obtain ⟨x0, x1, hpb, hbl, hc0, hc1, ht⟩ := HROW.out k hlt
          obtain ⟨yk, ya, yn, yc, rfl, rfl⟩ := at_parts ht
          have x0 : wr.cell? ⟨bb, k * 2, none⟩ = some (.int .i64 yk) := by rw [World.cell?_of_block (HK.out bb hbl (by omega))]; exact hc0
          have x1 : wr.cell? ⟨bb, k * 2 + 1, none⟩ = some (.slice ya yn yc) := by rw [World.cell?_of_block (HK.out bb hbl (by omega))]; exact hc1
          have hpp := below_alloc wr (.cells #[.int .i64 yk, .slice ya yn yc] 31)
          have HTK := Lib.hid ht
          have HRP := Lib.hid (HR.out.below hp hpp)
          have HWP : Hid (Below w0.heap.size w0 (wr.alloc (.cells #[.int .i64 yk, .slice ya yn yc] 31))) := HW0.out.trans (HRP.out.2.2.1.mono hp0)
          have hg := Ty.size_get [t1, t2] k hlt
          have hzk : Ty.size ([t1, t2][k]'hlt) ≤ 1048577 := by have := HSZ.out; omega
          have hpk : p < (wr.alloc (.cells #[.int .i64 yk, .slice ya yn yc] 31)).heap.size := by simp; omega
          obtain ⟨rr, hrr⟩ : ∃ rr, rr = r - 1 - (Ty.sizes (List.take k [t1, t2]) : Int) := ⟨_, rfl⟩
          rw [← hrr] at HRP HS
          have HRR := Lib.hid hrr; clear hrr
          have g0 : 0 ≤ rr := HS.out
          have g1 : rr ≤ 1048576 := by have := HRR.out; omega
          have gd : 0 ≤ dp - 1 := by omega
          clear ht hc0 hc1 hpp hg
          go_wp2_with fail
          refine (IH.out _ _ p rr (dp - 1) _ HTK.out HWP.out hp0 hzk hpk g0 g1 gd (by omega) HRP.out.1 HRP.out.2.1).mono ?_
          rintro e w6 hend
          obtain ⟨r6, rfl, hr6, h1, h2, h3⟩ := hend.room
          have HR6 := Lib.hid (HRP.out.on hr6)
          have HK6 : Hid (∀ b, b < w4.heap.size → b ≠ p → w6.heap[b]? = w4.heap[b]?) := fun b hb1 hb2 => by
            rw [hr6.2.2.2 b (by simp; omega) hb2, heap_alloc_old _ _ (by omega)]
            exact HK.out b hb1 hb2
          have hz6 : w4.heap.size ≤ w6.heap.size := by have := hr6.2.2.1.size; simp at this; omega
          clear hend hr6
          cases hw : within ([t1, t2][k]'hlt) rr (dp - 1) with
          | true =>
            have h4 := h3 hw
            obtain ⟨u1, u2, u3⟩ := within_true hw
            subst h4
            have HU3 := Lib.hid u3
            have T1 := Lib.hid (Ty.sizes_take [t1, t2] k hlt)
            have T2 := Lib.hid (Ty.depths_take [t1, t2] k hlt)
            have T3 := Lib.hid (Ty.forms_take [t1, t2] k hlt)
            have HW := Lib.hid hw
            have U2 := Lib.hid u2
            have U1 := Lib.hid u1
            clear h1 h2 h3 u3 u2 u1 hw
            have eq1 : Hid (rr - ↑(Ty.size ([t1, t2][k]'hlt)) = r - 1 - ↑(Ty.sizes (List.take (k + 1) [t1, t2]))) := by rw [T1.out]; have := HRR.out; show _ = _; omega
            go_wp2_with fail
            exact ⟨⟨k + 1, by omega, by go_num, by rw [← eq1.out]; have := U1.out; omega, by rw [T2.out]; have := HD.out; have := U2.out; omega, by rw [T3.out, HF.out, HU3.out]; rfl, by rw [← eq1.out]; exact HR6.out, hz6, HK6.out⟩, by simp [intOf]; omega⟩
          | false =>
            have hfin := within_sub (kd := 5) (r := r) (dp := dp) hlt HRR.out hw
            have HFIN := Lib.hid hfin
            have hsz1 := Ty.sizes_take [t1, t2] k hlt
            have hsz2 := Ty.sizes_le [t1, t2] (k + 1)
            have hq := HRR.out
            have hlo : r - ↑(1 + Ty.sizes [t1, t2]) ≤ r6 := by omega
            have hhi : r6 ≤ r := by omega
            clear hfin hw hsz1 hsz2 hq h1 h2 h3
            go_wp2_with fail
            go_ret
            exact WithinEnd.of HFIN.out HR6.out (by rw [HSG.out]; exact hlo) hhi (fun h => by cases h)
        · obtain rfl : k = 2 := by omega
          have hfin : within (.node 5 [t1, t2]) r dp = true := by
            have h1 : 0 ≤ r - 1 - (Ty.sizes [t1, t2] : Int) := HS.out
            have h2 : (Ty.depths [t1, t2] : Int) ≤ dp - 1 := HD.out
            have h3 : Ty.forms [t1, t2] = true := HF.out
            have h4 := HKO.out
            exact within_mk (show ((1 + Ty.sizes [t1, t2] : Nat) : Int) ≤ r by omega) (show ((1 + Ty.depths [t1, t2] : Nat) : Int) ≤ dp by omega) (by simp only [Ty.form, h3, h4, Bool.and_self])
          have HFIN := Lib.hid hfin; clear hfin
          have h1 : 0 ≤ r - 1 - (Ty.sizes [t1, t2] : Int) := HS.out
          have hlo : r - ↑(1 + Ty.sizes [t1, t2]) ≤ r - 1 - ↑(Ty.sizes [t1, t2]) := by omega
          have HLO := Lib.hid hlo; clear hlo h1
          go_wp2_with fail
          go_ret
          exact WithinEnd.of (r' := r - 1 - ↑(Ty.sizes [t1, t2])) HFIN.out HR.out (by rw [HSG.out]; exact HLO.out) (by omega) (fun _ => by rw [HSG.out]; omega)
end Go.Proofs.YtdgfkmnnjhlpbaaDoor
/-
  Proved: impl.IsNote says whether a type's tree is a note; it leaves the memory that was there as it was.
-/
namespace Go.Proofs.YtdgfkmnnjhlpbaaDoor
open Go.RowKit

theorem within_note (t : Ty) : within t 15 5 = t.note := by
  have e1 : decide ((t.size : Int) ≤ 15) = decide (t.size ≤ 15) := decide_eq_decide.2 (by omega)
  have e2 : decide ((t.depth : Int) ≤ 5) = decide (t.depth ≤ 5) := decide_eq_decide.2 (by omega)
  unfold within Ty.note Ty.valid
  rw [e1, e2]
  by_cases h1 : t.size ≤ 15 <;> by_cases h2 : t.depth ≤ 5
  · have h3 : t.size ≤ 800 := by omega
    have h4 : t.depth ≤ 24 := by omega
    simp [h1, h2, h3, h4]
  · simp [h2]
  · simp [h1]
  · simp [h1]

set_option maxRecDepth 100000 in
set_option maxHeartbeats 1000000 in
theorem implNote (d : Nat) (v : Value) (t : Ty) (w : World) (h : TyAt w d v t) (hsz : t.size ≤ 1048577) :
    Calls Tryd.prog 104 #[v] w fun e w' => e = .returned (.bool t.note) ∧ Below w.heap.size w w' := by
  have HT := Lib.hid h
  obtain ⟨yk, ya, yn, yc, rfl⟩ := agg_parts h
  clear h
  have X : Hid (Below w.heap.size w ((w.alloc (.cells #[.int .i64 yk, .slice ya yn yc] 31)).alloc (.cells #[.int .i64 15] 3))) := ((Below.refl _ _).alloc (Nat.le_refl _) _).alloc (by simp) _
  go_enter Tryd.func104, Tryd.ntmps104
  go_wp2_with fail
  refine (implWithin w d _ t (w.heap.size + 1) 15 5 _ HT.out X.out (by omega) hsz (by simp) (by omega) (by omega) (by omega) (by omega) (by simp [go_sem]) (by simp [go_sem])).mono ?_
  intro e w' hend
  obtain ⟨r', rfl, hr, _⟩ := hend.room
  have HB := Lib.hid (X.out.trans (hr.2.2.1.mono (Nat.le_succ _)))
  clear hend hr
  go_wp2_with fail
  go_ret
  exact ⟨by rw [within_note]; rfl, HB.out⟩
end Go.Proofs.YtdgfkmnnjhlpbaaDoor
/-
  Proved: impl.EqualType says whether two trees are equal, and leaves the memory that was there as it was.
-/
namespace Go.Proofs.YtdgfkmnnjhlpbaaDoor
open Go.RowKit

set_option maxRecDepth 100000 in
set_option maxHeartbeats 2000000 in
theorem implEqual : ∀ (d : Nat) (v1 v2 : Value) (t1 t2 : Ty) (w : World), TyAt w d v1 t1 → TyAt w d v2 t2 →
    Calls Tryd.prog 105 #[v1, v2] w fun e w' => e = .returned (.bool (t1.beq t2)) ∧ Below w.heap.size w w'
  | 0, _, _, _, _, _, h, _ => h.elim
  | d + 1, v1, v2, .node k1 cs, .node k2 bs, w, h1, h2 => by
    have IH : Hid (∀ (v1 v2 : Value) (t1 t2 : Ty) (w : World), TyAt w d v1 t1 → TyAt w d v2 t2 → Calls Tryd.prog 105 #[v1, v2] w fun e w' => e = .returned (.bool (t1.beq t2)) ∧ Below w.heap.size w w') := implEqual d
    obtain ⟨s1, rfl, hk0, hk1, a1, cap1, rfl, hcap1, hm1, hat1⟩ := h1
    obtain ⟨s2, rfl, hk2, hk3, a2, cap2, rfl, hcap2, hm2, hat2⟩ := h2
    have HA1 := Lib.hid hat1; clear hat1
    have HA2 := Lib.hid hat2; clear hat2
    by_cases q1 : k1 = k2
    · subst q1
      by_cases q2 : bs.length = cs.length
      · have HFIN : Hid ((Ty.node k1 cs).beq (Ty.node k1 bs) = Ty.beqs cs bs) := by show _ = _; simp [Ty.beq]
        rw [q2]
        go_enter Tryd.func105, Tryd.ntmps105
        go_wp2_with fail
        go_loopw [23] (fun i wr => ∃ k : Nat, k ≤ cs.length ∧ i = .int .i64 k ∧ Ty.beqs (cs.take k) (bs.take k) = true ∧ Below (w.heap.size + 2) ((w.alloc (.cells #[.int .i64 k1, .slice a1 cs.length cap1] 31)).alloc (.cells #[.int .i64 k1, .slice a2 cs.length cap2] 31)) wr) (fun i _ => cs.length - (intOf i).toNat)
        case atStart => exact ⟨0, by omega, rfl, by simp [Ty.beqs], Below.refl _ _⟩
        case round =>
          obtain ⟨k, hk, rfl, hf, hb⟩ := hrel
          have HF := Lib.hid hf; clear hf
          have y1 := two_first hb 1
          have y2 := two_next hb 1
          have HB := Lib.hid (two_below hb)
          have HBX := Lib.hid hb; clear hb
          by_cases hlt : k < cs.length
          · have hlt2 : k < bs.length := by omega
            obtain ⟨b1, off1, x0, x1, rfl, hbl1, hc10, hc11, ht1⟩ := HA1.out k hlt
            obtain ⟨b2, off2, z0, z1, rfl, hbl2, hc20, hc21, ht2⟩ := HA2.out k hlt2
            have c10 : wr.cell? ⟨b1, off1 + k * 2, none⟩ = some x0 := by rw [HB.out.cell (p := ⟨b1, off1 + k * 2, none⟩) hbl1]; exact hc10
            have c11 : wr.cell? ⟨b1, off1 + k * 2 + 1, none⟩ = some x1 := by rw [HB.out.cell (p := ⟨b1, off1 + k * 2 + 1, none⟩) hbl1]; exact hc11
            have c20 : wr.cell? ⟨b2, off2 + k * 2, none⟩ = some z0 := by rw [HB.out.cell (p := ⟨b2, off2 + k * 2, none⟩) hbl2]; exact hc20
            have c21 : wr.cell? ⟨b2, off2 + k * 2 + 1, none⟩ = some z1 := by rw [HB.out.cell (p := ⟨b2, off2 + k * 2 + 1, none⟩) hbl2]; exact hc21
            have HT1 := Lib.hid (ht1.below HB.out.drew)
            have HT2 := Lib.hid (ht2.below HB.out.drew)
            clear ht1 ht2 hc10 hc11 hc20 hc21
            go_wp2_with fail
            go_still_tail 10, (by kernel_rfl)
            change wpList _ _ _ _ _ wr.drew
            go_wp2_with fail
            refine (IH.out _ _ _ _ wr.drew HT1.out HT2.out).mono ?_
            rintro e w' ⟨rfl, hb1⟩
            have HN := Lib.hid (two_on HBX.out.drew hb1); clear hb1
            have HTK := Lib.hid (Ty.beqs_take cs bs k hlt hlt2)
            cases hfk : cs[k].beq bs[k] with
            | true =>
              have HFK := Lib.hid hfk; clear hfk
              go_wp2_with fail
              exact ⟨⟨k + 1, by omega, by go_num, by rw [HTK.out, HF.out, HFK.out]; rfl, HN.out⟩, by simp [intOf]; omega⟩
            | false =>
              have HFK := Lib.hid hfk; clear hfk
              go_wp2_with fail
              go_ret
              have e : Ty.beqs cs bs = false := Ty.beqs_false cs bs (k + 1) (by rw [HTK.out, HF.out, HFK.out]; rfl) q2.symm
              exact ⟨by rw [HFIN.out, e]; rfl, two_below HN.out⟩
          · obtain rfl : k = cs.length := by omega
            have e : Hid (Ty.beqs cs bs = true) := by
              have := HF.out
              rw [List.take_length, ← q2, List.take_length] at this; exact this
            go_wp2_with fail
            go_ret
            exact ⟨by rw [HFIN.out, e.out]; rfl, HB.out⟩
      · have HFIN : Hid ((Ty.node k1 cs).beq (Ty.node k1 bs) = false) := by show _ = _; simp [Ty.beq, Ty.beqs_len cs bs (fun e => q2 e.symm)]
        have q3 : ¬ ((cs.length : Int) = (bs.length : Int)) := by omega
        go_enter Tryd.func105, Tryd.ntmps105
        go_wp2_with fail
        go_ret
        exact ⟨by rw [HFIN.out]; rfl, ((Below.refl _ _).alloc (Nat.le_refl _) _).alloc (by simp) _⟩
    · have HFIN : Hid ((Ty.node k1 cs).beq (Ty.node k2 bs) = false) := by show _ = _; simp [Ty.beq, q1]
      go_enter Tryd.func105, Tryd.ntmps105
      go_wp2_with fail
      go_ret
      exact ⟨by rw [HFIN.out]; rfl, ((Below.refl _ _).alloc (Nat.le_refl _) _).alloc (by simp) _⟩
end Go.Proofs.YtdgfkmnnjhlpbaaDoor
/-
  Proved: impl.IsAction says whether an action is valid; it leaves the memory that was there as it was.
-/
namespace Go.Proofs.YtdgfkmnnjhlpbaaDoor
open Go.RowKit

theorem nil_at (w : World) {d : Nat} {v : Value} {t : Ty} (h : TyAt w d v t) : TyAt w d (.agg #[.int .i64 0, .slice none 0 0]) (.node 0 []) := by
  cases d with
  | zero => exact h.elim
  | succ d => exact ⟨_, rfl, by omega, by omega, none, 0, rfl, Nat.le_refl _, by omega, fun j hj => by simp at hj⟩

set_option maxRecDepth 100000 in
set_option maxHeartbeats 4000000 in
theorem implAction (d : Nat) (v : Value) (t : Act) (w : World) (h : ActAt w d v t) (hn : t.bulk ≤ 1048576) :
    Calls Tryd.prog 56 #[v] w fun e w' => e = .returned (.bool t.okB) ∧ Below w.heap.size w w' := by
  cases t with
  | mk kd nm n ty =>
    obtain ⟨tk, ta, tn, tc, rfl, hk0, hk1, hn0, hn1, hnm, hty⟩ := h
    dsimp only at hk0 hk1 hn0 hn1 hnm hty ⊢
    have hsz : ty.size ≤ 1048577 := by have : (Act.mk kd nm n ty).bulk = nm.size + (ty.size - 1) := rfl; omega
    clear hn
    have HQ := Lib.hid (okB_of kd nm n ty)
    have HNL := Lib.hid (ty_isNil hty)
    have B : Hid (Below w.heap.size w (w.alloc (.cells #[.int .i64 kd, .string nm, .int .i64 n, .int .i64 tk, .slice ta tn tc] 33))) := below_alloc _ _
    have HTY := Lib.hid (hty.below B.out)
    have XA : Hid (BoxAt (w.alloc (.cells #[.int .i64 kd, .string nm, .int .i64 n, .int .i64 tk, .slice ta tn tc] 33)) w.heap.size #[.int .i64 kd, .string nm, .int .i64 n, .int .i64 tk, .slice ta tn tc]) := BoxAt.new _ _ _
    clear hty
    have CN : ∀ W, Calls Tryd.prog 57 #[.int .i64 kd] W fun e w' => e = .returned (.bool (actNamed kd)) ∧ w' = W := fun W => implNamed kd W
    have CT : ∀ W, Calls Tryd.prog 60 #[.int .i64 kd] W fun e w' => e = .returned (.bool (actTyped kd)) ∧ w' = W := fun W => implTyped kd W
    have CM : ∀ W, Calls Tryd.prog 102 #[.int .i64 kd] W fun e w' => e = .returned (.int .i64 (actMost kd)) ∧ w' = W := fun W => implMost kd W
    have CS : ∀ W, Calls Tryd.prog 103 #[.string nm] W fun e w' => e = .returned (.bool (nameB nm)) ∧ Below W.heap.size W w' := fun W => implName nm W hnm
    have HZN : Hid (nm.size = 0 → nameB nm = false) := fun h => name_none h
    generalize actNamed kd = bn at HQ CN
    generalize nameB nm = bb at HQ CS HZN
    generalize actTyped kd = bt at HQ CT
    generalize actMost kd = mo at HQ CM
    have HCN := Lib.hid CN
    have HCT := Lib.hid CT
    have HCM := Lib.hid CM
    have HCS := Lib.hid CS
    clear CN CT CM CS
    go_enter Tryd.func56, Tryd.ntmps56
    go_wp2_with fail
    by_cases q1 : kd < 1
    · have e1 : decide (kd < 1) = true := decide_eq_true q1
      have c0 := XA.out.2 0
      have c2 := XA.out.2 2
      go_quiet ((first
        | (go_at_call 102; exact Calls.quiet_of_same (HCM.out _))))
      go_wp2_with fail
      go_ret
      exact ⟨by rw [HQ.out]; rw [decide_eq_false (by omega : ¬ (1 ≤ kd))]; rfl, below_q B.out nq⟩
    · have e1 : decide (kd < 1) = false := decide_eq_false q1
      by_cases q2 : 20 < kd
      · have e2 : decide (20 < kd) = true := decide_eq_true q2
        have c0 := XA.out.2 0
        have c2 := XA.out.2 2
        go_quiet ((first
          | (go_at_call 102; exact Calls.quiet_of_same (HCM.out _))))
        go_wp2_with fail
        go_ret
        exact ⟨by rw [HQ.out]; rw [decide_eq_false (by omega : ¬ (kd ≤ 20))]; simp, below_q B.out nq⟩
      · have e2 : decide (20 < kd) = false := decide_eq_false q2
        by_cases q3 : n < 0
        · have e3 : decide (n < 0) = true := decide_eq_true q3
          have c0 := XA.out.2 0
          have c2 := XA.out.2 2
          go_quiet ((first
            | (go_at_call 102; exact Calls.quiet_of_same (HCM.out _))))
          go_wp2_with fail
          go_ret
          exact ⟨by rw [HQ.out]; rw [decide_eq_false (by omega : ¬ (0 ≤ n))]; simp, below_q B.out nq⟩
        · have e3 : decide (n < 0) = false := decide_eq_false q3
          by_cases q4 : mo < n
          · have e4 : decide (mo < n) = true := decide_eq_true q4
            have c0 := XA.out.2 0
            have c2 := XA.out.2 2
            go_quiet ((first
              | (go_at_call 102; exact Calls.quiet_of_same (HCM.out _))))
            go_wp2_with fail
            go_ret
            exact ⟨by rw [HQ.out]; rw [decide_eq_false (by omega : ¬ (n ≤ mo))]; simp, below_q B.out nq⟩
          · have e4 : decide (mo < n) = false := decide_eq_false q4
            have c0 := XA.out.2 0
            have c2 := XA.out.2 2
            go_quiet ((first
              | (go_at_call 102; exact Calls.quiet_of_same (HCM.out _))))
            replace q1 : 1 ≤ kd := by omega
            replace q2 : kd ≤ 20 := by omega
            replace q3 : 0 ≤ n := by omega
            replace q4 : n ≤ mo := by omega
            clear e1 e2 e3 e4
            have hb : Below (w.alloc (.cells #[.int .i64 kd, .string nm, .int .i64 n, .int .i64 tk, .slice ta tn tc] 33)).heap.size (w.alloc (.cells #[.int .i64 kd, .string nm, .int .i64 n, .int .i64 tk, .slice ta tn tc] 33)) ((w.alloc (.cells #[.int .i64 kd, .string nm, .int .i64 n, .int .i64 tk, .slice ta tn tc] 33)).drewN nq) := below_q (Below.refl _ _) nq
            replace B := Lib.hid (below_thru B.out (Nat.le_refl _) hb)
            replace HTY := Lib.hid (HTY.out.below hb)
            replace XA := Lib.hid (XA.out.below hb)
            clear hb
            generalize (w.alloc (.cells #[.int .i64 kd, .string nm, .int .i64 n, .int .i64 tk, .slice ta tn tc] 33)).drewN nq = wq at B HTY XA ⊢
            clear c0 c2
            go_wp2_with fail
            by_cases hz : nm.size = 0
            · have ez := text_none hz
              have hb0 := HZN.out hz
              subst hb0
              cases bn with
              | true =>
                have c0 := XA.out.2 0
                have c1 := XA.out.2 1
                go_quiet ((first
                  | (go_at_call 57; exact Calls.quiet_of_same (HCN.out _))))
                go_wp2_with fail
                go_ret
                exact ⟨by rw [HQ.out]; simp [hz], below_q B.out nq⟩
              | false =>
                have c0 := XA.out.2 0
                have c1 := XA.out.2 1
                go_quiet ((first
                  | (go_at_call 57; exact Calls.quiet_of_same (HCN.out _))))
                have hb : Below wq.heap.size wq (wq.drewN nq) := below_q (Below.refl _ _) nq
                replace B := Lib.hid (below_thru B.out (Nat.le_refl _) hb)
                replace HTY := Lib.hid (HTY.out.below hb)
                replace XA := Lib.hid (XA.out.below hb)
                clear hb
                clear c0 c1
                have c0 := XA.out.2 0
                go_wp2_with fail
                clear c0
                refine (HCT.out _).mono ?_
                rintro e w1 ⟨rfl, hw⟩
                subst hw
                cases bt with
                | true =>
                  have c3 := XA.out.2 3
                  have c4 := XA.out.2 4
                  go_wp2_with fail
                  clear c3 c4
                  refine (implNote d _ ty _ HTY.out hsz).mono ?_
                  rintro e w2 ⟨rfl, hb⟩
                  replace B := Lib.hid (below_thru B.out (Nat.le_refl _) hb)
                  replace HTY := Lib.hid (HTY.out.below hb)
                  replace XA := Lib.hid (XA.out.below hb)
                  clear hb
                  go_wp2_with fail
                  go_ret
                  exact ⟨by rw [HQ.out]; simp [q1, q2, q3, q4, hz], B.out⟩
                | false =>
                  have c3 := XA.out.2 3
                  have c4 := XA.out.2 4
                  go_wp2_with fail
                  clear c3 c4
                  refine (implEqual d _ _ ty (.node 0 []) _ HTY.out (nil_at _ HTY.out)).mono ?_
                  rintro e w2 ⟨rfl, hb⟩
                  replace B := Lib.hid (below_thru B.out (Nat.le_refl _) hb)
                  replace HTY := Lib.hid (HTY.out.below hb)
                  replace XA := Lib.hid (XA.out.below hb)
                  clear hb
                  go_wp2_with fail
                  go_ret
                  exact ⟨by rw [HQ.out]; rw [beq_nil]; cases hil : ty.isNil <;> simp [q1, q2, q3, q4, hz, note_nil, hil], B.out⟩
            · have ez := toList_some (s := nm) (by omega)
              cases bn with
              | false =>
                have c0 := XA.out.2 0
                have c1 := XA.out.2 1
                go_quiet ((first
                  | (go_at_call 57; exact Calls.quiet_of_same (HCN.out _))))
                go_wp2_with fail
                go_ret
                exact ⟨by rw [HQ.out]; simp [hz], below_q B.out nq⟩
              | true =>
                cases bb with
                | false =>
                  have hb := below_drew wq
                  replace B := Lib.hid (below_thru B.out (Nat.le_refl _) hb)
                  replace HTY := Lib.hid (HTY.out.below hb)
                  replace XA := Lib.hid (XA.out.below hb)
                  clear hb
                  first
                    | (go_region_held3 (fun w' => w'.cell? ⟨w.heap.size, 0, none⟩ = some (.int .i64 kd) ∧ w'.cell? ⟨w.heap.size, 1, none⟩ = some (.string nm)) (exact ⟨XA.out.2 0, XA.out.2 1⟩)
                       (first
                        | (go_at_call 57
                           refine (HCN.out _).mono ?_
                           rintro e w1 ⟨rfl, hw⟩
                           subst hw)
                        | (go_at_call 103
                           refine (HCS.out _).mono ?_
                           rintro e w1 ⟨rfl, hb⟩
                           replace B := Lib.hid (below_thru B.out (Nat.le_refl _) hb)
                           replace HTY := Lib.hid (HTY.out.below hb)
                           replace XA := Lib.hid (XA.out.below hb)
                           clear hb)))
                    | fail
                  go_wp2_with fail
                  go_ret
                  exact ⟨by rw [HQ.out]; simp, B.out⟩
                | true =>
                  have hb := below_drew wq
                  replace B := Lib.hid (below_thru B.out (Nat.le_refl _) hb)
                  replace HTY := Lib.hid (HTY.out.below hb)
                  replace XA := Lib.hid (XA.out.below hb)
                  clear hb
                  first
                    | (go_region_held3 (fun w' => w'.cell? ⟨w.heap.size, 0, none⟩ = some (.int .i64 kd) ∧ w'.cell? ⟨w.heap.size, 1, none⟩ = some (.string nm)) (exact ⟨XA.out.2 0, XA.out.2 1⟩)
                       (first
                        | (go_at_call 57
                           refine (HCN.out _).mono ?_
                           rintro e w1 ⟨rfl, hw⟩
                           subst hw)
                        | (go_at_call 103
                           refine (HCS.out _).mono ?_
                           rintro e w1 ⟨rfl, hb⟩
                           replace B := Lib.hid (below_thru B.out (Nat.le_refl _) hb)
                           replace HTY := Lib.hid (HTY.out.below hb)
                           replace XA := Lib.hid (XA.out.below hb)
                           clear hb)))
                    | fail
                  have c0 := XA.out.2 0
                  go_wp2_with fail
                  clear c0
                  refine (HCT.out _).mono ?_
                  rintro e w1 ⟨rfl, hw⟩
                  subst hw
                  cases bt with
                  | true =>
                    have c3 := XA.out.2 3
                    have c4 := XA.out.2 4
                    go_wp2_with fail
                    clear c3 c4
                    refine (implNote d _ ty _ HTY.out hsz).mono ?_
                    rintro e w2 ⟨rfl, hb⟩
                    replace B := Lib.hid (below_thru B.out (Nat.le_refl _) hb)
                    replace HTY := Lib.hid (HTY.out.below hb)
                    replace XA := Lib.hid (XA.out.below hb)
                    clear hb
                    go_wp2_with fail
                    go_ret
                    exact ⟨by rw [HQ.out]; simp [q1, q2, q3, q4], B.out⟩
                  | false =>
                    have c3 := XA.out.2 3
                    have c4 := XA.out.2 4
                    go_wp2_with fail
                    clear c3 c4
                    refine (implEqual d _ _ ty (.node 0 []) _ HTY.out (nil_at _ HTY.out)).mono ?_
                    rintro e w2 ⟨rfl, hb⟩
                    replace B := Lib.hid (below_thru B.out (Nat.le_refl _) hb)
                    replace HTY := Lib.hid (HTY.out.below hb)
                    replace XA := Lib.hid (XA.out.below hb)
                    clear hb
                    go_wp2_with fail
                    go_ret
                    exact ⟨by rw [HQ.out]; rw [beq_nil]; cases hil : ty.isNil <;> simp [q1, q2, q3, q4, note_nil, hil], B.out⟩
end Go.Proofs.YtdgfkmnnjhlpbaaDoor
/-
  Proved: what an assertion on one of the five nodes yields (closed facts on the program's tables).
-/
namespace Go.Proofs.YtdgfkmnnjhlpbaaDoor
open Go.RowKit

theorem as_unknown_unknown (w : World) : (Instr.typeAssert (.iface 137 (.agg #[])) 134 137 true).run Tryd.prog w = .ok (.tuple #[.agg #[], .bool true]) w := by kernel_rfl
theorem as_unknown_num (w : World) : (Instr.typeAssert (.iface 137 (.agg #[])) 134 138 true).run Tryd.prog w = .ok (.tuple #[.agg #[], .bool false]) w := by kernel_rfl
theorem as_unknown_bool (w : World) : (Instr.typeAssert (.iface 137 (.agg #[])) 134 139 true).run Tryd.prog w = .ok (.tuple #[.agg #[], .bool false]) w := by kernel_rfl
theorem as_unknown_arrow (w : World) : (Instr.typeAssert (.iface 137 (.agg #[])) 134 141 true).run Tryd.prog w = .ok (.tuple #[.agg #[.int .i64 0, .slice none 0 0, .int .i64 0, .slice none 0 0], .bool false]) w := by kernel_rfl
theorem as_unknown_pair (w : World) : (Instr.typeAssert (.iface 137 (.agg #[])) 134 143 true).run Tryd.prog w = .ok (.tuple #[.agg #[.int .i64 0, .slice none 0 0, .int .i64 0, .slice none 0 0], .bool false]) w := by kernel_rfl
theorem as_num_unknown (w : World) : (Instr.typeAssert (.iface 138 (.agg #[])) 134 137 true).run Tryd.prog w = .ok (.tuple #[.agg #[], .bool false]) w := by kernel_rfl
theorem as_num_num (w : World) : (Instr.typeAssert (.iface 138 (.agg #[])) 134 138 true).run Tryd.prog w = .ok (.tuple #[.agg #[], .bool true]) w := by kernel_rfl
theorem as_num_bool (w : World) : (Instr.typeAssert (.iface 138 (.agg #[])) 134 139 true).run Tryd.prog w = .ok (.tuple #[.agg #[], .bool false]) w := by kernel_rfl
theorem as_num_arrow (w : World) : (Instr.typeAssert (.iface 138 (.agg #[])) 134 141 true).run Tryd.prog w = .ok (.tuple #[.agg #[.int .i64 0, .slice none 0 0, .int .i64 0, .slice none 0 0], .bool false]) w := by kernel_rfl
theorem as_num_pair (w : World) : (Instr.typeAssert (.iface 138 (.agg #[])) 134 143 true).run Tryd.prog w = .ok (.tuple #[.agg #[.int .i64 0, .slice none 0 0, .int .i64 0, .slice none 0 0], .bool false]) w := by kernel_rfl
theorem as_bool_unknown (w : World) : (Instr.typeAssert (.iface 139 (.agg #[])) 134 137 true).run Tryd.prog w = .ok (.tuple #[.agg #[], .bool false]) w := by kernel_rfl
theorem as_bool_num (w : World) : (Instr.typeAssert (.iface 139 (.agg #[])) 134 138 true).run Tryd.prog w = .ok (.tuple #[.agg #[], .bool false]) w := by kernel_rfl
theorem as_bool_bool (w : World) : (Instr.typeAssert (.iface 139 (.agg #[])) 134 139 true).run Tryd.prog w = .ok (.tuple #[.agg #[], .bool true]) w := by kernel_rfl
theorem as_bool_arrow (w : World) : (Instr.typeAssert (.iface 139 (.agg #[])) 134 141 true).run Tryd.prog w = .ok (.tuple #[.agg #[.int .i64 0, .slice none 0 0, .int .i64 0, .slice none 0 0], .bool false]) w := by kernel_rfl
theorem as_bool_pair (w : World) : (Instr.typeAssert (.iface 139 (.agg #[])) 134 143 true).run Tryd.prog w = .ok (.tuple #[.agg #[.int .i64 0, .slice none 0 0, .int .i64 0, .slice none 0 0], .bool false]) w := by kernel_rfl
theorem as_arrow_unknown (a b c d : Value) (w : World) : (Instr.typeAssert (.iface 141 (.agg #[a, b, c, d])) 134 137 true).run Tryd.prog w = .ok (.tuple #[.agg #[], .bool false]) w := by kernel_rfl
theorem as_arrow_num (a b c d : Value) (w : World) : (Instr.typeAssert (.iface 141 (.agg #[a, b, c, d])) 134 138 true).run Tryd.prog w = .ok (.tuple #[.agg #[], .bool false]) w := by kernel_rfl
theorem as_arrow_bool (a b c d : Value) (w : World) : (Instr.typeAssert (.iface 141 (.agg #[a, b, c, d])) 134 139 true).run Tryd.prog w = .ok (.tuple #[.agg #[], .bool false]) w := by kernel_rfl
theorem as_arrow_arrow (a b c d : Value) (w : World) : (Instr.typeAssert (.iface 141 (.agg #[a, b, c, d])) 134 141 true).run Tryd.prog w = .ok (.tuple #[.agg #[a, b, c, d], .bool true]) w := by kernel_rfl
theorem as_arrow_pair (a b c d : Value) (w : World) : (Instr.typeAssert (.iface 141 (.agg #[a, b, c, d])) 134 143 true).run Tryd.prog w = .ok (.tuple #[.agg #[.int .i64 0, .slice none 0 0, .int .i64 0, .slice none 0 0], .bool false]) w := by kernel_rfl
theorem as_pair_unknown (a b c d : Value) (w : World) : (Instr.typeAssert (.iface 143 (.agg #[a, b, c, d])) 134 137 true).run Tryd.prog w = .ok (.tuple #[.agg #[], .bool false]) w := by kernel_rfl
theorem as_pair_num (a b c d : Value) (w : World) : (Instr.typeAssert (.iface 143 (.agg #[a, b, c, d])) 134 138 true).run Tryd.prog w = .ok (.tuple #[.agg #[], .bool false]) w := by kernel_rfl
theorem as_pair_bool (a b c d : Value) (w : World) : (Instr.typeAssert (.iface 143 (.agg #[a, b, c, d])) 134 139 true).run Tryd.prog w = .ok (.tuple #[.agg #[], .bool false]) w := by kernel_rfl
theorem as_pair_arrow (a b c d : Value) (w : World) : (Instr.typeAssert (.iface 143 (.agg #[a, b, c, d])) 134 141 true).run Tryd.prog w = .ok (.tuple #[.agg #[.int .i64 0, .slice none 0 0, .int .i64 0, .slice none 0 0], .bool false]) w := by kernel_rfl
theorem as_pair_pair (a b c d : Value) (w : World) : (Instr.typeAssert (.iface 143 (.agg #[a, b, c, d])) 134 143 true).run Tryd.prog w = .ok (.tuple #[.agg #[a, b, c, d], .bool true]) w := by kernel_rfl
end Go.Proofs.YtdgfkmnnjhlpbaaDoor
/-
  Proved: impl.IsValidType says whether a type's tree is a valid type; it leaves the memory that was there as it was.
-/
namespace Go.Proofs.YtdgfkmnnjhlpbaaDoor
open Go.RowKit

theorem within_valid (t : Ty) : within t 800 24 = t.valid := by
  have e1 : decide ((t.size : Int) ≤ 800) = decide (t.size ≤ 800) := decide_eq_decide.2 (by omega)
  have e2 : decide ((t.depth : Int) ≤ 24) = decide (t.depth ≤ 24) := decide_eq_decide.2 (by omega)
  unfold within Ty.valid
  rw [e1, e2]
set_option maxRecDepth 100000 in
set_option maxHeartbeats 1000000 in
theorem implValid (d : Nat) (v : Value) (t : Ty) (w : World) (h : TyAt w d v t) (hsz : t.size ≤ 1048577) :
    Calls Tryd.prog 79 #[v] w fun e w' => e = .returned (.bool t.valid) ∧ Below w.heap.size w w' := by
  have HT := Lib.hid h
  obtain ⟨yk, ya, yn, yc, rfl⟩ := agg_parts h
  clear h
  have X : Hid (Below w.heap.size w ((w.alloc (.cells #[.int .i64 yk, .slice ya yn yc] 31)).alloc (.cells #[.int .i64 800] 3))) := ((Below.refl _ _).alloc (Nat.le_refl _) _).alloc (by simp) _
  go_enter Tryd.func79, Tryd.ntmps79
  go_wp2_with fail
  refine (implWithin w d _ t (w.heap.size + 1) 800 24 _ HT.out X.out (by omega) hsz (by simp) (by omega) (by omega) (by omega) (by omega) (by simp [go_sem]) (by simp [go_sem])).mono ?_
  intro e w' hend
  obtain ⟨r', rfl, hr, _⟩ := hend.room
  have HB := Lib.hid (X.out.trans (hr.2.2.1.mono (Nat.le_succ _)))
  clear hend hr
  go_wp2_with fail
  go_ret
  exact ⟨by rw [within_valid]; rfl, HB.out⟩
end Go.Proofs.YtdgfkmnnjhlpbaaDoor
/-
  Proved: impl.typeText gives the text of a type's tree; the memory that was there stays as it was.
-/
namespace Go.Proofs.YtdgfkmnnjhlpbaaDoor
open Go.RowKit

set_option maxRecDepth 100000 in
set_option maxHeartbeats 4000000 in
theorem implText : ∀ (d : Nat) (v : Value) (t : Ty) (w : World), TyAt w d v t → t.form = true → t.size ≤ 1048577 →
    Calls Tryd.prog 107 #[v] w fun e w' => e = .returned (.string t.text) ∧ Below w.heap.size w w'
  | 0, _, _, _, h, _, _ => h.elim
  | d + 1, v, .node kd ts, w, h, hfm, hsz => by
    have IH : Hid (∀ (v : Value) (t : Ty) (w : World), TyAt w d v t → t.form = true → t.size ≤ 1048577 → Calls Tryd.prog 107 #[v] w fun e w' => e = .returned (.string t.text) ∧ Below w.heap.size w w') := implText d
    have HT := Lib.hid h
    obtain ⟨yk, ya, yn, yc, rfl⟩ := agg_parts h
    clear h
    have HF := Lib.hid hfm
    have hko : kindOk kd ts.length = true := by simp only [Ty.form, Bool.and_eq_true] at hfm; exact hfm.2
    have hlen : ts.length ≤ 1152921504606846976 := by
      have : ts.length = 0 ∨ ts.length = 2 := kind_len hko
      omega
    have HKO := Lib.hid hko
    clear hfm hko
    have B : Hid (Below w.heap.size w (w.alloc (.cells #[.int .i64 yk, .slice ya yn yc] 31))) := below_alloc _ _
    go_enter Tryd.func107, Tryd.ntmps107
    go_wp2_with fail
    refine (implNode w d _ kd ts _ HT.out B.out hlen).mono ?_
    rintro e w2 ⟨n, rfl, hnode, hb⟩
    replace B := Lib.hid (below_thru B.out (Nat.le_refl _) hb)
    have hz2 := B.out.size
    clear hb HT
    rcases hnode with ⟨h, _⟩ | ⟨_, rfl, ⟨rfl, rfl⟩ | ⟨rfl, rfl⟩ | ⟨rfl, rfl⟩⟩ | ⟨_, t1, t2, k1, s1, k2, s2, rfl, ht1, ht2, ⟨rfl, rfl⟩ | ⟨rfl, rfl⟩⟩
    · rw [HKO.out] at h; cases h
    · have as_unknown := as_unknown_unknown
      go_wp2_with fail
      go_ret
      exact ⟨rfl, (B.out.alloc (by omega) _)⟩
    · have as_unknown := as_num_unknown
      have as_num := as_num_num
      go_wp2_with fail
      go_ret
      exact ⟨rfl, (B.out.alloc (by omega) _)⟩
    · have as_unknown := as_bool_unknown
      have as_num := as_bool_num
      have as_bool := as_bool_bool
      go_wp2_with fail
      go_ret
      exact ⟨rfl, (B.out.alloc (by omega) _)⟩
    · obtain ⟨_, a1, n1, c1, _, rfl⟩ := at_parts ht1
      obtain ⟨_, a2, n2, c2, _, rfl⟩ := at_parts ht2
      have as_unknown := as_arrow_unknown (.int .i64 k1) (.slice a1 n1 c1) (.int .i64 k2) (.slice a2 n2 c2)
      have as_num := as_arrow_num (.int .i64 k1) (.slice a1 n1 c1) (.int .i64 k2) (.slice a2 n2 c2)
      have as_bool := as_arrow_bool (.int .i64 k1) (.slice a1 n1 c1) (.int .i64 k2) (.slice a2 n2 c2)
      have as_arrow := as_arrow_arrow (.int .i64 k1) (.slice a1 n1 c1) (.int .i64 k2) (.slice a2 n2 c2)
      have F1 := Lib.hid (form_two HF.out).1
      have F2 := Lib.hid (form_two HF.out).2
      have z1 := t1.text_size
      have z2 := t2.text_size
      simp only [Ty.size, Ty.sizes] at hsz
      have Z1 := Lib.hid (show t1.size ≤ 1048577 by omega)
      have Z2 := Lib.hid (show t2.size ≤ 1048577 by omega)
      have m1 : ¬ (9223372036854775807 < 1 + t1.text.size) := by omega
      have m2 : ¬ (9223372036854775807 < 1 + t1.text.size + 1) := by omega
      have m3 : ¬ (9223372036854775807 < 1 + t1.text.size + 1 + t2.text.size) := by omega
      have m4 : ¬ (9223372036854775807 < 1 + t1.text.size + 1 + t2.text.size + 1) := by omega
      clear hsz z1 z2
      have hb := below_alloc w2 (.cells #[.int .i64 k1, .slice a1 n1 c1, .int .i64 k2, .slice a2 n2 c2] 141)
      have H1 := Lib.hid (ht1.below (below_thru B.out (Nat.le_refl _) hb))
      have H2 := Lib.hid (ht2.below (below_thru B.out (Nat.le_refl _) hb))
      replace B := Lib.hid (below_thru B.out (Nat.le_refl _) hb)
      have XN : Hid (BoxAt (w2.alloc (.cells #[.int .i64 k1, .slice a1 n1 c1, .int .i64 k2, .slice a2 n2 c2] 141)) w2.heap.size #[.int .i64 k1, .slice a1 n1 c1, .int .i64 k2, .slice a2 n2 c2]) := BoxAt.new _ _ _
      clear hb ht1 ht2
      go_wp2_with fail
      have hb := below_drew (w2.alloc (.cells #[.int .i64 k1, .slice a1 n1 c1, .int .i64 k2, .slice a2 n2 c2] 141))
      replace B := Lib.hid (below_thru B.out (Nat.le_refl _) hb)
      replace H1 := Lib.hid (H1.out.below hb)
      replace H2 := Lib.hid (H2.out.below hb)
      replace XN := Lib.hid (XN.out.below hb)
      clear hb
      go_region_held3 (fun w' => w'.cell? ⟨w2.heap.size, 0, none⟩ = some (.int .i64 k1) ∧ w'.cell? ⟨w2.heap.size, 1, none⟩ = some (.slice a1 n1 c1) ∧ w'.cell? ⟨w2.heap.size, 2, none⟩ = some (.int .i64 k2) ∧ w'.cell? ⟨w2.heap.size, 3, none⟩ = some (.slice a2 n2 c2)) (exact ⟨XN.out.2 0, XN.out.2 1, XN.out.2 2, XN.out.2 3⟩)
        (first
         | (go_at_call_of 107 (Value.agg #[Value.int IntKind.i64 k1, Value.slice a1 n1 c1])
            refine (IH.out _ t1 _ H1.out F1.out Z1.out).mono ?_
            rintro e w3 ⟨rfl, hb⟩
            replace B := Lib.hid (below_thru B.out (Nat.le_refl _) hb)
            replace H1 := Lib.hid (H1.out.below hb)
            replace H2 := Lib.hid (H2.out.below hb)
            replace XN := Lib.hid (XN.out.below hb)
            clear hb)
         | (go_at_call_of 107 (Value.agg #[Value.int IntKind.i64 k2, Value.slice a2 n2 c2])
            refine (IH.out _ t2 _ H2.out F2.out Z2.out).mono ?_
            rintro e w4 ⟨rfl, hb⟩
            replace B := Lib.hid (below_thru B.out (Nat.le_refl _) hb)
            replace H1 := Lib.hid (H1.out.below hb)
            replace H2 := Lib.hid (H2.out.below hb)
            replace XN := Lib.hid (XN.out.below hb)
            clear hb))
      go_wp2_with fail
      go_ret
      exact ⟨by rw [Ty.text_arrow]; rfl, B.out⟩
    · obtain ⟨_, a1, n1, c1, _, rfl⟩ := at_parts ht1
      obtain ⟨_, a2, n2, c2, _, rfl⟩ := at_parts ht2
      have as_unknown := as_pair_unknown (.int .i64 k1) (.slice a1 n1 c1) (.int .i64 k2) (.slice a2 n2 c2)
      have as_num := as_pair_num (.int .i64 k1) (.slice a1 n1 c1) (.int .i64 k2) (.slice a2 n2 c2)
      have as_bool := as_pair_bool (.int .i64 k1) (.slice a1 n1 c1) (.int .i64 k2) (.slice a2 n2 c2)
      have as_arrow := as_pair_arrow (.int .i64 k1) (.slice a1 n1 c1) (.int .i64 k2) (.slice a2 n2 c2)
      have as_pair := as_pair_pair (.int .i64 k1) (.slice a1 n1 c1) (.int .i64 k2) (.slice a2 n2 c2)
      have F1 := Lib.hid (form_two HF.out).1
      have F2 := Lib.hid (form_two HF.out).2
      have z1 := t1.text_size
      have z2 := t2.text_size
      simp only [Ty.size, Ty.sizes] at hsz
      have Z1 := Lib.hid (show t1.size ≤ 1048577 by omega)
      have Z2 := Lib.hid (show t2.size ≤ 1048577 by omega)
      have m1 : ¬ (9223372036854775807 < 1 + t1.text.size) := by omega
      have m2 : ¬ (9223372036854775807 < 1 + t1.text.size + 1) := by omega
      have m3 : ¬ (9223372036854775807 < 1 + t1.text.size + 1 + t2.text.size) := by omega
      have m4 : ¬ (9223372036854775807 < 1 + t1.text.size + 1 + t2.text.size + 1) := by omega
      clear hsz z1 z2
      have hb := below_alloc w2 (.cells #[.int .i64 k1, .slice a1 n1 c1, .int .i64 k2, .slice a2 n2 c2] 143)
      have H1 := Lib.hid (ht1.below (below_thru B.out (Nat.le_refl _) hb))
      have H2 := Lib.hid (ht2.below (below_thru B.out (Nat.le_refl _) hb))
      replace B := Lib.hid (below_thru B.out (Nat.le_refl _) hb)
      have XN : Hid (BoxAt (w2.alloc (.cells #[.int .i64 k1, .slice a1 n1 c1, .int .i64 k2, .slice a2 n2 c2] 143)) w2.heap.size #[.int .i64 k1, .slice a1 n1 c1, .int .i64 k2, .slice a2 n2 c2]) := BoxAt.new _ _ _
      clear hb ht1 ht2
      go_wp2_with fail
      have hb := below_drew (w2.alloc (.cells #[.int .i64 k1, .slice a1 n1 c1, .int .i64 k2, .slice a2 n2 c2] 143))
      replace B := Lib.hid (below_thru B.out (Nat.le_refl _) hb)
      replace H1 := Lib.hid (H1.out.below hb)
      replace H2 := Lib.hid (H2.out.below hb)
      replace XN := Lib.hid (XN.out.below hb)
      clear hb
      go_region_held3 (fun w' => w'.cell? ⟨w2.heap.size, 0, none⟩ = some (.int .i64 k1) ∧ w'.cell? ⟨w2.heap.size, 1, none⟩ = some (.slice a1 n1 c1) ∧ w'.cell? ⟨w2.heap.size, 2, none⟩ = some (.int .i64 k2) ∧ w'.cell? ⟨w2.heap.size, 3, none⟩ = some (.slice a2 n2 c2)) (exact ⟨XN.out.2 0, XN.out.2 1, XN.out.2 2, XN.out.2 3⟩)
        (first
         | (go_at_call_of 107 (Value.agg #[Value.int IntKind.i64 k1, Value.slice a1 n1 c1])
            refine (IH.out _ t1 _ H1.out F1.out Z1.out).mono ?_
            rintro e w3 ⟨rfl, hb⟩
            replace B := Lib.hid (below_thru B.out (Nat.le_refl _) hb)
            replace H1 := Lib.hid (H1.out.below hb)
            replace H2 := Lib.hid (H2.out.below hb)
            replace XN := Lib.hid (XN.out.below hb)
            clear hb)
         | (go_at_call_of 107 (Value.agg #[Value.int IntKind.i64 k2, Value.slice a2 n2 c2])
            refine (IH.out _ t2 _ H2.out F2.out Z2.out).mono ?_
            rintro e w4 ⟨rfl, hb⟩
            replace B := Lib.hid (below_thru B.out (Nat.le_refl _) hb)
            replace H1 := Lib.hid (H1.out.below hb)
            replace H2 := Lib.hid (H2.out.below hb)
            replace XN := Lib.hid (XN.out.below hb)
            clear hb))
      go_wp2_with fail
      go_ret
      exact ⟨by rw [Ty.text_pair]; rfl, B.out⟩
end Go.Proofs.YtdgfkmnnjhlpbaaDoor
/-
  Proved: impl.FormatType gives the text of a valid type, the empty text for others; the memory that was there stays as it was.
-/
namespace Go.Proofs.YtdgfkmnnjhlpbaaDoor
open Go.RowKit

set_option maxRecDepth 100000 in
set_option maxHeartbeats 1000000 in
theorem implFormatType (d : Nat) (v : Value) (t : Ty) (w : World) (h : TyAt w d v t) (hsz : t.size ≤ 1048577) :
    Calls Tryd.prog 61 #[v] w fun e w' => e = .returned (.string (formatText t)) ∧ Below w.heap.size w w' := by
  have HT := Lib.hid h
  obtain ⟨yk, ya, yn, yc, rfl⟩ := agg_parts h
  clear h
  have B : Hid (Below w.heap.size w (w.alloc (.cells #[.int .i64 yk, .slice ya yn yc] 31))) := below_alloc _ _
  have HA := Lib.hid (HT.out.below B.out)
  have XA : Hid (BoxAt (w.alloc (.cells #[.int .i64 yk, .slice ya yn yc] 31)) w.heap.size #[.int .i64 yk, .slice ya yn yc]) := BoxAt.new _ _ _
  clear HT
  go_enter Tryd.func61, Tryd.ntmps61
  go_wp2_with fail
  refine (implValid d _ t _ HA.out hsz).mono ?_
  rintro e w1 ⟨rfl, hb⟩
  replace B := Lib.hid (below_thru B.out (Nat.le_refl _) hb)
  replace HA := Lib.hid (HA.out.below hb)
  replace XA := Lib.hid (XA.out.below hb)
  clear hb
  cases hv : t.valid with
  | false =>
    have HV := Lib.hid hv; clear hv
    go_wp2_with fail
    go_ret
    exact ⟨by rw [format_bad HV.out]; rfl, B.out⟩
  | true =>
    have HV := Lib.hid hv
    have hfm : t.form = true := by simp only [Ty.valid, Bool.and_eq_true] at hv; exact hv.2
    clear hv
    have a0 := XA.out.2 0
    have a1 := XA.out.2 1
    go_wp2_with fail
    refine (implText d _ t _ HA.out hfm hsz).mono ?_
    rintro e w2 ⟨rfl, hb⟩
    have B2 := Lib.hid (below_thru B.out (Nat.le_refl _) hb)
    clear hb hfm
    go_wp2_with fail
    go_ret
    exact ⟨by rw [format_good HV.out]; rfl, B2.out⟩
end Go.Proofs.YtdgfkmnnjhlpbaaDoor
/-
  Proved: impl.FormatAction gives the text of a valid action, the empty text for others; the memory that was there stays as it was.
-/
namespace Go.Proofs.YtdgfkmnnjhlpbaaDoor
open Go.RowKit

set_option maxRecDepth 100000 in
theorem implHasNum (k : Int) (w : World) : Calls Tryd.prog 58 #[.int .i64 k] w fun e w' => e = .returned (.bool (decide (0 < actMost k))) ∧ w' = w := by
  go_enter Tryd.func58, Tryd.ntmps58
  go_wp2_with fail
  refine (implMost k _).mono ?_
  rintro e w1 ⟨rfl, rfl⟩
  go_wp2_with fail
  go_ret
  exact ⟨rfl, rfl⟩
set_option maxRecDepth 100000 in
set_option maxHeartbeats 4000000 in
theorem implActText (d : Nat) (v : Value) (t : Act) (w : World) (h : ActAt w d v t) (hn : t.bulk ≤ 1048576) (hw : WordsAt w) (hp : Pow10At w) :
    Calls Tryd.prog 14 #[v] w fun e w' => e = .returned (.string t.text) ∧ Below w.heap.size w w' := by
  cases t with
  | mk kd nm n ty =>
    have HIN := Lib.hid h
    have HBK := Lib.hid hn
    obtain ⟨tk, ta, tn, tc, rfl, hk0, hk1, hn0, hn1, hnm, hty⟩ := h
    dsimp only at hk0 hk1 hn0 hn1 hnm hty ⊢
    have hbk : (Act.mk kd nm n ty).bulk = nm.size + (ty.size - 1) := rfl
    have hsz : ty.size ≤ 1048577 := by omega
    have hns : nm.size ≤ 1048576 := by omega
    clear hn hbk
    have B : Hid (Below w.heap.size w (w.alloc (.cells #[.int .i64 kd, .string nm, .int .i64 n, .int .i64 tk, .slice ta tn tc] 33))) := below_alloc _ _
    have HA := Lib.hid (HIN.out.below B.out)
    have HTY := Lib.hid (hty.below B.out)
    have XA : Hid (BoxAt (w.alloc (.cells #[.int .i64 kd, .string nm, .int .i64 n, .int .i64 tk, .slice ta tn tc] 33)) w.heap.size #[.int .i64 kd, .string nm, .int .i64 n, .int .i64 tk, .slice ta tn tc]) := BoxAt.new _ _ _
    have HPW := Lib.hid (hp.below B.out)
    have HWT := Lib.hid (hw.below B.out)
    clear hp hw
    clear hty HIN
    go_enter Tryd.func14, Tryd.ntmps14
    go_wp2_with fail
    refine (implAction d _ (Act.mk kd nm n ty) _ HA.out HBK.out).mono ?_
    rintro e w1 ⟨rfl, hb⟩
    replace B := Lib.hid (below_thru B.out (Nat.le_refl _) hb)
    replace HA := Lib.hid (HA.out.below hb)
    replace HTY := Lib.hid (HTY.out.below hb)
    replace XA := Lib.hid (XA.out.below hb)
    replace HPW := Lib.hid (HPW.out.below hb)
    replace HWT := Lib.hid (HWT.out.below hb)
    clear hb
    cases hv : (Act.mk kd nm n ty).okB with
    | false =>
      have HV := Lib.hid (act_bad hv); clear hv
      go_wp2_with fail
      go_ret
      exact ⟨by rw [HV.out]; rfl, B.out⟩
    | true =>
      have hrg := act_range hv
      have HV := Lib.hid (act_good hv); clear hv
      dsimp only at hrg
      obtain ⟨kn, rfl⟩ : ∃ kn : Nat, kd = (kn : Int) := ⟨kd.toNat, by omega⟩
      have hr1 : 1 ≤ kn := by omega
      have hr2 : kn ≤ 20 := by omega
      clear hrg
      have hws := actWord_size kn
      have hts := formatText_size ty
      have hfs : (ByteArray.mk (Lib.itoa n).toArray).size ≤ 21 := itoa_size n hn0 hn1
      have CN : ∀ W, Calls Tryd.prog 57 #[.int .i64 kn] W fun e w' => e = .returned (.bool (actNamed kn)) ∧ w' = W := fun W => implNamed kn W
      have CT : ∀ W, Calls Tryd.prog 60 #[.int .i64 kn] W fun e w' => e = .returned (.bool (actTyped kn)) ∧ w' = W := fun W => implTyped kn W
      have CM : ∀ W, Calls Tryd.prog 58 #[.int .i64 kn] W fun e w' => e = .returned (.bool (decide (0 < actMost kn))) ∧ w' = W := fun W => implHasNum kn W
      have CI : ∀ W (_ : Pow10At W), Calls Tryd.prog 59 #[.int .i64 n] W fun e w' => e = .returned (.string ⟨(Lib.itoa n).toArray⟩) ∧ Below W.heap.size W w' := fun W hp => implFormat n hn0 hn1 W hp
      have CF : ∀ (W : World) (v : Value) (_ : TyAt W d v ty), Calls Tryd.prog 61 #[v] W fun e w' => e = .returned (.string (formatText ty)) ∧ Below W.heap.size W w' := fun W v h => implFormatType d v ty W h hsz
      have cw := HWT.out.2 kn hr1 hr2
      rw [show (Act.mk (kn : Int) nm n ty).kind.toNat = kn from rfl] at HV
      have HVV : Hid ((Act.mk (kn : Int) nm n ty).text = actSay (actWord kn) nm ⟨(Lib.itoa n).toArray⟩ (formatText ty) (actNamed (kn : Int)) (decide (0 < actMost (kn : Int))) (actTyped (kn : Int))) := HV.out
      clear HV
      generalize decide (0 < actMost (kn : Int)) = bm at HVV CM
      generalize actNamed (kn : Int) = bn at HVV CN
      generalize actTyped (kn : Int) = bt at HVV CT
      generalize actWord kn = wd at HVV cw hws
      generalize (ByteArray.mk (Lib.itoa n).toArray) = fs at HVV CI hfs
      generalize formatText ty = ts at HVV CF hts
      have HCN := Lib.hid CN
      have HCT := Lib.hid CT
      have HCM := Lib.hid CM
      have HCI := Lib.hid CI
      have HCF := Lib.hid CF
      clear CN CT CM CI CF
      have m0 : ¬ (9223372036854775807 < 1 + nm.size) := by omega
      have m1 : ¬ (9223372036854775807 < 1 + fs.size) := by omega
      have m2 : ¬ (9223372036854775807 < 1 + ts.size) := by omega
      have s0 : ¬ (9223372036854775807 < wd.size + (1 + nm.size)) := by omega
      have s1 : ¬ (9223372036854775807 < wd.size + (1 + fs.size)) := by omega
      have s2 : ¬ (9223372036854775807 < wd.size + (1 + ts.size)) := by omega
      have s3 : ¬ (9223372036854775807 < wd.size + (1 + nm.size) + (1 + fs.size)) := by omega
      have s4 : ¬ (9223372036854775807 < wd.size + (1 + nm.size) + (1 + ts.size)) := by omega
      have s5 : ¬ (9223372036854775807 < wd.size + (1 + fs.size) + (1 + ts.size)) := by omega
      have s6 : ¬ (9223372036854775807 < wd.size + (1 + nm.size) + (1 + fs.size) + (1 + ts.size)) := by omega
      clear hws hts hfs hns hsz
      have c0 := XA.out.2 0
      have c1 := XA.out.2 1
      have c2 := XA.out.2 2
      have c3 := XA.out.2 3
      have c4 := XA.out.2 4
      go_wp2_with fail
      refine (HCN.out _).mono ?_
      rintro e w' ⟨rfl, rfl⟩
      cases bn with
      | false =>
        go_wp2_with fail
        refine (HCM.out _).mono ?_
        rintro e w' ⟨rfl, rfl⟩
        cases bm with
        | false =>
          go_wp2_with fail
          refine (HCT.out _).mono ?_
          rintro e w' ⟨rfl, rfl⟩
          cases bt with
          | false =>
            go_wp2_with fail
            go_ret
            exact ⟨by rw [HVV.out]; rfl, B.out⟩
          | true =>
            go_wp2_with fail
            refine (HCF.out _ _ HTY.out).mono ?_
            rintro e w5 ⟨rfl, hb⟩
            replace B := Lib.hid (below_thru B.out (Nat.le_refl _) hb)
            replace XA := Lib.hid (XA.out.below hb)
            clear hb
            go_wp2_with fail
            go_ret
            exact ⟨by rw [HVV.out]; rfl, B.out⟩
        | true =>
          go_wp2_with fail
          refine (HCI.out _ HPW.out).mono ?_
          clear c0 c1 c2 c3 c4
          rintro e w4 ⟨rfl, hb⟩
          replace B := Lib.hid (below_thru B.out (Nat.le_refl _) hb)
          replace HTY := Lib.hid (HTY.out.below hb)
          replace XA := Lib.hid (XA.out.below hb)
          replace HPW := Lib.hid (HPW.out.below hb)
          clear hb
          have c0 := XA.out.2 0
          have c1 := XA.out.2 1
          have c2 := XA.out.2 2
          have c3 := XA.out.2 3
          have c4 := XA.out.2 4
          go_wp2_with fail
          refine (HCT.out _).mono ?_
          rintro e w' ⟨rfl, rfl⟩
          cases bt with
          | false =>
            go_wp2_with fail
            go_ret
            exact ⟨by rw [HVV.out]; rfl, B.out⟩
          | true =>
            go_wp2_with fail
            refine (HCF.out _ _ HTY.out).mono ?_
            rintro e w5 ⟨rfl, hb⟩
            replace B := Lib.hid (below_thru B.out (Nat.le_refl _) hb)
            replace XA := Lib.hid (XA.out.below hb)
            clear hb
            go_wp2_with fail
            go_ret
            exact ⟨by rw [HVV.out]; rfl, B.out⟩
      | true =>
        go_wp2_with fail
        refine (HCM.out _).mono ?_
        rintro e w' ⟨rfl, rfl⟩
        cases bm with
        | false =>
          go_wp2_with fail
          refine (HCT.out _).mono ?_
          rintro e w' ⟨rfl, rfl⟩
          cases bt with
          | false =>
            go_wp2_with fail
            go_ret
            exact ⟨by rw [HVV.out]; rfl, B.out⟩
          | true =>
            go_wp2_with fail
            refine (HCF.out _ _ HTY.out).mono ?_
            rintro e w5 ⟨rfl, hb⟩
            replace B := Lib.hid (below_thru B.out (Nat.le_refl _) hb)
            replace XA := Lib.hid (XA.out.below hb)
            clear hb
            go_wp2_with fail
            go_ret
            exact ⟨by rw [HVV.out]; rfl, B.out⟩
        | true =>
          go_wp2_with fail
          refine (HCI.out _ HPW.out).mono ?_
          clear c0 c1 c2 c3 c4
          rintro e w4 ⟨rfl, hb⟩
          replace B := Lib.hid (below_thru B.out (Nat.le_refl _) hb)
          replace HTY := Lib.hid (HTY.out.below hb)
          replace XA := Lib.hid (XA.out.below hb)
          replace HPW := Lib.hid (HPW.out.below hb)
          clear hb
          have c0 := XA.out.2 0
          have c1 := XA.out.2 1
          have c2 := XA.out.2 2
          have c3 := XA.out.2 3
          have c4 := XA.out.2 4
          go_wp2_with fail
          refine (HCT.out _).mono ?_
          rintro e w' ⟨rfl, rfl⟩
          cases bt with
          | false =>
            go_wp2_with fail
            go_ret
            exact ⟨by rw [HVV.out]; rfl, B.out⟩
          | true =>
            go_wp2_with fail
            refine (HCF.out _ _ HTY.out).mono ?_
            rintro e w5 ⟨rfl, hb⟩
            replace B := Lib.hid (below_thru B.out (Nat.le_refl _) hb)
            replace XA := Lib.hid (XA.out.below hb)
            clear hb
            go_wp2_with fail
            go_ret
            exact ⟨by rw [HVV.out]; rfl, B.out⟩
end Go.Proofs.YtdgfkmnnjhlpbaaDoor
/-
  Proved: impl.FormatActions gives the texts of the actions with semicolons between them; the memory that was there stays as it was.
-/
namespace Go.Proofs.YtdgfkmnnjhlpbaaDoor
open Go.RowKit

set_option maxRecDepth 100000 in
set_option maxHeartbeats 4000000 in
theorem implActsText (d : Nat) (v : Value) (l : List Act) (w : World) (h : ActsAt w d v l) (hsz : Act.bulks l ≤ 1048576) (htab : ActTabs w) :
    Calls Tryd.prog 19 #[v] w fun e w' => e = .returned (.string (actsText l)) ∧ Below w.heap.size w w' := by
  obtain ⟨i0, hi, hz0, hz1, hz2⟩ := info_parts info_str
  have HI := Lib.hid hi; clear hi
  have HZ0 := Lib.hid hz0; clear hz0
  have HZ1 := Lib.hid hz1; clear hz1
  have HZ2 := Lib.hid hz2; clear hz2
  have HRG := Lib.hid (acts_ranged h)
  have HSZ := Lib.hid hsz
  have hlen : l.length ≤ 1048576 := by have := Act.length_le l; omega
  obtain ⟨a, cap, rfl, hcap, hcap2, hat⟩ := h
  have HAT := Lib.hid hat; clear hat hsz
  have HTL : Hid ((actTexts l).length = l.length) := actTexts_length l
  have HTOT : Hid (total (actTexts l) ≤ 65011712) := by show _ ≤ _; have h1 := actTexts_size l HRG.out; have h2 := HSZ.out; omega
  have HTB := Lib.hid htab; clear htab
  go_enter Tryd.func19, Tryd.ntmps19
  go_wp2_with (at_make; refine wpList_make_full _ rfl _ _ 80 rfl w.heap.size 9 i0 (.string ⟨#[]⟩) 1 Tryd.underlying80 HI.out HZ0.out HZ1.out .i64 .i64 _ _ l.length rfl rfl rfl rfl (by rw [HZ2.out]; omega) (by unfold maxLen; omega) (Nat.le_refl _) ?_; intro w0 hown0 hg0; refine Hid.out ?_)
  refine Lib.hid ?_
  have hb0 : Below w.heap.size w w0 := (Below.refl _ w).grown hg0 (Nat.le_refl _) (fun k hk => by cases hk)
  have hown1 : w0.ownsRow w.heap.size 9 1 (.slice (some ⟨w.heap.size, 0, none⟩) l.length l.length) l.length (((actTexts l).take 0).map Value.string ++ List.replicate ((actTexts l).length - 0) (Value.string ⟨#[]⟩)) := by
    have : (madeCells (Value.string ⟨#[]⟩).cells (l.length * 1)).toList = List.replicate l.length (Value.string ⟨#[]⟩) := by rw [Nat.mul_one]; exact toList_madeCells_one _ _
    rw [this] at hown0; rw [HTL.out]; simpa using hown0
  have HO := Lib.hid hown1; clear hown1 hown0 hg0
  have HB := Lib.hid hb0; clear hb0
  go_wp2_with fail
  go_loopw [11] (fun i wr => ∃ k : Nat, k ≤ l.length ∧ i = .int .i64 k ∧ wr.ownsRow w.heap.size 9 1 (.slice (some ⟨w.heap.size, 0, none⟩) l.length l.length) l.length (((actTexts l).take k).map Value.string ++ List.replicate ((actTexts l).length - k) (Value.string ⟨#[]⟩)) ∧ Below w.heap.size w wr) (fun i _ => l.length - (intOf i).toNat)
  case atStart => exact ⟨0, by omega, rfl, HO.out, HB.out⟩
  case round =>
    obtain ⟨k, hk, rfl, hown, hb⟩ := hrel
    have HO2 := Lib.hid hown; clear hown
    have HB2 := Lib.hid hb; clear hb
    by_cases hlt : k < l.length
    · obtain ⟨b, off, x0, x1, x2, x3, x4, rfl, hbl, hc0, hc1, hc2, hc3, hc4, ht⟩ := HAT.out k hlt
      have hg := Act.bulk_get l k hlt
      have hxb : l[k].bulk ≤ 1048576 := by have := HSZ.out; omega
      obtain ⟨yk, ynm, yn, ytk, yta, ytn, ytc, hv⟩ := act_parts ht
      injection hv with hv
      injection hv with hv
      simp only [List.cons.injEq, and_true] at hv
      obtain ⟨rfl, rfl, rfl, rfl, rfl⟩ := hv
      have HTE := Lib.hid (ht.below HB2.out)
      have e0 : wr.cell? ⟨b, off + k * 5, none⟩ = some (.int .i64 yk) := (HB2.out.cell (p := ⟨b, off + k * 5, none⟩) hbl).trans hc0
      have e1 : wr.cell? ⟨b, off + k * 5 + 1, none⟩ = some (.string ynm) := (HB2.out.cell (p := ⟨b, off + k * 5 + 1, none⟩) hbl).trans hc1
      have e2 : wr.cell? ⟨b, off + k * 5 + 2, none⟩ = some (.int .i64 yn) := (HB2.out.cell (p := ⟨b, off + k * 5 + 2, none⟩) hbl).trans hc2
      have e3 : wr.cell? ⟨b, off + k * 5 + 3, none⟩ = some (.int .i64 ytk) := (HB2.out.cell (p := ⟨b, off + k * 5 + 3, none⟩) hbl).trans hc3
      have e4 : wr.cell? ⟨b, off + k * 5 + 4, none⟩ = some (.slice yta ytn ytc) := (HB2.out.cell (p := ⟨b, off + k * 5 + 4, none⟩) hbl).trans hc4
      clear ht hc0 hc1 hc2 hc3 hc4 hg
      have hlt2 : k < (actTexts l).length := by rw [HTL.out]; exact hlt
      have HTW := Lib.hid (HTB.out.below HB2.out)
      have hp1 := below_alloc wr (.cells #[.int .i64 yk, .string ynm, .int .i64 yn, .int .i64 ytk, .slice yta ytn ytc] 33)
      replace HTE := Lib.hid (HTE.out.below hp1)
      replace HB2 := Lib.hid (below_thru HB2.out (Nat.le_refl _) hp1)
      replace HO2 := Lib.hid (own_below HO2.out hp1)
      replace HTW := Lib.hid (HTW.out.below hp1)
      clear hp1
      go_wp2_with fail
      refine (implActText d _ l[k] _ HTE.out hxb HTW.out.1 HTW.out.2).mono ?_
      rintro e w' ⟨rfl, hb⟩
      replace HTE := Lib.hid (HTE.out.below hb)
      replace HB2 := Lib.hid (below_thru HB2.out (Nat.le_refl _) hb)
      replace HO2 := Lib.hid (own_below HO2.out hb)
      replace HTW := Lib.hid (HTW.out.below hb)
      clear hb e0 e1 e2 e3 e4
      have c1 : ∃ u, w'.cell? ⟨w.heap.size, k, none⟩ = some u := by
        rw [HO2.out.cellAt k (by omega)]
        exact ⟨_, List.getElem?_eq_getElem (by simp; omega)⟩
      obtain ⟨u, c1⟩ := c1
      have f1 := HO2.out.frozenAt k
      have hst := HO2.out.stored k (.string (actTexts l)[k])
      rw [num_next (actTexts l) k hlt2] at hst
      have HS := Lib.hid hst; clear hst
      have HE : Hid ((actTexts l)[k] = l[k].text) := actTexts_get l k hlt hlt2
      rw [HE.out] at HS
      go_wp2_with fail
      exact ⟨⟨k + 1, by omega, by go_num, HS.out.1, HB2.out.setCell (Nat.le_refl _) _⟩, by simp [intOf]; omega⟩
    · obtain rfl : k = l.length := by omega
      have HL := HO2.out
      rw [← HTL.out, List.take_length, Nat.sub_self, List.replicate_zero, List.append_nil] at HL
      have HS := Lib.hid (Strs.of_own HL)
      clear HL HO2
      rw [HTL.out] at HS
      go_wp2_with fail
      refine (implJoin _ (actTexts l) ⟨#[59]⟩ (by rw [HTL.out]; exact hlen) (by have := HTOT.out; omega) (by decide) _ HS.out).mono ?_
      rintro e w1 ⟨rfl, hb1⟩
      have HB1 := Lib.hid (below_thru HB2.out (Nat.le_refl _) hb1)
      clear hb1
      go_wp2_with fail
      go_ret
      exact ⟨rfl, HB1.out⟩
end Go.Proofs.YtdgfkmnnjhlpbaaDoor
/-
  Proved: the law FnExactFormatActions answers true for every argument, and leaves the memory that was there as it was.
-/
namespace Go.Proofs.YtdgfkmnnjhlpbaaDoor
open Go.RowKit

set_option maxRecDepth 100000 in
set_option maxHeartbeats 2000000 in
theorem formatActionsWalk (d : Nat) (v1 : Value) (t1 : List Act) (w : World) (h1 : ActsAt w d v1 t1) (htab : ActTabs w) :
    Calls Tryd.prog 4 #[v1] w fun e w' => e = .returned (.bool true) ∧ Below w.heap.size w w' := by
  obtain ⟨a1a, a1n, a1c, rfl⟩ := acts_parts h1
  have B : Hid (Below w.heap.size w w) := Below.refl _ _
  have HTAB := Lib.hid (htab.below B.out)
  clear htab
  have HA1 := Lib.hid (h1.below B.out)
  clear h1
  go_enter Tryd.func4, Tryd.ntmps4
  go_wp2_with fail
  refine (szActs d _ t1 1048576 _ (by omega) (by omega) HA1.out).mono ?_
  rintro e w1 ⟨r1, rfl, hb, hr1⟩
  replace B := Lib.hid (below_thru B.out (Nat.le_refl _) hb)
  replace HTAB := Lib.hid (HTAB.out.below hb)
  replace HA1 := Lib.hid (HA1.out.below hb)
  clear hb
  rcases hr1 with ⟨hr1, hs1⟩ | ⟨hr1, hs1⟩
  · go_wp2_with fail
    go_ret
    exact ⟨rfl, B.out⟩
  have hq1 : r1 ≤ 1048576 := by omega
  have hn1 : Act.bulks t1 ≤ 1048576 := by omega
  clear hs1
  go_wp2_with fail
  refine (toActs d _ t1 _ hn1 HA1.out).mono ?_
  rintro e w2 ⟨s1, fp, rfl, ht, hf, hb⟩
  replace B := Lib.hid (below_thru B.out (Nat.le_refl _) hb)
  replace HTAB := Lib.hid (HTAB.out.below hb)
  replace HA1 := Lib.hid (HA1.out.below hb)
  clear hb
  have Hs1 := Lib.hid ht.at_
  clear ht hf
  go_wp2_with fail
  refine (specActsText d s1 t1 _ Hs1.out hn1).mono ?_
  rintro e w3 ⟨rfl, hb⟩
  replace B := Lib.hid (below_thru B.out (Nat.le_refl _) hb)
  replace HTAB := Lib.hid (HTAB.out.below hb)
  replace HA1 := Lib.hid (HA1.out.below hb)
  clear hb
  clear Hs1
  go_wp2_with fail
  refine (toActs d _ t1 _ hn1 HA1.out).mono ?_
  rintro e w4 ⟨x1, fp, rfl, ht, hf, hb⟩
  replace B := Lib.hid (below_thru B.out (Nat.le_refl _) hb)
  replace HTAB := Lib.hid (HTAB.out.below hb)
  replace HA1 := Lib.hid (HA1.out.below hb)
  clear hb
  obtain ⟨x1a, x1n, x1c, rfl⟩ := acts_parts ht.at_
  have HX1 := Lib.hid ht.at_
  clear ht hf
  go_wp2_with fail
  refine (implActsText d _ t1 _ HX1.out hn1 HTAB.out).mono ?_
  rintro e w5 ⟨rfl, hb⟩
  replace B := Lib.hid (below_thru B.out (Nat.le_refl _) hb)
  replace HTAB := Lib.hid (HTAB.out.below hb)
  replace HA1 := Lib.hid (HA1.out.below hb)
  replace HX1 := Lib.hid (HX1.out.below hb)
  clear hb
  go_wp2_with fail
  refine (toActs d _ t1 _ hn1 HA1.out).mono ?_
  rintro e w6 ⟨y1, fp, rfl, ht, hf, hb⟩
  replace B := Lib.hid (below_thru B.out (Nat.le_refl _) hb)
  replace HTAB := Lib.hid (HTAB.out.below hb)
  replace HA1 := Lib.hid (HA1.out.below hb)
  replace HX1 := Lib.hid (HX1.out.below hb)
  clear hb
  have Hy1 := Lib.hid ht.at_
  clear ht hf
  go_wp2_with fail
  refine (eqActs d _ y1 t1 _ HX1.out Hy1.out).mono ?_
  rintro e w7 ⟨rfl, hb⟩
  replace B := Lib.hid (below_thru B.out (Nat.le_refl _) hb)
  replace HTAB := Lib.hid (HTAB.out.below hb)
  replace HA1 := Lib.hid (HA1.out.below hb)
  replace HX1 := Lib.hid (HX1.out.below hb)
  clear hb
  clear Hy1
  go_wp2_with fail
  go_ret
  exact ⟨rfl, B.out⟩
end Go.Proofs.YtdgfkmnnjhlpbaaDoor
/-
  Proved: a law that returns true and leaves all memory that was there before as it was meets its row's end, also where the row names variables to be read again.
-/
namespace Go.Proofs.YtdgfkmnnjhlpbaaDoor.Law
open Go.ChangeShapes Go.WideShapes Go.ChangeAt Go.RowKit
variable {H : Type} {enc : TypeId × Value → H} {P : Program} {W W' : World}

theorem law_post_vars {f : Func} {s : ChangeSpec} {args : Array Value} {ds gs : List (DataW H)} {before : List MemPlace} {tb : TypeId}
    (hW : DataW.Whole enc P f.params.toList s.vars false W args.toList ds gs before) (hv : varsRowed P s.vars = true)
    (hres : f.resultTypes = #[tb]) (ub : P.underlying tb = some .bool) (hl : laidOutB P = true)
    (hr : (f.params.toList.all fun t => P.readableRec t && decide (t < P.types.size)) = true)
    (hfn : s.fn H (ds ++ gs) = { results := [.lit (.bool true)], args := ds, vars := gs })
    (hb : Below W.heap.size W W') : s.post enc P f false true false false W args (.bool true) W' := by
  have hlt := hW.lt
  have hW' := hW
  obtain ⟨p, q, hA, hV, rfl, hfz, hnd⟩ := hW
  refine ⟨ds, gs, _, [], p, q, hW', ?_, ?_, ?_, hb.frame _, fun h => by cases h⟩
  · rw [hres, hfn]
    exact trodAll_mk1 (shut_bool ub true)
  · rw [hfn]
    exact trodAll_below hl hb hr hA (fun x hx => hlt x (by simp [hx]))
  · rw [hfn]
    exact Below.trodVars hl hb hv hV
end Go.Proofs.YtdgfkmnnjhlpbaaDoor.Law
namespace Go.Proofs.YtdgfkmnnjhlpbaaDoor.ExactFormatActions
open Go.ChangeShapes Go.WideShapes Go.ChangeAt Go.RowKit Go.WideMaps Go.WideElems
open Go.ChangeMaps (setBlock shut_map_nil open_string shut_string keptBut_setBlock frozen?_setBlock heap_setBlock_same)
set_option maxRecDepth 100000 in
theorem contract (H : Type) (enc : TypeId × Value → H) (W : World) (base : Nat) (args : Array Value) (ds gs : List (DataW H)) (before : List MemPlace)
    (hval : ∀ (j : Nat) t v, Tryd.f4.params[j]? = some t → args[j]? = some v → Value.okWide Tryd.prog W .any base t v)
    (hW : DataW.Whole enc Tryd.prog Tryd.f4.params.toList Rows.fnExactFormatActionsSpec.vars false W args.toList ds gs before) (hL : laidMetH Tryd.prog Rows.fnExactFormatActionsRow.laid W)
    (_hsz : (DataW.weightsEach Tryd.prog (Tryd.f4.params.toList ++ (OpenSpec.ofChange Rows.fnExactFormatActionsSpec).bare.plain.varTypes Tryd.prog) (ds ++ gs)).all (· ≤ reachBytes) = true) (_hsh : W.ShapedOpen Tryd.prog) :
    Calls Tryd.prog 4 args W fun e W' => ∃ v, e = .returned v ∧ Rows.fnExactFormatActionsSpec.post enc Tryd.prog Tryd.f4 false true false false W args v W' := by
  have hW' := hW
  obtain ⟨p, q, hA0, hV, rfl, hfz, hnd⟩ := hW
  have hA : DataW.TrodAll enc Tryd.prog W 0 (fun _ => true) true Tryd.f4.params.toList args.toList ds p := hA0
  rw [Tryd.params4] at hA hval
  obtain ⟨v0, vs0, d0, ds0, p0, q0, hargs, rfl, rfl, h0, r0⟩ := trodAll_cons hA
  obtain ⟨rfl, rfl, rfl⟩ := trodAll_nil r0
  obtain rfl : args = #[v0] := by cases args; simp_all
  obtain ⟨gg, gt, gcs, gfuel, gd, gp, rfl, _⟩ := trodVars_one hV
  rw [MakeChecks.laidMetH_plain _ _ _ (by kernel_rfl)] at hL
  obtain ⟨e0, t0, ht0⟩ := acts_of_arg (hval 0 37 v0 rfl rfl) h0
  have htab : ActTabs W := ⟨words_of hL.tail.tail.tail, Lib.tabIs_of_head (g := 3) (t := 171) (e := 162) (n := 20) (by kernel_rfl) (by kernel_rfl) Tryd.underlying171 Tryd.underlying162 (by kernel_rfl) (by kernel_rfl) hL.tail.tail⟩
  refine Calls.mono (formatActionsWalk e0 v0 t0 W ht0 htab) fun e W' ⟨he, hg⟩ => ?_
  subst he
  exact ⟨_, rfl, Law.law_post_vars hW' (by kernel_rfl) (by kernel_rfl) Tryd.underlying4 (by kernel_rfl) (by kernel_rfl) rfl hg⟩
set_option maxRecDepth 100000 in
theorem laid_met (os : Os) : laidMet Tryd.prog Rows.fnExactFormatActionsRow.laid (((World.doorLaid Tryd.prog 512 os)).forCall (fun _ _ => 0) ⟨#[], #[.slice none 0 0], []⟩).memory :=
  laidMet_of_run' 8 (by kernel_rfl) (by kernel_rfl)
theorem reads (os : Os) {H : Type} (enc : TypeId × Value → H) : ∃ places, DataW.whole enc Tryd.prog (((World.doorLaid Tryd.prog 512 os)).forCall (fun _ _ => 0) ⟨#[], #[.slice none 0 0], []⟩).memory Tryd.f4.params.toList Rows.fnExactFormatActionsSpec.vars false (#[.slice none 0 0] : Array Value).toList 8 = some ([.nil], [Rows.laid_loop_example_g00585_impl_actionWords], places) :=
  ⟨MemPlace.row ⟨0, 0, none⟩ 21, by kernel_rfl⟩
set_option maxRecDepth 100000 in
theorem lifted (os : Os) (started : os.Started) (H : Type) (enc : TypeId × Value → H) (F : Stop.Interp) :
    ReturnsInHanded {} Tryd.checked os 4 .any ((OpenSpec.ofChange Rows.fnExactFormatActionsSpec).preRow enc Tryd.prog Tryd.f4 Rows.fnExactFormatActionsRow.domain false Rows.fnExactFormatActionsRow.laid) (((OpenSpec.ofChange Rows.fnExactFormatActionsSpec).at F).post enc Tryd.prog Tryd.f4 false true false false) := by
  obtain ⟨places, hx⟩ := reads os enc
  refine returnsInHanded_of_row (C := Tryd.checked) (s := OpenSpec.ofChange Rows.fnExactFormatActionsSpec) (by kernel_rfl) started (by kernel_rfl) Tryd.func4
    (witness_row_atRef (enc := enc) (C := Tryd.checked) false (World.doorLaid Tryd.prog 512 os) #[.slice none 0 0] rfl (by kernel_rfl) (by kernel_rfl) (by kernel_rfl)
      (OpenSpec.preRow_of_cond 8 hx (by kernel_rfl) (fun k hk => by cases hk) (by kernel_rfl) (laid_met os))) ?_
  intro W base args ds gs before hval hW _ _ hsz hL hsh _
  exact contract H enc W base args ds gs before hval hW hL hsz hsh
theorem said : Rows.FnExactFormatActionsSaid :=
  OpenClaim.holds_of_cond 4 Tryd.f4 rfl rfl rfl rfl rfl rfl rfl ⟨rfl, rfl, rfl, rfl, rfl⟩ rfl rfl rfl rfl rfl (by kernel_rfl) Tryd.func4 (by kernel_rfl)
    (of_decide_eq_true (by kernel_rfl)) (by unfold Func.isWrapper; first | (rw [if_pos (by decide +kernel)]; kernel_rfl) | (rw [if_neg (by decide +kernel)]; exact ⟨rfl, rfl⟩))
    (fun os started H enc _ F => by rw [OpenClaim.pre_eq_preRow]; exact lifted os started H enc F)
theorem plain (f : FuncId) (fn : Func) (hf : Tryd.pinned.checked.prog.funcNamed "loop.example/g00585/laws.FnExactFormatActions" = some f) (hfn : Tryd.pinned.checked.prog.funcs[f]? = some fn) :
    true = Tryd.pinned.checked.prog.looks [] ∧ ∀ (j : Nat) t, fn.params[j]? = some t → Tryd.pinned.checked.prog.wantsStandIn t = false := by
  obtain rfl : f = 4 := Option.some.inj ((show Tryd.prog.funcNamed "loop.example/g00585/laws.FnExactFormatActions" = some 4 by kernel_rfl).symm.trans hf) |>.symm
  obtain rfl : fn = Tryd.f4 := (Option.some.inj (Tryd.func4.symm.trans hfn)).symm
  refine ⟨by kernel_rfl, fun j t ht => ?_⟩
  rw [Tryd.params4] at ht
  have hm : t ∈ [37] := by simpa using Array.mem_of_getElem? ht
  have hall : ([37].all fun u => !Tryd.prog.wantsStandIn u) = true := by kernel_rfl
  exact (show Tryd.prog.wantsStandIn t = false by simpa using List.all_eq_true.1 hall t hm)
theorem card : Rows.FnExactFormatActionsCardSaid :=
  Claim7.holds_tied_plain_at .later [] _ _ _ _ said (fun _ h => by cases h) (by kernel_rfl) (fun _ h => by cases h) fnExactFormatActions_row_tie rfl ⟨rfl, rfl⟩ (by kernel_rfl) rfl plain (by kernel_rfl)
end Go.Proofs.YtdgfkmnnjhlpbaaDoor.ExactFormatActions
