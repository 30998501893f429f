/-
  Proved: impl.FormatType gives the text of a valid type, the empty text for others; the memory that was there stays as it was.
-/
import Derived.Test.YtcohfbdhdngplaaDoorExTree
import Derived.Test.YtcohfbdhdngplaaDoorTyEq
import Derived.Test.YtcohfbdhdngplaaDoorCoTree
import Derived.Test.YtcohfbdhdngplaaDoorStrs
import Derived.Test.YtcohfbdhdngplaaDoorCoreTextGZ
import Derived.Test.YtcohfbdhdngplaaDoorShelfStr
import Derived.Test.YtcohfbdhdngplaaDoorProg
import Derived.Test.YtcohfbdhdngplaaDoorLaw
import Derived.Test.YtcohfbdhdngplaaDoorShelfItoa
import Derived.Deep.RegionLaw
import Derived.Deep.AppendLies
import Derived.Test.YtcohfbdhdngplaaDoorSpecValid
import Derived.Test.YtcohfbdhdngplaaDoorText
import Derived.Deep.RegionHeld3
import Derived.Test.YtcohfbdhdngplaaDoorFormatText
/-
  Proved: plain facts on equal expressions; the memory that was there stays as it was.
-/
namespace Go.Proofs.YtcohfbdhdngplaaDoor
open Go.RowKit

theorem text_ne {a b : ByteArray} (h : a ≠ b) : (a.toList == b.toList) = false := by
  rw [ByteArray.toList_eq, ByteArray.toList_eq]
  refine beq_false_of_ne fun e => h ?_
  cases a; cases b
  exact congrArg ByteArray.mk (Array.toList_inj.1 e)
/-- Two expressions have equal roots: all fields but the parts, and the number of these. -/
def Ex.roots : Ex → Ex → Bool
  | .node k nm n ty es, .node l nl m tz fs => decide (k = l) && (decide (nm = nl) && (decide (n = m) && (ty.beq tz && decide (es.length = fs.length))))
mutual
def Ex.beq : Ex → Ex → Bool
  | .node k nm n ty es, .node l nl m tz fs => (decide (k = l) && (decide (nm = nl) && (decide (n = m) && (ty.beq tz && decide (es.length = fs.length))))) && Ex.beqs es fs
def Ex.beqs : List Ex → List Ex → Bool
  | [], [] => true
  | a :: r, b :: s => a.beq b && Ex.beqs r s
  | _, _ => false
end
theorem Ex.beqs_take : ∀ (cs bs : List Ex) (k : Nat) (h : k < cs.length) (h' : k < bs.length), Ex.beqs (cs.take (k + 1)) (bs.take (k + 1)) = (Ex.beqs (cs.take k) (bs.take k) && cs[k].beq bs[k])
  | [], _, _, h, _ => by simp at h
  | _ :: _, [], _, _, h => by simp at h
  | a :: r, b :: s, 0, _, _ => by simp [Ex.beqs]
  | a :: r, b :: s, k + 1, h, h' => by
    simp only [List.take_succ_cons, Ex.beqs, List.getElem_cons_succ]
    rw [Ex.beqs_take r s k (by simpa using h) (by simpa using h'), Bool.and_assoc]
theorem Ex.beqs_false : ∀ (cs bs : List Ex) (k : Nat), Ex.beqs (cs.take k) (bs.take k) = false → cs.length = bs.length → Ex.beqs cs bs = false
  | [], [], k, h, _ => by simp [Ex.beqs] at h
  | [], _ :: _, _, _, e => by simp at e
  | _ :: _, [], _, _, e => by simp at e
  | a :: r, b :: s, 0, h, _ => by simp [Ex.beqs] at h
  | a :: r, b :: s, k + 1, h, e => by
    simp only [List.take_succ_cons, Ex.beqs, Bool.and_eq_false_iff] at h ⊢
    rcases h with h | h
    · exact Or.inl h
    · exact Or.inr (Ex.beqs_false r s k h (by simpa using e))
end Go.Proofs.YtcohfbdhdngplaaDoor
/-
  Proved: plain facts on equal core expressions and environments; no program.
-/
namespace Go.Proofs.YtcohfbdhdngplaaDoor
open Go.RowKit

def nbeqs : List ByteArray → List ByteArray → Bool
  | [], [] => true
  | a :: r, b :: s => decide (a = b) && nbeqs r s
  | _, _ => false
mutual
def Co.beq : Co → Co → Bool
  | .node k nm n fr ty es ns vs, .node l nl m gr tz fs ms us => (decide (k = l) && (decide (nm = nl) && (decide (n = m) && (fr.beq gr && ty.beq tz)))) && (Co.beqs es fs && (nbeqs ns ms && Co.beqs vs us))
def Co.beqs : List Co → List Co → Bool
  | [], [] => true
  | a :: r, b :: s => a.beq b && Co.beqs r s
  | _, _ => false
end
theorem nbeqs_len : ∀ (cs bs : List ByteArray), cs.length ≠ bs.length → nbeqs cs bs = false
  | [], [], h => (h rfl).elim
  | [], _ :: _, _ => rfl
  | _ :: _, [], _ => rfl
  | a :: r, b :: s, h => by
    simp only [nbeqs, nbeqs_len r s (by simpa using h), Bool.and_false]
theorem nbeqs_take : ∀ (cs bs : List ByteArray) (k : Nat) (h : k < cs.length) (h' : k < bs.length), nbeqs (cs.take (k + 1)) (bs.take (k + 1)) = (nbeqs (cs.take k) (bs.take k) && decide (cs[k] = bs[k]))
  | [], _, _, h, _ => by simp at h
  | _ :: _, [], _, _, h => by simp at h
  | a :: r, b :: s, 0, _, _ => by simp [nbeqs]
  | a :: r, b :: s, k + 1, h, h' => by
    simp only [List.take_succ_cons, nbeqs, List.getElem_cons_succ]
    rw [nbeqs_take r s k (by simpa using h) (by simpa using h'), Bool.and_assoc]
theorem nbeqs_false : ∀ (cs bs : List ByteArray) (k : Nat), nbeqs (cs.take k) (bs.take k) = false → cs.length = bs.length → nbeqs cs bs = false
  | [], [], k, h, _ => by simp [nbeqs] at h
  | [], _ :: _, _, _, e => by simp at e
  | _ :: _, [], _, _, e => by simp at e
  | a :: r, b :: s, 0, h, _ => by simp [nbeqs] at h
  | a :: r, b :: s, k + 1, h, e => by
    simp only [List.take_succ_cons, nbeqs, Bool.and_eq_false_iff] at h ⊢
    rcases h with h | h
    · exact Or.inl h
    · exact Or.inr (nbeqs_false r s k h (by simpa using e))
theorem Co.beqs_len : ∀ (cs bs : List Co), cs.length ≠ bs.length → Co.beqs cs bs = false
  | [], [], h => (h rfl).elim
  | [], _ :: _, _ => rfl
  | _ :: _, [], _ => rfl
  | a :: r, b :: s, h => by
    simp only [Co.beqs, Co.beqs_len r s (by simpa using h), Bool.and_false]
theorem Co.beqs_take : ∀ (cs bs : List Co) (k : Nat) (h : k < cs.length) (h' : k < bs.length), Co.beqs (cs.take (k + 1)) (bs.take (k + 1)) = (Co.beqs (cs.take k) (bs.take k) && cs[k].beq bs[k])
  | [], _, _, h, _ => by simp at h
  | _ :: _, [], _, _, h => by simp at h
  | a :: r, b :: s, 0, _, _ => by simp [Co.beqs]
  | a :: r, b :: s, k + 1, h, h' => by
    simp only [List.take_succ_cons, Co.beqs, List.getElem_cons_succ]
    rw [Co.beqs_take r s k (by simpa using h) (by simpa using h'), Bool.and_assoc]
theorem Co.beqs_false : ∀ (cs bs : List Co) (k : Nat), Co.beqs (cs.take k) (bs.take k) = false → cs.length = bs.length → Co.beqs cs bs = false
  | [], [], k, h, _ => by simp [Co.beqs] at h
  | [], _ :: _, _, _, e => by simp at e
  | _ :: _, [], _, _, e => by simp at e
  | a :: r, b :: s, 0, h, _ => by simp [Co.beqs] at h
  | a :: r, b :: s, k + 1, h, e => by
    simp only [List.take_succ_cons, Co.beqs, Bool.and_eq_false_iff] at h ⊢
    rcases h with h | h
    · exact Or.inl h
    · exact Or.inr (Co.beqs_false r s k h (by simpa using e))
/-- Two environments are equal: their names and their values. -/
def ebeq (ns : List ByteArray) (vs : List Co) (ms : List ByteArray) (us : List Co) : Bool := nbeqs ns ms && Co.beqs vs us
theorem ebeq_len (ns : List ByteArray) (vs : List Co) (ms : List ByteArray) (us : List Co) (h : vs.length ≠ us.length) : ebeq ns vs ms us = false := by
  unfold ebeq
  rw [Co.beqs_len vs us h, Bool.and_false]
theorem ebeq_take (ns : List ByteArray) (vs : List Co) (ms : List ByteArray) (us : List Co) (k : Nat) (h1 : k < ns.length) (h2 : k < vs.length) (h3 : k < ms.length) (h4 : k < us.length) :
    ebeq (ns.take (k + 1)) (vs.take (k + 1)) (ms.take (k + 1)) (us.take (k + 1)) = (ebeq (ns.take k) (vs.take k) (ms.take k) (us.take k) && (decide (ns[k] = ms[k]) && vs[k].beq us[k])) := by
  unfold ebeq
  rw [nbeqs_take ns ms k h1 h3, Co.beqs_take vs us k h2 h4]
  cases nbeqs (ns.take k) (ms.take k) <;> cases decide (ns[k] = ms[k]) <;> cases Co.beqs (vs.take k) (us.take k) <;> rfl
theorem ebeq_bad (ns : List ByteArray) (vs : List Co) (ms : List ByteArray) (us : List Co) (k : Nat) (h1 : k < ns.length) (h2 : k < vs.length) (h3 : k < ms.length) (h4 : k < us.length) (e1 : ns.length = ms.length) (e2 : vs.length = us.length)
    (hb : (decide (ns[k] = ms[k]) && vs[k].beq us[k]) = false) : ebeq ns vs ms us = false := by
  unfold ebeq
  cases hd : decide (ns[k] = ms[k]) with
  | false => rw [nbeqs_false ns ms (k + 1) (by rw [nbeqs_take ns ms k h1 h3, hd, Bool.and_false]) e1, Bool.false_and]
  | true =>
    rw [hd, Bool.true_and] at hb
    rw [Co.beqs_false vs us (k + 1) (by rw [Co.beqs_take vs us k h2 h4, hb, Bool.and_false]) e2, Bool.and_false]
/-- In the world w the pointer v leads to the core expression t. -/
def PtrCo (w : World) (d : Nat) (v : Value) (t : Co) : Prop :=
  ∃ b off c0 c1 c2 c3 c4 c5 c6 c7 c8, v = .pointer (some ⟨b, off, none⟩) ∧ b < w.heap.size ∧ w.cell? ⟨b, off, none⟩ = some c0 ∧ w.cell? ⟨b, off + 1, none⟩ = some c1 ∧ w.cell? ⟨b, off + 2, none⟩ = some c2 ∧ w.cell? ⟨b, off + 3, none⟩ = some c3 ∧ w.cell? ⟨b, off + 4, none⟩ = some c4 ∧ w.cell? ⟨b, off + 5, none⟩ = some c5 ∧ w.cell? ⟨b, off + 6, none⟩ = some c6 ∧ w.cell? ⟨b, off + 7, none⟩ = some c7 ∧ w.cell? ⟨b, off + 8, none⟩ = some c8 ∧ CoAt w d (.agg #[c0, c1, c2, c3, c4, c5, c6, c7, c8]) t
theorem PtrCo.below {w w' : World} {d : Nat} {v : Value} {t : Co} (h : PtrCo w d v t) (hb : Below w.heap.size w w') : PtrCo w' d v t := by
  obtain ⟨b, off, c0, c1, c2, c3, c4, c5, c6, c7, c8, hv, hlt, h0, h1, h2, h3, h4, h5, h6, h7, h8, ht⟩ := h
  have hk : ∀ o, w'.cell? ⟨b, o, none⟩ = w.cell? ⟨b, o, none⟩ := fun o => hb.cell (p := ⟨b, o, none⟩) hlt
  exact ⟨b, off, c0, c1, c2, c3, c4, c5, c6, c7, c8, hv, Nat.lt_of_lt_of_le hlt hb.size, (hk _).trans h0, (hk _).trans h1, (hk _).trans h2, (hk _).trans h3, (hk _).trans h4, (hk _).trans h5, (hk _).trans h6, (hk _).trans h7, (hk _).trans h8, ht.below hb⟩
end Go.Proofs.YtcohfbdhdngplaaDoor
/-
  Proved: impl.Join joins the strings with the separator between them, and leaves the memory that was there as it was. On these terms: the strings, their number and the separator are small (2^20).
-/
namespace Go.Proofs.YtcohfbdhdngplaaDoor
open Go.RowKit

set_option maxRecDepth 100000 in
set_option maxHeartbeats 1000000 in
theorem implJoin (v : Value) (ss : List ByteArray) (sep : ByteArray) (hn : ss.length ≤ 1048576) (ht : total ss ≤ 1073741824) (hs : sep.size ≤ 1048576) (w : World) (h : Strs w v ss) :
    Calls Tryd.prog 100 #[v, .string sep] w (JoinEnd ss sep w) := by
  have HL := joined_small ss sep ss.length (Nat.le_refl _) hn ht hs
  rw [joined_all] at HL
  rcases h.parts with ⟨rfl, a, cap, rfl⟩ | ⟨h0, b, off, cap, rfl, hcap, hb, hcell⟩
  · clear h HL
    go_enter Tryd.func100, Tryd.ntmps100
    go_wp2_with fail
    refine (Tryd.strings_Join_none a cap sep w).mono ?_
    rintro e w' ⟨rfl, rfl⟩
    go_wp2_with fail
    go_ret
    exact ⟨rfl, Below.refl _ _⟩
  · have HC : Hid (∀ (j : Nat) x, ss[j]? = some x → w.cell? ⟨b, off + j, none⟩ = some (.string x)) := fun j x hx => by
      obtain ⟨hj, rfl⟩ := List.getElem?_eq_some_iff.1 hx
      exact hcell j hj
    have HM := Lib.hid HL
    clear h HL hcell
    go_enter Tryd.func100, Tryd.ntmps100
    go_wp2_with fail
    refine (Tryd.strings_Join b off cap ss sep w HC.out hb (by omega) hcap (by have := HM.out; omega)).mono ?_
    rintro e w' ⟨rfl, hb1⟩
    go_wp2_with fail
    go_ret
    exact ⟨rfl, hb1⟩
end Go.Proofs.YtcohfbdhdngplaaDoor
/-
  Proved: impl.FormatInt returns the decimal numeral of every int, and leaves the memory that was there as it was. On these terms: the library's table of powers of ten holds what the program's text lays.
-/
namespace Go.Proofs.YtcohfbdhdngplaaDoor
open Go.ChangeShapes Go.WideShapes Go.ChangeAt Go.RowKit

theorem implFormat (n : Int) (h0 : -9223372036854775808 ≤ n) (h1 : n ≤ 9223372036854775807) (w : World)
    (htab : Lib.TabIs Tryd.prog w "internal/strconv.uint64pow10" .u64 Lib.pow10Tab) :
    Calls Tryd.prog 97 #[.int .i64 n] w fun e w' => e = .returned (.string ⟨(Lib.itoa n).toArray⟩) ∧ Below w.heap.size w w' := by
  go_enter Tryd.func97, Tryd.ntmps97
  go_wp2_with (go_at_call 120; refine (Tryd.strconv_Itoa _ h0 h1 _ htab).mono ?_; rintro e w' ⟨rfl, k, os, rfl⟩)
  go_ret
  exact ⟨rfl, Lib.below_grow _ _ (Nat.le_refl _) _ _⟩

end Go.Proofs.YtcohfbdhdngplaaDoor
/-
  Proved: the library's table of powers of ten stays as it was where old memory does.
-/
namespace Go.Proofs.YtcohfbdhdngplaaDoor
open Go.RowKit

def Pow10At (w : World) : Prop := Lib.TabIs Tryd.prog w "internal/strconv.uint64pow10" .u64 Lib.pow10Tab
theorem Pow10At.below {w w' : World} (h : Pow10At w) (hb : Below w.heap.size w w') : Pow10At w' := Law.tab_below hb h
end Go.Proofs.YtcohfbdhdngplaaDoor
/-
  Proved: impl.envText gives the text of an environment; the memory that was there stays as it was.
-/
namespace Go.Proofs.YtcohfbdhdngplaaDoor
open Go.RowKit

set_option maxRecDepth 100000 in
set_option maxHeartbeats 4000000 in
theorem implEnvText (d : Nat) (IH : Hid (∀ (v : Value) (t : Co) (w : World), PtrCo w d v t → t.form = true → t.bulk ≤ 1048576 → Pow10At w → Calls Tryd.prog 64 #[v] w fun e w' => e = .returned (.string t.text) ∧ Below w.heap.size w w')) (v : Value) (ns : List ByteArray) (vs : List Co) (w : World) (h : RowCb (CoAt w d) w v ns vs) (hf : Co.forms vs = true) (hsz : txs ns + Co.bulks vs ≤ 1048576) (hp : Pow10At w) :
    Calls Tryd.prog 98 #[v] w fun e w' => e = .returned (.string (envSay ns (Co.texts vs))) ∧ Below w.heap.size w w' := by
  obtain ⟨i0, hi, hz0, hz1, hz2⟩ := info_parts info_str
  have HI := Lib.hid hi; clear hi
  have HZ0 := Lib.hid hz0; clear hz0
  have HZ1 := Lib.hid hz1; clear hz1
  have HZ2 := Lib.hid hz2; clear hz2
  obtain ⟨hln, a, cap, rfl, hcap, hcap2, hae⟩ := h
  have HAE := Lib.hid hae
  have HNU : Hid (Co.numss vs) := numss_of vs fun j hj => by
    obtain ⟨_, _, _, _, _, _, _, _, _, _, _, _, _, _, _, _, _, _, _, _, _, _, _, _, hr⟩ := hae j hj (by omega)
    exact nums_of d _ _ hr
  clear hae
  have HF := Lib.hid hf; clear hf
  have HSZ := Lib.hid hsz; clear hsz
  have hlen : vs.length ≤ 1048576 := by have h1 := Co.length_le vs; have h2 := HSZ.out; omega
  have hxl : (Co.texts vs).length = vs.length := Co.texts_length vs
  have HTL : Hid ((bindsB ns (Co.texts vs)).length = vs.length) := by show _ = _; rw [bindsB_length _ _ (by omega)]; exact hxl
  have HTOT : Hid (total (bindsB ns (Co.texts vs)) ≤ 90000000) := by show _ ≤ _; have h1 := Co.texts_size vs numB_size HNU.out; have h2 := HSZ.out; have h3 := bindsB_total ns (Co.texts vs); omega
  have HBG : Hid (∀ (k : Nat) (h1 : k < vs.length) (h2 : k < ns.length) (h : k < (bindsB ns (Co.texts vs)).length), (bindsB ns (Co.texts vs))[k] = ns[k] ++ ⟨#[61]⟩ ++ vs[k].text) := fun k h1 h2 h => by rw [bindsB_get ns (Co.texts vs) k h2 (by omega) h, Co.texts_get vs k h1 (by omega)]
  have HLN := Lib.hid hln
  have HEN : Hid (envSay ns (Co.texts vs) = ⟨#[91]⟩ ++ joinB (bindsB ns (Co.texts vs)) ⟨#[44]⟩ ++ ⟨#[93]⟩) := rfl
  have hjs := joinB_size (bindsB ns (Co.texts vs)) 44
  have HJS : Hid ((joinB (bindsB ns (Co.texts vs)) ⟨#[44]⟩).size ≤ 100000000) := by show _ ≤ _; have h1 := HTOT.out; have h2 := HTL.out; omega
  clear hxl hjs
  generalize bindsB ns (Co.texts vs) = bs at HTL HTOT HBG HEN HJS
  have HP0 := Lib.hid hp; clear hp
  clear hln
  go_enter Tryd.func98, Tryd.ntmps98
  go_wp2_with (at_make; refine wpList_make_full _ rfl _ _ 122 rfl w.heap.size 9 i0 (.string ⟨#[]⟩) 1 Tryd.underlying122 HI.out HZ0.out HZ1.out .i64 .i64 _ _ vs.length rfl rfl rfl rfl (by rw [HZ2.out]; omega) (by unfold maxLen; omega) (Nat.le_refl _) ?_; intro w0 hown0 hg0; refine Hid.out ?_)
  refine Lib.hid ?_
  have hb0 : Below w.heap.size w w0 := (Below.refl _ w).grown hg0 (Nat.le_refl _) (fun k hk => by cases hk)
  have hown1 : w0.ownsRow w.heap.size 9 1 (.slice (some ⟨w.heap.size, 0, none⟩) vs.length vs.length) vs.length ((bs.take 0).map Value.string ++ List.replicate (bs.length - 0) (Value.string ⟨#[]⟩)) := by
    have : (madeCells (Value.string ⟨#[]⟩).cells (vs.length * 1)).toList = List.replicate vs.length (Value.string ⟨#[]⟩) := by rw [Nat.mul_one]; exact toList_madeCells_one _ _
    rw [this] at hown0; rw [HTL.out]; simpa using hown0
  have HO := Lib.hid hown1; clear hown1 hown0 hg0
  have HB := Lib.hid hb0; clear hb0
  go_wp2_with fail
  go_loopw [10] (fun i wr => ∃ k : Nat, k ≤ vs.length ∧ i = .int .i64 k ∧ wr.ownsRow w.heap.size 9 1 (.slice (some ⟨w.heap.size, 0, none⟩) vs.length vs.length) vs.length ((bs.take k).map Value.string ++ List.replicate (bs.length - k) (Value.string ⟨#[]⟩)) ∧ Below w.heap.size w wr) (fun i _ => vs.length - (intOf i).toNat)
  case atStart => exact ⟨0, by omega, rfl, HO.out, HB.out⟩
  case round =>
    obtain ⟨k, hk, rfl, hown, hb⟩ := hrel
    have HO2 := Lib.hid hown; clear hown
    have HB2 := Lib.hid hb; clear hb
    by_cases hlt : k < vs.length
    · have hltn : k < ns.length := by have := HLN.out; omega
      have hlt2 : k < bs.length := by rw [HTL.out]; exact hlt
      obtain ⟨b, off, x0, x1, x2, x3, x4, x5, x6, x7, x8, rfl, hbl, hnz, hcn, hc0, hc1, hc2, hc3, hc4, hc5, hc6, hc7, hc8, ht⟩ := HAE.out k hlt hltn
      have hg := Co.bulk_get vs k hlt
      have hzk : vs[k].bulk ≤ 1048576 := by have := HSZ.out; omega
      have hfk := Lib.hid (Co.forms_get vs k hlt HF.out)
      have HBK := Lib.hid (HBG.out k hlt hltn hlt2)
      have hts := total_get bs k hlt2
      have hks : ns[k].size + 1 + vs[k].text.size ≤ 90000000 := by
        have h1 := HTOT.out
        have h2 := HBK.out
        rw [h2, ByteArray.size_append, ByteArray.size_append, sizes_one] at hts
        omega
      have m0 : ¬ (9223372036854775807 < ns[k].size + 1) := by omega
      have m1 : ¬ (9223372036854775807 < ns[k].size + 1 + vs[k].text.size) := by omega
      have HP := Lib.hid (show PtrCo w d (.pointer (some ⟨b, off + k * 10 + 1, none⟩)) vs[k] from ⟨b, off + k * 10 + 1, _, _, _, _, _, _, _, _, _, rfl, hbl, hc0, hc1, hc2, hc3, hc4, hc5, hc6, hc7, hc8, ht⟩)
      have en : wr.cell? ⟨b, off + k * 10, none⟩ = some (.string ns[k]) := (HB2.out.cell (p := ⟨b, off + k * 10, none⟩) hbl).trans hcn
      have HBL : Hid (b < wr.heap.size) := Nat.lt_of_lt_of_le hbl HB2.out.size
      have HE : Hid (bs[k] = ns[k] ++ ⟨#[61]⟩ ++ vs[k].text) := HBK
      have HCN := Lib.hid hcn
      have HBL0 := Lib.hid hbl
      clear ht hc0 hc1 hc2 hc3 hc4 hc5 hc6 hc7 hc8 hcn hnz hg hts hks hbl
      obtain ⟨x, hx⟩ : ∃ x, x = ns[k] := ⟨_, rfl⟩
      rw [← hx] at en m0 m1 HE HCN
      clear hx
      obtain ⟨y, hy⟩ : ∃ y, y = vs[k].text := ⟨_, rfl⟩
      have HY := Lib.hid hy
      rw [← hy] at m1 HE
      clear hy
      go_wp2_with fail
      clear en
      have hbd := below_drew wr
      replace HB2 := Lib.hid (below_thru HB2.out (Nat.le_refl _) hbd)
      replace HO2 := Lib.hid (own_below HO2.out hbd)
      clear hbd
      have cn := (HB2.out.cell (p := ⟨b, off + k * 10, none⟩) HBL0.out).trans HCN.out
      have c7 : ∃ u, wr.drew.cell? ⟨w.heap.size, k, none⟩ = some u := by
        rw [HO2.out.cellAt k (by omega)]
        exact ⟨_, List.getElem?_eq_getElem (by simp; omega)⟩
      obtain ⟨u, c7⟩ := c7
      have f7 := HO2.out.frozenAt k
      go_region_law (first
        | (go_simp
           go_at_call 64
           refine (IH.out _ vs[k] _ (HP.out.below HB2.out) hfk.out hzk (HP0.out.below HB2.out)).mono ?_
           rintro e w' ⟨rfl, hb⟩
           rw [← HY.out]
           replace HB2 := Lib.hid (below_thru HB2.out (Nat.le_refl _) hb)
           replace HO2 := Lib.hid (own_below HO2.out hb)
           clear hb cn c7 f7
           have cn := (HB2.out.cell (p := ⟨b, off + k * 10, none⟩) HBL0.out).trans HCN.out
           have c7 : ∃ u, w'.cell? ⟨w.heap.size, k, none⟩ = some u := by
             rw [HO2.out.cellAt k (by omega)]
             exact ⟨_, List.getElem?_eq_getElem (by simp; omega)⟩
           obtain ⟨u, c7⟩ := c7
           have f7 := HO2.out.frozenAt k))
      all_goals
        have hst := HO2.out.stored k (.string bs[k])
        rw [num_next bs k hlt2] at hst
        have HS := Lib.hid hst; clear hst
        rw [HE.out] at HS
        clear cn c7
        go_wp2_with fail
        exact ⟨⟨k + 1, by omega, by go_num, HS.out.1, HB2.out.setCell (Nat.le_refl _) _⟩, by simp [intOf]; omega⟩
    · obtain rfl : k = vs.length := by omega
      have HL := HO2.out
      rw [← HTL.out, List.take_length, Nat.sub_self, List.replicate_zero, List.append_nil] at HL
      have HS := Lib.hid (Strs.of_own HL)
      clear HL HO2
      rw [HTL.out] at HS
      have m2 : ¬ (9223372036854775807 < 1 + (joinB bs ⟨#[44]⟩).size) := by have := HJS.out; omega
      have m3 : ¬ (9223372036854775807 < 1 + (joinB bs ⟨#[44]⟩).size + 1) := by have := HJS.out; omega
      have HJ := Lib.hid (show Calls Tryd.prog _ _ wr (fun e w' => e = .returned (.string (joinB bs ⟨#[44]⟩)) ∧ Below wr.heap.size wr w') from implJoin _ bs ⟨#[44]⟩ (by rw [HTL.out]; exact hlen) (by have := HTOT.out; omega) (by decide) _ HS.out)
      generalize joinB bs ⟨#[44]⟩ = J at HJ HEN m2 m3
      go_wp2_with fail
      refine HJ.out.mono ?_
      rintro e w1 ⟨rfl, hb1⟩
      have HB1 := Lib.hid (below_thru HB2.out (Nat.le_refl _) hb1)
      clear hb1
      go_wp2_with fail
      go_ret
      exact ⟨by rw [HEN.out]; rfl, HB1.out⟩
end Go.Proofs.YtcohfbdhdngplaaDoor
/-
  Proved: what an assertion on one of the five nodes yields (closed facts on the program's tables).
-/
namespace Go.Proofs.YtcohfbdhdngplaaDoor
open Go.RowKit

theorem as_unknown_unknown (w : World) : (Instr.typeAssert (.iface 158 (.agg #[])) 155 158 true).run Tryd.prog w = .ok (.tuple #[.agg #[], .bool true]) w := by kernel_rfl
theorem as_unknown_num (w : World) : (Instr.typeAssert (.iface 158 (.agg #[])) 155 159 true).run Tryd.prog w = .ok (.tuple #[.agg #[], .bool false]) w := by kernel_rfl
theorem as_unknown_bool (w : World) : (Instr.typeAssert (.iface 158 (.agg #[])) 155 160 true).run Tryd.prog w = .ok (.tuple #[.agg #[], .bool false]) w := by kernel_rfl
theorem as_unknown_arrow (w : World) : (Instr.typeAssert (.iface 158 (.agg #[])) 155 162 true).run Tryd.prog w = .ok (.tuple #[.agg #[.int .i64 0, .slice none 0 0, .int .i64 0, .slice none 0 0], .bool false]) w := by kernel_rfl
theorem as_unknown_pair (w : World) : (Instr.typeAssert (.iface 158 (.agg #[])) 155 164 true).run Tryd.prog w = .ok (.tuple #[.agg #[.int .i64 0, .slice none 0 0, .int .i64 0, .slice none 0 0], .bool false]) w := by kernel_rfl
theorem as_num_unknown (w : World) : (Instr.typeAssert (.iface 159 (.agg #[])) 155 158 true).run Tryd.prog w = .ok (.tuple #[.agg #[], .bool false]) w := by kernel_rfl
theorem as_num_num (w : World) : (Instr.typeAssert (.iface 159 (.agg #[])) 155 159 true).run Tryd.prog w = .ok (.tuple #[.agg #[], .bool true]) w := by kernel_rfl
theorem as_num_bool (w : World) : (Instr.typeAssert (.iface 159 (.agg #[])) 155 160 true).run Tryd.prog w = .ok (.tuple #[.agg #[], .bool false]) w := by kernel_rfl
theorem as_num_arrow (w : World) : (Instr.typeAssert (.iface 159 (.agg #[])) 155 162 true).run Tryd.prog w = .ok (.tuple #[.agg #[.int .i64 0, .slice none 0 0, .int .i64 0, .slice none 0 0], .bool false]) w := by kernel_rfl
theorem as_num_pair (w : World) : (Instr.typeAssert (.iface 159 (.agg #[])) 155 164 true).run Tryd.prog w = .ok (.tuple #[.agg #[.int .i64 0, .slice none 0 0, .int .i64 0, .slice none 0 0], .bool false]) w := by kernel_rfl
theorem as_bool_unknown (w : World) : (Instr.typeAssert (.iface 160 (.agg #[])) 155 158 true).run Tryd.prog w = .ok (.tuple #[.agg #[], .bool false]) w := by kernel_rfl
theorem as_bool_num (w : World) : (Instr.typeAssert (.iface 160 (.agg #[])) 155 159 true).run Tryd.prog w = .ok (.tuple #[.agg #[], .bool false]) w := by kernel_rfl
theorem as_bool_bool (w : World) : (Instr.typeAssert (.iface 160 (.agg #[])) 155 160 true).run Tryd.prog w = .ok (.tuple #[.agg #[], .bool true]) w := by kernel_rfl
theorem as_bool_arrow (w : World) : (Instr.typeAssert (.iface 160 (.agg #[])) 155 162 true).run Tryd.prog w = .ok (.tuple #[.agg #[.int .i64 0, .slice none 0 0, .int .i64 0, .slice none 0 0], .bool false]) w := by kernel_rfl
theorem as_bool_pair (w : World) : (Instr.typeAssert (.iface 160 (.agg #[])) 155 164 true).run Tryd.prog w = .ok (.tuple #[.agg #[.int .i64 0, .slice none 0 0, .int .i64 0, .slice none 0 0], .bool false]) w := by kernel_rfl
theorem as_arrow_unknown (a b c d : Value) (w : World) : (Instr.typeAssert (.iface 162 (.agg #[a, b, c, d])) 155 158 true).run Tryd.prog w = .ok (.tuple #[.agg #[], .bool false]) w := by kernel_rfl
theorem as_arrow_num (a b c d : Value) (w : World) : (Instr.typeAssert (.iface 162 (.agg #[a, b, c, d])) 155 159 true).run Tryd.prog w = .ok (.tuple #[.agg #[], .bool false]) w := by kernel_rfl
theorem as_arrow_bool (a b c d : Value) (w : World) : (Instr.typeAssert (.iface 162 (.agg #[a, b, c, d])) 155 160 true).run Tryd.prog w = .ok (.tuple #[.agg #[], .bool false]) w := by kernel_rfl
theorem as_arrow_arrow (a b c d : Value) (w : World) : (Instr.typeAssert (.iface 162 (.agg #[a, b, c, d])) 155 162 true).run Tryd.prog w = .ok (.tuple #[.agg #[a, b, c, d], .bool true]) w := by kernel_rfl
theorem as_arrow_pair (a b c d : Value) (w : World) : (Instr.typeAssert (.iface 162 (.agg #[a, b, c, d])) 155 164 true).run Tryd.prog w = .ok (.tuple #[.agg #[.int .i64 0, .slice none 0 0, .int .i64 0, .slice none 0 0], .bool false]) w := by kernel_rfl
theorem as_pair_unknown (a b c d : Value) (w : World) : (Instr.typeAssert (.iface 164 (.agg #[a, b, c, d])) 155 158 true).run Tryd.prog w = .ok (.tuple #[.agg #[], .bool false]) w := by kernel_rfl
theorem as_pair_num (a b c d : Value) (w : World) : (Instr.typeAssert (.iface 164 (.agg #[a, b, c, d])) 155 159 true).run Tryd.prog w = .ok (.tuple #[.agg #[], .bool false]) w := by kernel_rfl
theorem as_pair_bool (a b c d : Value) (w : World) : (Instr.typeAssert (.iface 164 (.agg #[a, b, c, d])) 155 160 true).run Tryd.prog w = .ok (.tuple #[.agg #[], .bool false]) w := by kernel_rfl
theorem as_pair_arrow (a b c d : Value) (w : World) : (Instr.typeAssert (.iface 164 (.agg #[a, b, c, d])) 155 162 true).run Tryd.prog w = .ok (.tuple #[.agg #[.int .i64 0, .slice none 0 0, .int .i64 0, .slice none 0 0], .bool false]) w := by kernel_rfl
theorem as_pair_pair (a b c d : Value) (w : World) : (Instr.typeAssert (.iface 164 (.agg #[a, b, c, d])) 155 164 true).run Tryd.prog w = .ok (.tuple #[.agg #[a, b, c, d], .bool true]) w := by kernel_rfl
end Go.Proofs.YtcohfbdhdngplaaDoor
/-
  Proved: the method parts of each of the five nodes gives the parts of a type (none for the first three), and leaves the memory that was there as it was; which function a call of parts through the interface runs.
-/
namespace Go.Proofs.YtcohfbdhdngplaaDoor
open Go.RowKit

theorem meth_unknown (n : Nat) (w : World) : (method (n + 1) 158 (.agg #[]) "loop.example/g00585/impl.parts").run Tryd.prog w = .ok (186, .agg #[]) w := by kernel_rfl
theorem meth_num (n : Nat) (w : World) : (method (n + 1) 159 (.agg #[]) "loop.example/g00585/impl.parts").run Tryd.prog w = .ok (187, .agg #[]) w := by kernel_rfl
theorem meth_bool (n : Nat) (w : World) : (method (n + 1) 160 (.agg #[]) "loop.example/g00585/impl.parts").run Tryd.prog w = .ok (188, .agg #[]) w := by kernel_rfl
theorem meth_arrow (n : Nat) (w : World) (a b c d : Value) : (method (n + 1) 162 (.agg #[a, b, c, d]) "loop.example/g00585/impl.parts").run Tryd.prog w = .ok (189, .agg #[a, b, c, d]) w := by kernel_rfl
theorem meth_pair (n : Nat) (w : World) (a b c d : Value) : (method (n + 1) 164 (.agg #[a, b, c, d]) "loop.example/g00585/impl.parts").run Tryd.prog w = .ok (190, .agg #[a, b, c, d]) w := by kernel_rfl

set_option maxRecDepth 100000 in
theorem parts_unknown (w : World) : Calls Tryd.prog 186 #[.agg #[]] w fun e w' => e = .returned (.slice none 0 0) ∧ Below w.heap.size w w' := by
  go_enter Tryd.func186, Tryd.ntmps186
  go_wp2_with fail
  go_ret
  exact ⟨rfl, below_alloc _ _⟩
set_option maxRecDepth 100000 in
theorem parts_num (w : World) : Calls Tryd.prog 187 #[.agg #[]] w fun e w' => e = .returned (.slice none 0 0) ∧ Below w.heap.size w w' := by
  go_enter Tryd.func187, Tryd.ntmps187
  go_wp2_with fail
  go_ret
  exact ⟨rfl, below_alloc _ _⟩
set_option maxRecDepth 100000 in
theorem parts_bool (w : World) : Calls Tryd.prog 188 #[.agg #[]] w fun e w' => e = .returned (.slice none 0 0) ∧ Below w.heap.size w w' := by
  go_enter Tryd.func188, Tryd.ntmps188
  go_wp2_with fail
  go_ret
  exact ⟨rfl, below_alloc _ _⟩
def PartsEnd (w0 : World) (d : Nat) (t1 t2 : Ty) (w : World) (e : Ending) (w' : World) : Prop :=
  ∃ b, e = .returned (.slice (some ⟨b, 0, none⟩) 2 2) ∧ RowIn (TyAt w0 d) w' w.heap.size (.slice (some ⟨b, 0, none⟩) 2 2) [t1, t2] ∧ Below w.heap.size w w'
theorem tys_two {w0 w : World} {d b lo : Nat} {t1 t2 : Ty} {k1 k2 : Int} {s1 s2 : Value} (hlo : lo ≤ b) (hb : b < w.heap.size) (h0 : w.cell? ⟨b, 0, none⟩ = some (.int .i64 k1)) (h1 : w.cell? ⟨b, 1, none⟩ = some s1) (h2 : w.cell? ⟨b, 2, none⟩ = some (.int .i64 k2)) (h3 : w.cell? ⟨b, 3, none⟩ = some s2)
    (ht1 : TyAt w0 d (.agg #[.int .i64 k1, s1]) t1) (ht2 : TyAt w0 d (.agg #[.int .i64 k2, s2]) t2) : RowIn (TyAt w0 d) w lo (.slice (some ⟨b, 0, none⟩) 2 2) [t1, t2] := by
  refine ⟨_, _, rfl, Nat.le_refl _, by simp, fun j hj => ?_⟩
  match j, hj with
  | 0, _ => exact ⟨b, 0, _, _, rfl, hlo, hb, by simpa using h0, by simpa using h1, ht1⟩
  | 1, _ => exact ⟨b, 0, _, _, rfl, hlo, hb, by simpa using h2, by simpa using h3, ht2⟩
theorem box_four {w : World} {a b c d : Value} {T : TypeId} : BoxAt ((w.alloc (.cells #[a, b, c, d] T)).alloc (.cells #[a, b, c, d] 32)) (w.heap.size + 1) #[a, b, c, d] := by
  have h := BoxAt.new (w.alloc (.cells #[a, b, c, d] T)) #[a, b, c, d] 32
  rw [show (w.alloc (.cells #[a, b, c, d] T)).heap.size = w.heap.size + 1 from by simp] at h
  exact h
set_option maxRecDepth 100000 in
set_option maxHeartbeats 1000000 in
theorem parts_arrow (w0 : World) (d : Nat) (t1 t2 : Ty) (k1 k2 : Int) (v1 v2 : Value) (w : World) (h1 : TyAt w0 d (.agg #[.int .i64 k1, v1]) t1) (h2 : TyAt w0 d (.agg #[.int .i64 k2, v2]) t2) :
    Calls Tryd.prog 189 #[.agg #[.int .i64 k1, v1, .int .i64 k2, v2]] w (PartsEnd w0 d t1 t2 w) := by
  obtain ⟨_, s1, n1, c1, _, rfl⟩ := at_parts h1
  obtain ⟨_, s2, n2, c2, _, rfl⟩ := at_parts h2
  have H1 := Lib.hid h1
  have H2 := Lib.hid h2
  clear h1 h2
  go_enter Tryd.func189, Tryd.ntmps189
  go_wp2_with fail
  go_ret
  have X := ((Below.refl w.heap.size w).alloc (Nat.le_refl _) (.cells #[.int .i64 k1, .slice s1 n1 c1, .int .i64 k2, .slice s2 n2 c2] 162)).alloc (by simp) (.cells #[.int .i64 k1, .slice s1 n1 c1, .int .i64 k2, .slice s2 n2 c2] 32)
  have Y := box_four (w := w) (a := .int .i64 k1) (b := .slice s1 n1 c1) (c := .int .i64 k2) (d := .slice s2 n2 c2) (T := 162)
  exact ⟨_, rfl, tys_two (by omega) Y.1 (Y.2 0) (Y.2 1) (Y.2 2) (Y.2 3) H1.out H2.out, X⟩
set_option maxRecDepth 100000 in
set_option maxHeartbeats 1000000 in
theorem parts_pair (w0 : World) (d : Nat) (t1 t2 : Ty) (k1 k2 : Int) (v1 v2 : Value) (w : World) (h1 : TyAt w0 d (.agg #[.int .i64 k1, v1]) t1) (h2 : TyAt w0 d (.agg #[.int .i64 k2, v2]) t2) :
    Calls Tryd.prog 190 #[.agg #[.int .i64 k1, v1, .int .i64 k2, v2]] w (PartsEnd w0 d t1 t2 w) := by
  obtain ⟨_, s1, n1, c1, _, rfl⟩ := at_parts h1
  obtain ⟨_, s2, n2, c2, _, rfl⟩ := at_parts h2
  have H1 := Lib.hid h1
  have H2 := Lib.hid h2
  clear h1 h2
  go_enter Tryd.func190, Tryd.ntmps190
  go_wp2_with fail
  go_ret
  have X := ((Below.refl w.heap.size w).alloc (Nat.le_refl _) (.cells #[.int .i64 k1, .slice s1 n1 c1, .int .i64 k2, .slice s2 n2 c2] 164)).alloc (by simp) (.cells #[.int .i64 k1, .slice s1 n1 c1, .int .i64 k2, .slice s2 n2 c2] 32)
  have Y := box_four (w := w) (a := .int .i64 k1) (b := .slice s1 n1 c1) (c := .int .i64 k2) (d := .slice s2 n2 c2) (T := 164)
  exact ⟨_, rfl, tys_two (by omega) Y.1 (Y.2 0) (Y.2 1) (Y.2 2) (Y.2 3) H1.out H2.out, X⟩
end Go.Proofs.YtcohfbdhdngplaaDoor
/-
  Proved: impl.typeWithin says whether a type's tree has the form of a type and fits into the room and the depth that are left; it counts the room down, and touches nothing else.
-/
namespace Go.Proofs.YtcohfbdhdngplaaDoor
open Go.RowKit

def within (t : Ty) (r dp : Int) : Bool := decide ((t.size : Int) ≤ r) && decide ((t.depth : Int) ≤ dp) && t.form
def WithinEnd (p : Nat) (r dp : Int) (t : Ty) (w : World) (e : Ending) (w' : World) : Prop :=
  ∃ r' : Int, e = .returned (.bool (within t r dp)) ∧ w'.cell? ⟨p, 0, none⟩ = some (.int .i64 r') ∧ w'.frozen? ⟨p, 0, none⟩ = false ∧ r - t.size ≤ r' ∧ r' ≤ r ∧ (within t r dp = true → r' = r - t.size) ∧
    Below p w w' ∧ (∀ b, b < w.heap.size → b ≠ p → w'.heap[b]? = w.heap[b]?)
/-- What the count leaves of memory: below p nothing has changed, nor any old block but p; the room holds r. -/
def Room (p : Nat) (r : Int) (w w' : World) : Prop :=
  w'.cell? ⟨p, 0, none⟩ = some (.int .i64 r) ∧ w'.frozen? ⟨p, 0, none⟩ = false ∧ Below p w w' ∧ (∀ b, b < w.heap.size → b ≠ p → w'.heap[b]? = w.heap[b]?)
theorem Room.stored {p : Nat} {r : Int} {x : Value} {w w2 : World} (hp : p < w.heap.size) (hb : Below w.heap.size w w2) (e0 : w2.cell? ⟨p, 0, none⟩ = some x) (e1 : w2.frozen? ⟨p, 0, none⟩ = false) : Room p r w (w2.setCell ⟨p, 0, none⟩ (.int .i64 r)) := by
  refine ⟨by simp [go_sem, e0], by simp [go_sem, e1], (hb.mono (Nat.le_of_lt hp)).setCell (Nat.le_refl _) _, fun b h1 h2 => ?_⟩
  rw [heap_setCell_other _ _ _ _ h2]
  exact hb.block b h1
theorem Room.below {p : Nat} {r : Int} {w w1 w2 : World} (hp : p < w.heap.size) (h : Room p r w w1) (hb : Below w1.heap.size w1 w2) : Room p r w w2 := by
  obtain ⟨h0, h1, h2, h3⟩ := h
  have hz := h2.size
  refine ⟨(hb.cell (p := ⟨p, 0, none⟩) (Nat.lt_of_lt_of_le hp hz)).trans h0, (hb.frozen (p := ⟨p, 0, none⟩) (Nat.lt_of_lt_of_le hp hz)).trans h1, h2.trans (hb.mono (by omega)), fun b hb1 hb2 => ?_⟩
  rw [hb.block b (by omega)]
  exact h3 b hb1 hb2
theorem Room.on {p : Nat} {r r2 : Int} {w w1 w2 : World} (h : Room p r w w1) (h2 : Room p r2 w1 w2) : Room p r2 w w2 := by
  obtain ⟨_, _, g2, g3⟩ := h
  obtain ⟨k0, k1, k2, k3⟩ := h2
  refine ⟨k0, k1, g2.trans k2, fun b hb1 hb2 => ?_⟩
  rw [k3 b (by have := g2.size; omega) hb2]
  exact g3 b hb1 hb2
theorem WithinEnd.of {p : Nat} {r dp r' : Int} {t : Ty} {w w' : World} {b : Bool} (hb : within t r dp = b) (hr : Room p r' w w') (h1 : r - t.size ≤ r') (h2 : r' ≤ r) (h3 : b = true → r' = r - t.size) : WithinEnd p r dp t w (.returned (.bool b)) w' := by
  subst hb
  exact ⟨r', rfl, hr.1, hr.2.1, h1, h2, h3, hr.2.2.1, hr.2.2.2⟩
theorem WithinEnd.room {p : Nat} {r dp : Int} {t : Ty} {w w' : World} {e : Ending} (h : WithinEnd p r dp t w e w') : ∃ r', e = .returned (.bool (within t r dp)) ∧ Room p r' w w' ∧ r - t.size ≤ r' ∧ r' ≤ r ∧ (within t r dp = true → r' = r - t.size) := by
  obtain ⟨r', h0, h1, h2, h3, h4, h5, h6, h7⟩ := h
  exact ⟨r', h0, ⟨h1, h2, h6, h7⟩, h3, h4, h5⟩
theorem Ty.depths_get (ts : List Ty) (k : Nat) (h : k < ts.length) : ts[k].depth ≤ Ty.depths ts := by
  induction ts generalizing k with
  | nil => simp at h
  | cons s r ih =>
    cases k with
    | zero => simp only [List.getElem_cons_zero, Ty.depths]; omega
    | succ k => simp only [List.getElem_cons_succ, Ty.depths]; have := ih k (by simpa using h); omega
theorem within_true {t : Ty} {r dp : Int} (h : within t r dp = true) : (t.size : Int) ≤ r ∧ (t.depth : Int) ≤ dp ∧ t.form = true := by
  simp only [within, Bool.and_eq_true, decide_eq_true_eq] at h
  exact ⟨h.1.1, h.1.2, h.2⟩
theorem within_sub {kd r dp r2 : Int} {ts : List Ty} {k : Nat} (h : k < ts.length) (hr : r2 = r - 1 - Ty.sizes (ts.take k)) (hf : within ts[k] r2 (dp - 1) = false) : within (.node kd ts) r dp = false := by
  cases hw : within (.node kd ts) r dp with
  | false => rfl
  | true =>
    obtain ⟨w1, w2, w3⟩ := within_true hw
    simp only [Ty.size, Ty.depth, Ty.form, Bool.and_eq_true] at w1 w2 w3
    have h1 := Ty.sizes_take ts k h
    have h2 := Ty.sizes_le ts (k + 1)
    have h3 := Ty.depths_get ts k h
    have h4 : ts[k].form = true := by
      have e := Ty.forms_take ts k h
      cases hfk : ts[k].form with
      | true => rfl
      | false =>
        rw [hfk, Bool.and_false] at e
        have := Ty.forms_false ts (k + 1) e
        rw [this] at w3; exact absurd w3.1 (by simp)
    have : within ts[k] r2 (dp - 1) = true := by
      simp only [within, Bool.and_eq_true, decide_eq_true_eq]
      exact ⟨⟨by omega, by omega⟩, h4⟩
    rw [this] at hf; cases hf
theorem within_mk {t : Ty} {r dp : Int} (h1 : (t.size : Int) ≤ r) (h2 : (t.depth : Int) ≤ dp) (h3 : t.form = true) : within t r dp = true := by
  simp only [within, Bool.and_eq_true, decide_eq_true_eq]
  exact ⟨⟨h1, h2⟩, h3⟩
set_option maxRecDepth 100000 in
set_option maxHeartbeats 4000000 in
theorem implWithin (w0 : World) : ∀ (d : Nat) (v : Value) (t : Ty) (p : Nat) (r dp : Int) (w : World), TyAt w0 d v t → Below w0.heap.size w0 w → w0.heap.size ≤ p → t.size ≤ 1048577 → p < w.heap.size → 0 ≤ r → r ≤ 1048576 → 0 ≤ dp → dp ≤ 100 →
    w.cell? ⟨p, 0, none⟩ = some (.int .i64 r) → w.frozen? ⟨p, 0, none⟩ = false →
    Calls Tryd.prog 140 #[v, .pointer (some ⟨p, 0, none⟩), .int .i64 dp] w (WithinEnd p r dp t w)
  | 0, _, _, _, _, _, _, h, _, _, _, _, _, _, _, _, _, _ => h.elim
  | d + 1, v, .node kd ts, p, r, dp, w, h, hw0, hp0, hsz, hp, hr0, hr1, hd0, hd1, hcell, hfroz => by
    have IH : Hid (∀ (v : Value) (t : Ty) (p : Nat) (r dp : Int) (w : World), TyAt w0 d v t → Below w0.heap.size w0 w → w0.heap.size ≤ p → t.size ≤ 1048577 → p < w.heap.size → 0 ≤ r → r ≤ 1048576 → 0 ≤ dp → dp ≤ 100 →
      w.cell? ⟨p, 0, none⟩ = some (.int .i64 r) → w.frozen? ⟨p, 0, none⟩ = false →
      Calls Tryd.prog 140 #[v, .pointer (some ⟨p, 0, none⟩), .int .i64 dp] w (WithinEnd p r dp t w)) := implWithin w0 d
    have hlen : ts.length ≤ 1152921504606846976 := by have := Ty.length_le ts; simp [Ty.size] at hsz; omega
    have HSZ : Hid (1 + Ty.sizes ts ≤ 1048577) := by simp [Ty.size] at hsz; show _ ≤ _; omega
    have hszi : (Ty.node kd ts).size = 1 + Ty.sizes ts := rfl
    have HSI := Lib.hid hszi
    clear hsz hszi
    have HT := Lib.hid h
    obtain ⟨sk, sa, sn, sc, rfl⟩ := agg_parts h
    clear h
    have HW0 := Lib.hid hw0; clear hw0
    have hb := HW0.out.alloc HW0.out.size (.cells #[.int .i64 sk, .slice sa sn sc] 32)
    have HW1 := Lib.hid hb; clear hb
    have hpw : ¬ (p = w.heap.size) := by omega
    go_enter Tryd.func140, Tryd.ntmps140
    go_wp2_with fail
    refine (implNode w0 d _ kd ts _ HT.out HW1.out hlen).mono ?_
    rintro e w2 ⟨n, rfl, hnode, hb⟩
    have B2 := Lib.hid (below_on (below_alloc w _) hb (by simp)); clear hb HW1
    have e0 := (B2.out.cell (p := ⟨p, 0, none⟩) hp).trans hcell
    have e1 := (B2.out.frozen (p := ⟨p, 0, none⟩) hp).trans hfroz
    have R2 := Lib.hid (Room.stored (r := r - 1) hp B2.out e0 e1)
    clear hcell hfroz
    have fin : ∀ b, within (.node kd ts) r dp = b → b = false → WithinEnd p r dp (.node kd ts) w (.returned (.bool b)) (w2.setCell ⟨p, 0, none⟩ (.int .i64 (r - 1))) := fun b h1 h2 =>
      WithinEnd.of h1 R2.out (by rw [HSI.out]; omega) (by omega) (fun h => by rw [h2] at h; cases h)
    have FIN := Lib.hid fin; clear fin
    have HSG : Hid (Ty.size (.node kd ts) = 1 + Ty.sizes ts) := HSI.out
    by_cases hkb : kindOk kd ts.length = false
    · have hn : n = .nilIface := by
        rcases hnode with ⟨_, h⟩ | ⟨h, _⟩ | ⟨h, _⟩
        · exact h
        · rw [hkb] at h; cases h
        · rw [hkb] at h; cases h
      subst hn
      go_wp2_with fail
      go_ret
      exact FIN.out _ (by simp [within, Ty.form, hkb]) rfl
    have hko : kindOk kd ts.length = true := by simpa using hkb
    have HKO := Lib.hid hko; clear hko hkb
    have early : r < 1 ∨ dp = 0 → within (.node kd ts) r dp = false := fun h => by
      cases hw : within (.node kd ts) r dp with
      | false => rfl
      | true =>
        obtain ⟨w1, w2, w3⟩ := within_true hw
        simp only [Ty.size, Ty.depth] at w1 w2
        omega
    have EARLY := Lib.hid early; clear early
    by_cases hr : r < 1
    · rcases hnode with ⟨h, _⟩ | ⟨_, rfl, ⟨rfl, rfl⟩ | ⟨rfl, rfl⟩ | ⟨rfl, rfl⟩⟩ | ⟨_, t1, t2, k1, s1, k2, s2, rfl, ht1, ht2, ⟨rfl, rfl⟩ | ⟨rfl, rfl⟩⟩
      · rw [HKO.out] at h; cases h
      all_goals (go_wp2_with fail; go_ret; exact FIN.out _ (EARLY.out (Or.inl hr)) rfl)
    by_cases hd : dp = 0
    · have hdb : (dp == 0) = true := by simp [hd]
      rcases hnode with ⟨h, _⟩ | ⟨_, rfl, ⟨rfl, rfl⟩ | ⟨rfl, rfl⟩ | ⟨rfl, rfl⟩⟩ | ⟨_, t1, t2, k1, s1, k2, s2, rfl, ht1, ht2, ⟨rfl, rfl⟩ | ⟨rfl, rfl⟩⟩
      · rw [HKO.out] at h; cases h
      all_goals (go_wp2_with fail; go_ret; exact FIN.out _ (EARLY.out (Or.inr hd)) rfl)
    have hdb : (dp == 0) = false := by simp [hd]
    clear FIN EARLY
    rcases hnode with ⟨h, _⟩ | ⟨_, rfl, ⟨rfl, rfl⟩ | ⟨rfl, rfl⟩ | ⟨rfl, rfl⟩⟩ | ⟨_, t1, t2, k1, s1, k2, s2, rfl, ht1, ht2, ⟨rfl, rfl⟩ | ⟨rfl, rfl⟩⟩
    · rw [HKO.out] at h; cases h
    · have hm := meth_unknown
      go_wp2_with fail
      refine (parts_unknown _).mono ?_
      rintro e w4 ⟨rfl, hb⟩
      have R4 := Lib.hid (R2.out.below hp hb)
      have HZ : Hid (w.heap.size ≤ w2.heap.size) := B2.out.size
      have hz4 := hb.size
      rw [World.size_setCell] at hz4
      clear hb R2 e0 e1 B2 hm
      have hz2 : w.heap.size ≤ w2.heap.size := HZ.out
      clear HZ
      go_wp2_with fail
      go_loopw [32] (fun i wr => ∃ k : Nat, k ≤ 0 ∧ i = .int .i64 k ∧ 0 ≤ r - 1 - (Ty.sizes (List.take k []) : Int) ∧ (Ty.depths (List.take k []) : Int) ≤ dp - 1 ∧ Ty.forms (List.take k []) = true ∧ Room p (r - 1 - Ty.sizes (List.take k [])) w wr ∧ w4.heap.size ≤ wr.heap.size ∧ (∀ b, b < w4.heap.size → b ≠ p → wr.heap[b]? = w4.heap[b]?)) (fun i _ => 0 - (intOf i).toNat)
      case atStart => exact ⟨0, by omega, rfl, by simp [Ty.sizes]; omega, by simp [Ty.depths]; omega, by simp [Ty.forms], by simpa [Ty.sizes] using R4.out, Nat.le_refl _, fun _ _ _ => rfl⟩
      case round =>
        obtain ⟨k, hk, rfl, hs, hds, hf, hroom, hz, hkeep⟩ := hrel
        have HS := Lib.hid hs
        have HD := Lib.hid hds
        have HF := Lib.hid hf
        have HR := Lib.hid hroom
        have HK := Lib.hid hkeep
        clear hs hds hf hroom hkeep
        obtain rfl : k = 0 := by omega
        have hfin : within (.node 1 []) r dp = true := by
          have h1 : 0 ≤ r - 1 - (Ty.sizes [] : Int) := HS.out
          have h2 : (Ty.depths [] : Int) ≤ dp - 1 := HD.out
          have h3 : Ty.forms [] = true := HF.out
          have h4 := HKO.out
          exact within_mk (show ((1 + Ty.sizes [] : Nat) : Int) ≤ r by omega) (show ((1 + Ty.depths [] : Nat) : Int) ≤ dp by omega) (by simp only [Ty.form, h3, h4, Bool.and_self])
        have HFIN := Lib.hid hfin; clear hfin
        have h1 : 0 ≤ r - 1 - (Ty.sizes [] : Int) := HS.out
        have hlo : r - ↑(1 + Ty.sizes []) ≤ r - 1 - ↑(Ty.sizes []) := by omega
        have HLO := Lib.hid hlo; clear hlo h1
        go_wp2_with fail
        go_ret
        exact WithinEnd.of (r' := r - 1 - ↑(Ty.sizes [])) HFIN.out HR.out (by rw [HSG.out]; exact HLO.out) (by omega) (fun _ => by rw [HSG.out]; omega)
    · have hm := meth_num
      go_wp2_with fail
      refine (parts_num _).mono ?_
      rintro e w4 ⟨rfl, hb⟩
      have R4 := Lib.hid (R2.out.below hp hb)
      have HZ : Hid (w.heap.size ≤ w2.heap.size) := B2.out.size
      have hz4 := hb.size
      rw [World.size_setCell] at hz4
      clear hb R2 e0 e1 B2 hm
      have hz2 : w.heap.size ≤ w2.heap.size := HZ.out
      clear HZ
      go_wp2_with fail
      go_loopw [32] (fun i wr => ∃ k : Nat, k ≤ 0 ∧ i = .int .i64 k ∧ 0 ≤ r - 1 - (Ty.sizes (List.take k []) : Int) ∧ (Ty.depths (List.take k []) : Int) ≤ dp - 1 ∧ Ty.forms (List.take k []) = true ∧ Room p (r - 1 - Ty.sizes (List.take k [])) w wr ∧ w4.heap.size ≤ wr.heap.size ∧ (∀ b, b < w4.heap.size → b ≠ p → wr.heap[b]? = w4.heap[b]?)) (fun i _ => 0 - (intOf i).toNat)
      case atStart => exact ⟨0, by omega, rfl, by simp [Ty.sizes]; omega, by simp [Ty.depths]; omega, by simp [Ty.forms], by simpa [Ty.sizes] using R4.out, Nat.le_refl _, fun _ _ _ => rfl⟩
      case round =>
        obtain ⟨k, hk, rfl, hs, hds, hf, hroom, hz, hkeep⟩ := hrel
        have HS := Lib.hid hs
        have HD := Lib.hid hds
        have HF := Lib.hid hf
        have HR := Lib.hid hroom
        have HK := Lib.hid hkeep
        clear hs hds hf hroom hkeep
        obtain rfl : k = 0 := by omega
        have hfin : within (.node 2 []) r dp = true := by
          have h1 : 0 ≤ r - 1 - (Ty.sizes [] : Int) := HS.out
          have h2 : (Ty.depths [] : Int) ≤ dp - 1 := HD.out
          have h3 : Ty.forms [] = true := HF.out
          have h4 := HKO.out
          exact within_mk (show ((1 + Ty.sizes [] : Nat) : Int) ≤ r by omega) (show ((1 + Ty.depths [] : Nat) : Int) ≤ dp by omega) (by simp only [Ty.form, h3, h4, Bool.and_self])
        have HFIN := Lib.hid hfin; clear hfin
        have h1 : 0 ≤ r - 1 - (Ty.sizes [] : Int) := HS.out
        have hlo : r - ↑(1 + Ty.sizes []) ≤ r - 1 - ↑(Ty.sizes []) := by omega
        have HLO := Lib.hid hlo; clear hlo h1
        go_wp2_with fail
        go_ret
        exact WithinEnd.of (r' := r - 1 - ↑(Ty.sizes [])) HFIN.out HR.out (by rw [HSG.out]; exact HLO.out) (by omega) (fun _ => by rw [HSG.out]; omega)
    · have hm := meth_bool
      go_wp2_with fail
      refine (parts_bool _).mono ?_
      rintro e w4 ⟨rfl, hb⟩
      have R4 := Lib.hid (R2.out.below hp hb)
      have HZ : Hid (w.heap.size ≤ w2.heap.size) := B2.out.size
      have hz4 := hb.size
      rw [World.size_setCell] at hz4
      clear hb R2 e0 e1 B2 hm
      have hz2 : w.heap.size ≤ w2.heap.size := HZ.out
      clear HZ
      go_wp2_with fail
      go_loopw [32] (fun i wr => ∃ k : Nat, k ≤ 0 ∧ i = .int .i64 k ∧ 0 ≤ r - 1 - (Ty.sizes (List.take k []) : Int) ∧ (Ty.depths (List.take k []) : Int) ≤ dp - 1 ∧ Ty.forms (List.take k []) = true ∧ Room p (r - 1 - Ty.sizes (List.take k [])) w wr ∧ w4.heap.size ≤ wr.heap.size ∧ (∀ b, b < w4.heap.size → b ≠ p → wr.heap[b]? = w4.heap[b]?)) (fun i _ => 0 - (intOf i).toNat)
      case atStart => exact ⟨0, by omega, rfl, by simp [Ty.sizes]; omega, by simp [Ty.depths]; omega, by simp [Ty.forms], by simpa [Ty.sizes] using R4.out, Nat.le_refl _, fun _ _ _ => rfl⟩
      case round =>
        obtain ⟨k, hk, rfl, hs, hds, hf, hroom, hz, hkeep⟩ := hrel
        have HS := Lib.hid hs
        have HD := Lib.hid hds
        have HF := Lib.hid hf
        have HR := Lib.hid hroom
        have HK := Lib.hid hkeep
        clear hs hds hf hroom hkeep
        obtain rfl : k = 0 := by omega
        have hfin : within (.node 3 []) r dp = true := by
          have h1 : 0 ≤ r - 1 - (Ty.sizes [] : Int) := HS.out
          have h2 : (Ty.depths [] : Int) ≤ dp - 1 := HD.out
          have h3 : Ty.forms [] = true := HF.out
          have h4 := HKO.out
          exact within_mk (show ((1 + Ty.sizes [] : Nat) : Int) ≤ r by omega) (show ((1 + Ty.depths [] : Nat) : Int) ≤ dp by omega) (by simp only [Ty.form, h3, h4, Bool.and_self])
        have HFIN := Lib.hid hfin; clear hfin
        have h1 : 0 ≤ r - 1 - (Ty.sizes [] : Int) := HS.out
        have hlo : r - ↑(1 + Ty.sizes []) ≤ r - 1 - ↑(Ty.sizes []) := by omega
        have HLO := Lib.hid hlo; clear hlo h1
        go_wp2_with fail
        go_ret
        exact WithinEnd.of (r' := r - 1 - ↑(Ty.sizes [])) HFIN.out HR.out (by rw [HSG.out]; exact HLO.out) (by omega) (fun _ => by rw [HSG.out]; omega)
    · have H1 := Lib.hid ht1
      have H2 := Lib.hid ht2
      clear ht1 ht2
      have hm := fun (n : Nat) (w : World) => meth_arrow n w (.int .i64 k1) s1 (.int .i64 k2) s2
      go_wp2_with fail
      refine (parts_arrow w0 d t1 t2 k1 k2 s1 s2 _ H1.out H2.out).mono ?_
      rintro e w4 ⟨bb, rfl, hrow, hb⟩
      have R4 := Lib.hid (R2.out.below hp hb)
      have HZ : Hid (w.heap.size ≤ w2.heap.size) := B2.out.size
      have hz4 := hb.size
      rw [World.size_setCell] at hz4
      clear hb R2 e0 e1 B2 hm
      have hz2 : w.heap.size ≤ w2.heap.size := HZ.out
      clear HZ
      have HROW : Hid (∀ j (h : j < 2), ∃ x0 x1, p < bb ∧ bb < w4.heap.size ∧ w4.cell? ⟨bb, j * 2, none⟩ = some x0 ∧ w4.cell? ⟨bb, j * 2 + 1, none⟩ = some x1 ∧ TyAt w0 d (.agg #[x0, x1]) ([t1, t2][j]'h)) := fun j hj => by
        obtain ⟨a9, c9, he, _, _, hat⟩ := hrow
        obtain ⟨b9, o9, x0, x1, ha, h1, h2, h3, h4, h5⟩ := hat j hj
        simp only [Value.slice.injEq] at he
        obtain ⟨rfl, _⟩ := he
        injection ha with ha
        injection ha with ha1 ha2
        subst ha1 ha2
        rw [World.size_setCell] at h1
        exact ⟨x0, x1, by omega, h2, by simpa using h3, by simpa using h4, h5⟩
      clear hrow H1 H2
      go_wp2_with fail
      go_loopw [32] (fun i wr => ∃ k : Nat, k ≤ 2 ∧ i = .int .i64 k ∧ 0 ≤ r - 1 - (Ty.sizes (List.take k [t1, t2]) : Int) ∧ (Ty.depths (List.take k [t1, t2]) : Int) ≤ dp - 1 ∧ Ty.forms (List.take k [t1, t2]) = true ∧ Room p (r - 1 - Ty.sizes (List.take k [t1, t2])) w wr ∧ w4.heap.size ≤ wr.heap.size ∧ (∀ b, b < w4.heap.size → b ≠ p → wr.heap[b]? = w4.heap[b]?)) (fun i _ => 2 - (intOf i).toNat)
      case atStart => exact ⟨0, by omega, rfl, by simp [Ty.sizes]; omega, by simp [Ty.depths]; omega, by simp [Ty.forms], by simpa [Ty.sizes] using R4.out, Nat.le_refl _, fun _ _ _ => rfl⟩
      case round =>
        obtain ⟨k, hk, rfl, hs, hds, hf, hroom, hz, hkeep⟩ := hrel
        have HS := Lib.hid hs
        have HD := Lib.hid hds
        have HF := Lib.hid hf
        have HR := Lib.hid hroom
        have HK := Lib.hid hkeep
        clear hs hds hf hroom hkeep
        by_cases hlt : k < 2
        · obtain ⟨x0, x1, hpb, hbl, hc0, hc1, ht⟩ := HROW.out k hlt
          obtain ⟨yk, ya, yn, yc, rfl, rfl⟩ := at_parts ht
          have x0 : wr.cell? ⟨bb, k * 2, none⟩ = some (.int .i64 yk) := by rw [World.cell?_of_block (HK.out bb hbl (by omega))]; exact hc0
          have x1 : wr.cell? ⟨bb, k * 2 + 1, none⟩ = some (.slice ya yn yc) := by rw [World.cell?_of_block (HK.out bb hbl (by omega))]; exact hc1
          have hpp := below_alloc wr (.cells #[.int .i64 yk, .slice ya yn yc] 32)
          have HTK := Lib.hid ht
          have HRP := Lib.hid (HR.out.below hp hpp)
          have HWP : Hid (Below w0.heap.size w0 (wr.alloc (.cells #[.int .i64 yk, .slice ya yn yc] 32))) := HW0.out.trans (HRP.out.2.2.1.mono hp0)
          have hg := Ty.size_get [t1, t2] k hlt
          have hzk : Ty.size ([t1, t2][k]'hlt) ≤ 1048577 := by have := HSZ.out; omega
          have hpk : p < (wr.alloc (.cells #[.int .i64 yk, .slice ya yn yc] 32)).heap.size := by simp; omega
          obtain ⟨rr, hrr⟩ : ∃ rr, rr = r - 1 - (Ty.sizes (List.take k [t1, t2]) : Int) := ⟨_, rfl⟩
          rw [← hrr] at HRP HS
          have HRR := Lib.hid hrr; clear hrr
          have g0 : 0 ≤ rr := HS.out
          have g1 : rr ≤ 1048576 := by have := HRR.out; omega
          have gd : 0 ≤ dp - 1 := by omega
          clear ht hc0 hc1 hpp hg
          go_wp2_with fail
          refine (IH.out _ _ p rr (dp - 1) _ HTK.out HWP.out hp0 hzk hpk g0 g1 gd (by omega) HRP.out.1 HRP.out.2.1).mono ?_
          rintro e w6 hend
          obtain ⟨r6, rfl, hr6, h1, h2, h3⟩ := hend.room
          have HR6 := Lib.hid (HRP.out.on hr6)
          have HK6 : Hid (∀ b, b < w4.heap.size → b ≠ p → w6.heap[b]? = w4.heap[b]?) := fun b hb1 hb2 => by
            rw [hr6.2.2.2 b (by simp; omega) hb2, heap_alloc_old _ _ (by omega)]
            exact HK.out b hb1 hb2
          have hz6 : w4.heap.size ≤ w6.heap.size := by have := hr6.2.2.1.size; simp at this; omega
          clear hend hr6
          cases hw : within ([t1, t2][k]'hlt) rr (dp - 1) with
          | true =>
            have h4 := h3 hw
            obtain ⟨u1, u2, u3⟩ := within_true hw
            subst h4
            have HU3 := Lib.hid u3
            have T1 := Lib.hid (Ty.sizes_take [t1, t2] k hlt)
            have T2 := Lib.hid (Ty.depths_take [t1, t2] k hlt)
            have T3 := Lib.hid (Ty.forms_take [t1, t2] k hlt)
            have HW := Lib.hid hw
            have U2 := Lib.hid u2
            have U1 := Lib.hid u1
            clear h1 h2 h3 u3 u2 u1 hw
            have eq1 : Hid (rr - ↑(Ty.size ([t1, t2][k]'hlt)) = r - 1 - ↑(Ty.sizes (List.take (k + 1) [t1, t2]))) := by rw [T1.out]; have := HRR.out; show _ = _; omega
            go_wp2_with fail
            exact ⟨⟨k + 1, by omega, by go_num, by rw [← eq1.out]; have := U1.out; omega, by rw [T2.out]; have := HD.out; have := U2.out; omega, by rw [T3.out, HF.out, HU3.out]; rfl, by rw [← eq1.out]; exact HR6.out, hz6, HK6.out⟩, by simp [intOf]; omega⟩
          | false =>
            have hfin := within_sub (kd := 4) (r := r) (dp := dp) hlt HRR.out hw
            have HFIN := Lib.hid hfin
            have hsz1 := Ty.sizes_take [t1, t2] k hlt
            have hsz2 := Ty.sizes_le [t1, t2] (k + 1)
            have hq := HRR.out
            have hlo : r - ↑(1 + Ty.sizes [t1, t2]) ≤ r6 := by omega
            have hhi : r6 ≤ r := by omega
            clear hfin hw hsz1 hsz2 hq h1 h2 h3
            go_wp2_with fail
            go_ret
            exact WithinEnd.of HFIN.out HR6.out (by rw [HSG.out]; exact hlo) hhi (fun h => by cases h)
        · obtain rfl : k = 2 := by omega
          have hfin : within (.node 4 [t1, t2]) r dp = true := by
            have h1 : 0 ≤ r - 1 - (Ty.sizes [t1, t2] : Int) := HS.out
            have h2 : (Ty.depths [t1, t2] : Int) ≤ dp - 1 := HD.out
            have h3 : Ty.forms [t1, t2] = true := HF.out
            have h4 := HKO.out
            exact within_mk (show ((1 + Ty.sizes [t1, t2] : Nat) : Int) ≤ r by omega) (show ((1 + Ty.depths [t1, t2] : Nat) : Int) ≤ dp by omega) (by simp only [Ty.form, h3, h4, Bool.and_self])
          have HFIN := Lib.hid hfin; clear hfin
          have h1 : 0 ≤ r - 1 - (Ty.sizes [t1, t2] : Int) := HS.out
          have hlo : r - ↑(1 + Ty.sizes [t1, t2]) ≤ r - 1 - ↑(Ty.sizes [t1, t2]) := by omega
          have HLO := Lib.hid hlo; clear hlo h1
          go_wp2_with fail
          go_ret
          exact WithinEnd.of (r' := r - 1 - ↑(Ty.sizes [t1, t2])) HFIN.out HR.out (by rw [HSG.out]; exact HLO.out) (by omega) (fun _ => by rw [HSG.out]; omega)
    · have H1 := Lib.hid ht1
      have H2 := Lib.hid ht2
      clear ht1 ht2
      have hm := fun (n : Nat) (w : World) => meth_pair n w (.int .i64 k1) s1 (.int .i64 k2) s2
      go_wp2_with fail
      refine (parts_pair w0 d t1 t2 k1 k2 s1 s2 _ H1.out H2.out).mono ?_
      rintro e w4 ⟨bb, rfl, hrow, hb⟩
      have R4 := Lib.hid (R2.out.below hp hb)
      have HZ : Hid (w.heap.size ≤ w2.heap.size) := B2.out.size
      have hz4 := hb.size
      rw [World.size_setCell] at hz4
      clear hb R2 e0 e1 B2 hm
      have hz2 : w.heap.size ≤ w2.heap.size := HZ.out
      clear HZ
      have HROW : Hid (∀ j (h : j < 2), ∃ x0 x1, p < bb ∧ bb < w4.heap.size ∧ w4.cell? ⟨bb, j * 2, none⟩ = some x0 ∧ w4.cell? ⟨bb, j * 2 + 1, none⟩ = some x1 ∧ TyAt w0 d (.agg #[x0, x1]) ([t1, t2][j]'h)) := fun j hj => by
        obtain ⟨a9, c9, he, _, _, hat⟩ := hrow
        obtain ⟨b9, o9, x0, x1, ha, h1, h2, h3, h4, h5⟩ := hat j hj
        simp only [Value.slice.injEq] at he
        obtain ⟨rfl, _⟩ := he
        injection ha with ha
        injection ha with ha1 ha2
        subst ha1 ha2
        rw [World.size_setCell] at h1
        exact ⟨x0, x1, by omega, h2, by simpa using h3, by simpa using h4, h5⟩
      clear hrow H1 H2
      go_wp2_with fail
      go_loopw [32] (fun i wr => ∃ k : Nat, k ≤ 2 ∧ i = .int .i64 k ∧ 0 ≤ r - 1 - (Ty.sizes (List.take k [t1, t2]) : Int) ∧ (Ty.depths (List.take k [t1, t2]) : Int) ≤ dp - 1 ∧ Ty.forms (List.take k [t1, t2]) = true ∧ Room p (r - 1 - Ty.sizes (List.take k [t1, t2])) w wr ∧ w4.heap.size ≤ wr.heap.size ∧ (∀ b, b < w4.heap.size → b ≠ p → wr.heap[b]? = w4.heap[b]?)) (fun i _ => 2 - (intOf i).toNat)
      case atStart => exact ⟨0, by omega, rfl, by simp [Ty.sizes]; omega, by simp [Ty.depths]; omega, by simp [Ty.forms], by simpa [Ty.sizes] using R4.out, Nat.le_refl _, fun _ _ _ => rfl⟩
      case round =>
        obtain ⟨k, hk, rfl, hs, hds, hf, hroom, hz, hkeep⟩ := hrel
        have HS := Lib.hid hs
        have HD := Lib.hid hds
        have HF := Lib.hid hf
        have HR := Lib.hid hroom
        have HK := Lib.hid hkeep
        clear hs hds hf hroom hkeep
        by_cases hlt : k < 2
        · obtain ⟨x0, x1, hpb, hbl, hc0, hc1, ht⟩ := HROW.out k hlt
          obtain ⟨yk, ya, yn, yc, rfl, rfl⟩ := at_parts ht
          have x0 : wr.cell? ⟨bb, k * 2, none⟩ = some (.int .i64 yk) := by rw [World.cell?_of_block (HK.out bb hbl (by omega))]; exact hc0
          have x1 : wr.cell? ⟨bb, k * 2 + 1, none⟩ = some (.slice ya yn yc) := by rw [World.cell?_of_block (HK.out bb hbl (by omega))]; exact hc1
          have hpp := below_alloc wr (.cells #[.int .i64 yk, .slice ya yn yc] 32)
          have HTK := Lib.hid ht
          have HRP := Lib.hid (HR.out.below hp hpp)
          have HWP : Hid (Below w0.heap.size w0 (wr.alloc (.cells #[.int .i64 yk, .slice ya yn yc] 32))) := HW0.out.trans (HRP.out.2.2.1.mono hp0)
          have hg := Ty.size_get [t1, t2] k hlt
          have hzk : Ty.size ([t1, t2][k]'hlt) ≤ 1048577 := by have := HSZ.out; omega
          have hpk : p < (wr.alloc (.cells #[.int .i64 yk, .slice ya yn yc] 32)).heap.size := by simp; omega
          obtain ⟨rr, hrr⟩ : ∃ rr, rr = r - 1 - (Ty.sizes (List.take k [t1, t2]) : Int) := ⟨_, rfl⟩
          rw [← hrr] at HRP HS
          have HRR := Lib.hid hrr; clear hrr
          have g0 : 0 ≤ rr := HS.out
          have g1 : rr ≤ 1048576 := by have := HRR.out; omega
          have gd : 0 ≤ dp - 1 := by omega
          clear ht hc0 hc1 hpp hg
          go_wp2_with fail
          refine (IH.out _ _ p rr (dp - 1) _ HTK.out HWP.out hp0 hzk hpk g0 g1 gd (by omega) HRP.out.1 HRP.out.2.1).mono ?_
          rintro e w6 hend
          obtain ⟨r6, rfl, hr6, h1, h2, h3⟩ := hend.room
          have HR6 := Lib.hid (HRP.out.on hr6)
          have HK6 : Hid (∀ b, b < w4.heap.size → b ≠ p → w6.heap[b]? = w4.heap[b]?) := fun b hb1 hb2 => by
            rw [hr6.2.2.2 b (by simp; omega) hb2, heap_alloc_old _ _ (by omega)]
            exact HK.out b hb1 hb2
          have hz6 : w4.heap.size ≤ w6.heap.size := by have := hr6.2.2.1.size; simp at this; omega
          clear hend hr6
          cases hw : within ([t1, t2][k]'hlt) rr (dp - 1) with
          | true =>
            have h4 := h3 hw
            obtain ⟨u1, u2, u3⟩ := within_true hw
            subst h4
            have HU3 := Lib.hid u3
            have T1 := Lib.hid (Ty.sizes_take [t1, t2] k hlt)
            have T2 := Lib.hid (Ty.depths_take [t1, t2] k hlt)
            have T3 := Lib.hid (Ty.forms_take [t1, t2] k hlt)
            have HW := Lib.hid hw
            have U2 := Lib.hid u2
            have U1 := Lib.hid u1
            clear h1 h2 h3 u3 u2 u1 hw
            have eq1 : Hid (rr - ↑(Ty.size ([t1, t2][k]'hlt)) = r - 1 - ↑(Ty.sizes (List.take (k + 1) [t1, t2]))) := by rw [T1.out]; have := HRR.out; show _ = _; omega
            go_wp2_with fail
            exact ⟨⟨k + 1, by omega, by go_num, by rw [← eq1.out]; have := U1.out; omega, by rw [T2.out]; have := HD.out; have := U2.out; omega, by rw [T3.out, HF.out, HU3.out]; rfl, by rw [← eq1.out]; exact HR6.out, hz6, HK6.out⟩, by simp [intOf]; omega⟩
          | false =>
            have hfin := within_sub (kd := 5) (r := r) (dp := dp) hlt HRR.out hw
            have HFIN := Lib.hid hfin
            have hsz1 := Ty.sizes_take [t1, t2] k hlt
            have hsz2 := Ty.sizes_le [t1, t2] (k + 1)
            have hq := HRR.out
            have hlo : r - ↑(1 + Ty.sizes [t1, t2]) ≤ r6 := by omega
            have hhi : r6 ≤ r := by omega
            clear hfin hw hsz1 hsz2 hq h1 h2 h3
            go_wp2_with fail
            go_ret
            exact WithinEnd.of HFIN.out HR6.out (by rw [HSG.out]; exact hlo) hhi (fun h => by cases h)
        · obtain rfl : k = 2 := by omega
          have hfin : within (.node 5 [t1, t2]) r dp = true := by
            have h1 : 0 ≤ r - 1 - (Ty.sizes [t1, t2] : Int) := HS.out
            have h2 : (Ty.depths [t1, t2] : Int) ≤ dp - 1 := HD.out
            have h3 : Ty.forms [t1, t2] = true := HF.out
            have h4 := HKO.out
            exact within_mk (show ((1 + Ty.sizes [t1, t2] : Nat) : Int) ≤ r by omega) (show ((1 + Ty.depths [t1, t2] : Nat) : Int) ≤ dp by omega) (by simp only [Ty.form, h3, h4, Bool.and_self])
          have HFIN := Lib.hid hfin; clear hfin
          have h1 : 0 ≤ r - 1 - (Ty.sizes [t1, t2] : Int) := HS.out
          have hlo : r - ↑(1 + Ty.sizes [t1, t2]) ≤ r - 1 - ↑(Ty.sizes [t1, t2]) := by omega
          have HLO := Lib.hid hlo; clear hlo h1
          go_wp2_with fail
          go_ret
          exact WithinEnd.of (r' := r - 1 - ↑(Ty.sizes [t1, t2])) HFIN.out HR.out (by rw [HSG.out]; exact HLO.out) (by omega) (fun _ => by rw [HSG.out]; omega)
end Go.Proofs.YtcohfbdhdngplaaDoor
/-
  Proved: impl.IsValidType says whether a type's tree is a valid type; it leaves the memory that was there as it was.
-/
namespace Go.Proofs.YtcohfbdhdngplaaDoor
open Go.RowKit

theorem within_valid (t : Ty) : within t 800 24 = t.valid := by
  have e1 : decide ((t.size : Int) ≤ 800) = decide (t.size ≤ 800) := decide_eq_decide.2 (by omega)
  have e2 : decide ((t.depth : Int) ≤ 24) = decide (t.depth ≤ 24) := decide_eq_decide.2 (by omega)
  unfold within Ty.valid
  rw [e1, e2]
set_option maxRecDepth 100000 in
set_option maxHeartbeats 1000000 in
theorem implValid (d : Nat) (v : Value) (t : Ty) (w : World) (h : TyAt w d v t) (hsz : t.size ≤ 1048577) :
    Calls Tryd.prog 121 #[v] w fun e w' => e = .returned (.bool t.valid) ∧ Below w.heap.size w w' := by
  have HT := Lib.hid h
  obtain ⟨yk, ya, yn, yc, rfl⟩ := agg_parts h
  clear h
  have X : Hid (Below w.heap.size w ((w.alloc (.cells #[.int .i64 yk, .slice ya yn yc] 32)).alloc (.cells #[.int .i64 800] 3))) := ((Below.refl _ _).alloc (Nat.le_refl _) _).alloc (by simp) _
  go_enter Tryd.func121, Tryd.ntmps121
  go_wp2_with fail
  refine (implWithin w d _ t (w.heap.size + 1) 800 24 _ HT.out X.out (by omega) hsz (by simp) (by omega) (by omega) (by omega) (by omega) (by simp [go_sem]) (by simp [go_sem])).mono ?_
  intro e w' hend
  obtain ⟨r', rfl, hr, _⟩ := hend.room
  have HB := Lib.hid (X.out.trans (hr.2.2.1.mono (Nat.le_succ _)))
  clear hend hr
  go_wp2_with fail
  go_ret
  exact ⟨by rw [within_valid]; rfl, HB.out⟩
end Go.Proofs.YtcohfbdhdngplaaDoor
/-
  Proved: impl.typeText gives the text of a type's tree; the memory that was there stays as it was.
-/
namespace Go.Proofs.YtcohfbdhdngplaaDoor
open Go.RowKit

set_option maxRecDepth 100000 in
set_option maxHeartbeats 4000000 in
theorem implText : ∀ (d : Nat) (v : Value) (t : Ty) (w : World), TyAt w d v t → t.form = true → t.size ≤ 1048577 →
    Calls Tryd.prog 122 #[v] w fun e w' => e = .returned (.string t.text) ∧ Below w.heap.size w w'
  | 0, _, _, _, h, _, _ => h.elim
  | d + 1, v, .node kd ts, w, h, hfm, hsz => by
    have IH : Hid (∀ (v : Value) (t : Ty) (w : World), TyAt w d v t → t.form = true → t.size ≤ 1048577 → Calls Tryd.prog 122 #[v] w fun e w' => e = .returned (.string t.text) ∧ Below w.heap.size w w') := implText d
    have HT := Lib.hid h
    obtain ⟨yk, ya, yn, yc, rfl⟩ := agg_parts h
    clear h
    have HF := Lib.hid hfm
    have hko : kindOk kd ts.length = true := by simp only [Ty.form, Bool.and_eq_true] at hfm; exact hfm.2
    have hlen : ts.length ≤ 1152921504606846976 := by
      have : ts.length = 0 ∨ ts.length = 2 := kind_len hko
      omega
    have HKO := Lib.hid hko
    clear hfm hko
    have B : Hid (Below w.heap.size w (w.alloc (.cells #[.int .i64 yk, .slice ya yn yc] 32))) := below_alloc _ _
    go_enter Tryd.func122, Tryd.ntmps122
    go_wp2_with fail
    refine (implNode w d _ kd ts _ HT.out B.out hlen).mono ?_
    rintro e w2 ⟨n, rfl, hnode, hb⟩
    replace B := Lib.hid (below_thru B.out (Nat.le_refl _) hb)
    have hz2 := B.out.size
    clear hb HT
    rcases hnode with ⟨h, _⟩ | ⟨_, rfl, ⟨rfl, rfl⟩ | ⟨rfl, rfl⟩ | ⟨rfl, rfl⟩⟩ | ⟨_, t1, t2, k1, s1, k2, s2, rfl, ht1, ht2, ⟨rfl, rfl⟩ | ⟨rfl, rfl⟩⟩
    · rw [HKO.out] at h; cases h
    · have as_unknown := as_unknown_unknown
      go_wp2_with fail
      go_ret
      exact ⟨rfl, (B.out.alloc (by omega) _)⟩
    · have as_unknown := as_num_unknown
      have as_num := as_num_num
      go_wp2_with fail
      go_ret
      exact ⟨rfl, (B.out.alloc (by omega) _)⟩
    · have as_unknown := as_bool_unknown
      have as_num := as_bool_num
      have as_bool := as_bool_bool
      go_wp2_with fail
      go_ret
      exact ⟨rfl, (B.out.alloc (by omega) _)⟩
    · obtain ⟨_, a1, n1, c1, _, rfl⟩ := at_parts ht1
      obtain ⟨_, a2, n2, c2, _, rfl⟩ := at_parts ht2
      have as_unknown := as_arrow_unknown (.int .i64 k1) (.slice a1 n1 c1) (.int .i64 k2) (.slice a2 n2 c2)
      have as_num := as_arrow_num (.int .i64 k1) (.slice a1 n1 c1) (.int .i64 k2) (.slice a2 n2 c2)
      have as_bool := as_arrow_bool (.int .i64 k1) (.slice a1 n1 c1) (.int .i64 k2) (.slice a2 n2 c2)
      have as_arrow := as_arrow_arrow (.int .i64 k1) (.slice a1 n1 c1) (.int .i64 k2) (.slice a2 n2 c2)
      have F1 := Lib.hid (form_two HF.out).1
      have F2 := Lib.hid (form_two HF.out).2
      have z1 := t1.text_size
      have z2 := t2.text_size
      simp only [Ty.size, Ty.sizes] at hsz
      have Z1 := Lib.hid (show t1.size ≤ 1048577 by omega)
      have Z2 := Lib.hid (show t2.size ≤ 1048577 by omega)
      have m1 : ¬ (9223372036854775807 < 1 + t1.text.size) := by omega
      have m2 : ¬ (9223372036854775807 < 1 + t1.text.size + 1) := by omega
      have m3 : ¬ (9223372036854775807 < 1 + t1.text.size + 1 + t2.text.size) := by omega
      have m4 : ¬ (9223372036854775807 < 1 + t1.text.size + 1 + t2.text.size + 1) := by omega
      clear hsz z1 z2
      have hb := below_alloc w2 (.cells #[.int .i64 k1, .slice a1 n1 c1, .int .i64 k2, .slice a2 n2 c2] 162)
      have H1 := Lib.hid (ht1.below (below_thru B.out (Nat.le_refl _) hb))
      have H2 := Lib.hid (ht2.below (below_thru B.out (Nat.le_refl _) hb))
      replace B := Lib.hid (below_thru B.out (Nat.le_refl _) hb)
      have XN : Hid (BoxAt (w2.alloc (.cells #[.int .i64 k1, .slice a1 n1 c1, .int .i64 k2, .slice a2 n2 c2] 162)) w2.heap.size #[.int .i64 k1, .slice a1 n1 c1, .int .i64 k2, .slice a2 n2 c2]) := BoxAt.new _ _ _
      clear hb ht1 ht2
      go_wp2_with fail
      have hb := below_drew (w2.alloc (.cells #[.int .i64 k1, .slice a1 n1 c1, .int .i64 k2, .slice a2 n2 c2] 162))
      replace B := Lib.hid (below_thru B.out (Nat.le_refl _) hb)
      replace H1 := Lib.hid (H1.out.below hb)
      replace H2 := Lib.hid (H2.out.below hb)
      replace XN := Lib.hid (XN.out.below hb)
      clear hb
      go_region_held3 (fun w' => w'.cell? ⟨w2.heap.size, 0, none⟩ = some (.int .i64 k1) ∧ w'.cell? ⟨w2.heap.size, 1, none⟩ = some (.slice a1 n1 c1) ∧ w'.cell? ⟨w2.heap.size, 2, none⟩ = some (.int .i64 k2) ∧ w'.cell? ⟨w2.heap.size, 3, none⟩ = some (.slice a2 n2 c2)) (exact ⟨XN.out.2 0, XN.out.2 1, XN.out.2 2, XN.out.2 3⟩)
        (first
         | (go_at_call_of 122 (Value.agg #[Value.int IntKind.i64 k1, Value.slice a1 n1 c1])
            refine (IH.out _ t1 _ H1.out F1.out Z1.out).mono ?_
            rintro e w3 ⟨rfl, hb⟩
            replace B := Lib.hid (below_thru B.out (Nat.le_refl _) hb)
            replace H1 := Lib.hid (H1.out.below hb)
            replace H2 := Lib.hid (H2.out.below hb)
            replace XN := Lib.hid (XN.out.below hb)
            clear hb)
         | (go_at_call_of 122 (Value.agg #[Value.int IntKind.i64 k2, Value.slice a2 n2 c2])
            refine (IH.out _ t2 _ H2.out F2.out Z2.out).mono ?_
            rintro e w4 ⟨rfl, hb⟩
            replace B := Lib.hid (below_thru B.out (Nat.le_refl _) hb)
            replace H1 := Lib.hid (H1.out.below hb)
            replace H2 := Lib.hid (H2.out.below hb)
            replace XN := Lib.hid (XN.out.below hb)
            clear hb))
      go_wp2_with fail
      go_ret
      exact ⟨by rw [Ty.text_arrow]; rfl, B.out⟩
    · obtain ⟨_, a1, n1, c1, _, rfl⟩ := at_parts ht1
      obtain ⟨_, a2, n2, c2, _, rfl⟩ := at_parts ht2
      have as_unknown := as_pair_unknown (.int .i64 k1) (.slice a1 n1 c1) (.int .i64 k2) (.slice a2 n2 c2)
      have as_num := as_pair_num (.int .i64 k1) (.slice a1 n1 c1) (.int .i64 k2) (.slice a2 n2 c2)
      have as_bool := as_pair_bool (.int .i64 k1) (.slice a1 n1 c1) (.int .i64 k2) (.slice a2 n2 c2)
      have as_arrow := as_pair_arrow (.int .i64 k1) (.slice a1 n1 c1) (.int .i64 k2) (.slice a2 n2 c2)
      have as_pair := as_pair_pair (.int .i64 k1) (.slice a1 n1 c1) (.int .i64 k2) (.slice a2 n2 c2)
      have F1 := Lib.hid (form_two HF.out).1
      have F2 := Lib.hid (form_two HF.out).2
      have z1 := t1.text_size
      have z2 := t2.text_size
      simp only [Ty.size, Ty.sizes] at hsz
      have Z1 := Lib.hid (show t1.size ≤ 1048577 by omega)
      have Z2 := Lib.hid (show t2.size ≤ 1048577 by omega)
      have m1 : ¬ (9223372036854775807 < 1 + t1.text.size) := by omega
      have m2 : ¬ (9223372036854775807 < 1 + t1.text.size + 1) := by omega
      have m3 : ¬ (9223372036854775807 < 1 + t1.text.size + 1 + t2.text.size) := by omega
      have m4 : ¬ (9223372036854775807 < 1 + t1.text.size + 1 + t2.text.size + 1) := by omega
      clear hsz z1 z2
      have hb := below_alloc w2 (.cells #[.int .i64 k1, .slice a1 n1 c1, .int .i64 k2, .slice a2 n2 c2] 164)
      have H1 := Lib.hid (ht1.below (below_thru B.out (Nat.le_refl _) hb))
      have H2 := Lib.hid (ht2.below (below_thru B.out (Nat.le_refl _) hb))
      replace B := Lib.hid (below_thru B.out (Nat.le_refl _) hb)
      have XN : Hid (BoxAt (w2.alloc (.cells #[.int .i64 k1, .slice a1 n1 c1, .int .i64 k2, .slice a2 n2 c2] 164)) w2.heap.size #[.int .i64 k1, .slice a1 n1 c1, .int .i64 k2, .slice a2 n2 c2]) := BoxAt.new _ _ _
      clear hb ht1 ht2
      go_wp2_with fail
      have hb := below_drew (w2.alloc (.cells #[.int .i64 k1, .slice a1 n1 c1, .int .i64 k2, .slice a2 n2 c2] 164))
      replace B := Lib.hid (below_thru B.out (Nat.le_refl _) hb)
      replace H1 := Lib.hid (H1.out.below hb)
      replace H2 := Lib.hid (H2.out.below hb)
      replace XN := Lib.hid (XN.out.below hb)
      clear hb
      go_region_held3 (fun w' => w'.cell? ⟨w2.heap.size, 0, none⟩ = some (.int .i64 k1) ∧ w'.cell? ⟨w2.heap.size, 1, none⟩ = some (.slice a1 n1 c1) ∧ w'.cell? ⟨w2.heap.size, 2, none⟩ = some (.int .i64 k2) ∧ w'.cell? ⟨w2.heap.size, 3, none⟩ = some (.slice a2 n2 c2)) (exact ⟨XN.out.2 0, XN.out.2 1, XN.out.2 2, XN.out.2 3⟩)
        (first
         | (go_at_call_of 122 (Value.agg #[Value.int IntKind.i64 k1, Value.slice a1 n1 c1])
            refine (IH.out _ t1 _ H1.out F1.out Z1.out).mono ?_
            rintro e w3 ⟨rfl, hb⟩
            replace B := Lib.hid (below_thru B.out (Nat.le_refl _) hb)
            replace H1 := Lib.hid (H1.out.below hb)
            replace H2 := Lib.hid (H2.out.below hb)
            replace XN := Lib.hid (XN.out.below hb)
            clear hb)
         | (go_at_call_of 122 (Value.agg #[Value.int IntKind.i64 k2, Value.slice a2 n2 c2])
            refine (IH.out _ t2 _ H2.out F2.out Z2.out).mono ?_
            rintro e w4 ⟨rfl, hb⟩
            replace B := Lib.hid (below_thru B.out (Nat.le_refl _) hb)
            replace H1 := Lib.hid (H1.out.below hb)
            replace H2 := Lib.hid (H2.out.below hb)
            replace XN := Lib.hid (XN.out.below hb)
            clear hb))
      go_wp2_with fail
      go_ret
      exact ⟨by rw [Ty.text_pair]; rfl, B.out⟩
end Go.Proofs.YtcohfbdhdngplaaDoor
namespace Go.Proofs.YtcohfbdhdngplaaDoor
open Go.RowKit

set_option maxRecDepth 100000 in
set_option maxHeartbeats 1000000 in
theorem implFormatType (d : Nat) (v : Value) (t : Ty) (w : World) (h : TyAt w d v t) (hsz : t.size ≤ 1048577) :
    Calls Tryd.prog 99 #[v] w fun e w' => e = .returned (.string (formatText t)) ∧ Below w.heap.size w w' := by
  have HT := Lib.hid h
  obtain ⟨yk, ya, yn, yc, rfl⟩ := agg_parts h
  clear h
  have B : Hid (Below w.heap.size w (w.alloc (.cells #[.int .i64 yk, .slice ya yn yc] 32))) := below_alloc _ _
  have HA := Lib.hid (HT.out.below B.out)
  have XA : Hid (BoxAt (w.alloc (.cells #[.int .i64 yk, .slice ya yn yc] 32)) w.heap.size #[.int .i64 yk, .slice ya yn yc]) := BoxAt.new _ _ _
  clear HT
  go_enter Tryd.func99, Tryd.ntmps99
  go_wp2_with fail
  refine (implValid d _ t _ HA.out hsz).mono ?_
  rintro e w1 ⟨rfl, hb⟩
  replace B := Lib.hid (below_thru B.out (Nat.le_refl _) hb)
  replace HA := Lib.hid (HA.out.below hb)
  replace XA := Lib.hid (XA.out.below hb)
  clear hb
  cases hv : t.valid with
  | false =>
    have HV := Lib.hid hv; clear hv
    go_wp2_with fail
    go_ret
    exact ⟨by rw [format_bad HV.out]; rfl, B.out⟩
  | true =>
    have HV := Lib.hid hv
    have hfm : t.form = true := by simp only [Ty.valid, Bool.and_eq_true] at hv; exact hv.2
    clear hv
    have a0 := XA.out.2 0
    have a1 := XA.out.2 1
    go_wp2_with fail
    refine (implText d _ t _ HA.out hfm hsz).mono ?_
    rintro e w2 ⟨rfl, hb⟩
    have B2 := Lib.hid (below_thru B.out (Nat.le_refl _) hb)
    clear hb hfm
    go_wp2_with fail
    go_ret
    exact ⟨by rw [format_good HV.out]; rfl, B2.out⟩
end Go.Proofs.YtcohfbdhdngplaaDoor
