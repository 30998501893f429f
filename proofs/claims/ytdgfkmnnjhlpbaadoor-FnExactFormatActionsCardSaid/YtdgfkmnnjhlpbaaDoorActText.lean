/-
  Proved: plain facts on the text of an action; no program.
-/
import Derived.Test.YtdgfkmnnjhlpbaaDoorActForm
import Derived.Test.YtdgfkmnnjhlpbaaDoorFormatText
import Derived.Test.YtdgfkmnnjhlpbaaDoorNum
namespace Go.Proofs.YtdgfkmnnjhlpbaaDoor
open Go.RowKit

abbrev actWords : List ByteArray := [⟨#[117, 112]⟩, ⟨#[100, 111, 119, 110]⟩, ⟨#[110, 101, 120, 116]⟩, ⟨#[112, 114, 101, 118]⟩, ⟨#[100, 101, 108, 101, 116, 101]⟩, ⟨#[118, 97, 114]⟩, ⟨#[110, 117, 109]⟩, ⟨#[98, 111, 111, 108]⟩, ⟨#[108, 97, 109]⟩, ⟨#[97, 112]⟩, ⟨#[97, 100, 100]⟩, ⟨#[108, 101, 115, 115]⟩, ⟨#[112, 97, 105, 114]⟩, ⟨#[105, 102]⟩, ⟨#[102, 115, 116]⟩, ⟨#[115, 110, 100]⟩, ⟨#[97, 115, 99]⟩, ⟨#[117, 110, 119, 114, 97, 112]⟩, ⟨#[116, 121, 112, 101]⟩, ⟨#[110, 97, 109, 101]⟩]
def actWord (k : Nat) : ByteArray := actWords.getD (k - 1) ⟨#[]⟩
def spB (s : ByteArray) : ByteArray := ⟨#[32]⟩ ++ s
/-- The text with what an action has. -/
def actSay (wd nm fs ts : ByteArray) (bn bm bt : Bool) : ByteArray :=
  let t1 := if bn then wd ++ spB nm else wd
  let t2 := if bm then t1 ++ spB fs else t1
  if bt then t2 ++ spB ts else t2
def actSay2 (wd nm fs ts : ByteArray) (bn bm bt : Bool) : ByteArray :=
  let t1 := if bn then wd ++ ⟨#[32]⟩ ++ nm else wd
  let t2 := if bm then t1 ++ ⟨#[32]⟩ ++ fs else t1
  if bt then t2 ++ ⟨#[32]⟩ ++ ts else t2
theorem actSay_eq (wd nm fs ts : ByteArray) (bn bm bt : Bool) : actSay wd nm fs ts bn bm bt = actSay2 wd nm fs ts bn bm bt := by
  cases bn <;> cases bm <;> cases bt <;> simp [actSay, actSay2, spB, ByteArray.append_assoc]
def Act.text (a : Act) : ByteArray :=
  if a.okB = true then actSay (actWord a.kind.toNat) a.name ⟨(Lib.itoa a.n).toArray⟩ (formatText a.ty) (actNamed a.kind) (decide (0 < actMost a.kind)) (actTyped a.kind) else ⟨#[]⟩
theorem act_bad {a : Act} (h : a.okB = false) : a.text = ⟨#[]⟩ := if_neg (by simp [h])
theorem act_good {a : Act} (h : a.okB = true) : a.text = actSay (actWord a.kind.toNat) a.name ⟨(Lib.itoa a.n).toArray⟩ (formatText a.ty) (actNamed a.kind) (decide (0 < actMost a.kind)) (actTyped a.kind) := if_pos h
theorem act_range {a : Act} (h : a.okB = true) : 1 ≤ a.kind ∧ a.kind ≤ 20 := by
  unfold Act.okB at h
  simp only [Bool.and_eq_true, decide_eq_true_eq] at h
  exact h.1.1.1
theorem actWord_size (k : Nat) : (actWord k).size ≤ 6 := by
  unfold actWord
  by_cases h : k - 1 < 20
  · generalize k - 1 = j at h
    match j, h with
    | 0, _ => decide
    | 1, _ => decide
    | 2, _ => decide
    | 3, _ => decide
    | 4, _ => decide
    | 5, _ => decide
    | 6, _ => decide
    | 7, _ => decide
    | 8, _ => decide
    | 9, _ => decide
    | 10, _ => decide
    | 11, _ => decide
    | 12, _ => decide
    | 13, _ => decide
    | 14, _ => decide
    | 15, _ => decide
    | 16, _ => decide
    | 17, _ => decide
    | 18, _ => decide
    | 19, _ => decide
    | _ + 20, h => exact absurd h (by omega)
  · rw [List.getD_eq_getElem?_getD, List.getElem?_eq_none (by simp; omega)]; decide
theorem formatText_size (t : Ty) : (formatText t).size ≤ 3 * t.size := by
  unfold formatText
  split
  · exact t.text_size
  · exact Nat.zero_le _
theorem spB_size (s : ByteArray) : (spB s).size = 1 + s.size := by unfold spB; rw [ByteArray.size_append]; rfl
end Go.Proofs.YtdgfkmnnjhlpbaaDoor
