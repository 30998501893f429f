/-
  Proved: what a text reads as, taken as a path: a dash is the empty path, else each piece between dots must be one of the numerals 0, 1 and 2. Plain mathematics, no program.
-/
import Derived.Test.YtpoafjbndipfeaaDoorParse
import Derived.Test.YtpoafjbndipfeaaDoorPieces
import Derived.Test.YtpoafjbndipfeaaDoorOwnB
import Derived.WalkKit
import Derived.WalkSpells
import Derived.WalkLawsBesides
import Derived.Lib.Hide
namespace Go.Proofs.YtpoafjbndipfeaaDoor
open Go.RowKit

def stepOk (l : List UInt8) (n : Int) : Prop := Lib.itoa n = l ∧ 0 ≤ n ∧ n ≤ 2
def stepBad (l : List UInt8) : Prop := ∀ n, 0 ≤ n → n ≤ 2 → Lib.itoa n ≠ l
/-- What reading the text l as a path gives. -/
def PathReads (l : List UInt8) (ns : List Int) (ok : Bool) : Prop :=
  (l = [45] ∧ ns = [] ∧ ok = true) ∨
  (l ≠ [45] ∧ ok = true ∧ ns.length = (Num.pieces 46 l).length ∧ ∀ (j : Nat) (n : Int) (p : List UInt8), ns[j]? = some n → (Num.pieces 46 l)[j]? = some p → stepOk p n) ∨
  (l ≠ [45] ∧ ok = false ∧ ns = [] ∧ ∃ p, p ∈ Num.pieces 46 l ∧ stepBad p)
theorem PathReads.unique {l : List UInt8} {ns ns' : List Int} {ok ok' : Bool} (h : PathReads l ns ok) (h' : PathReads l ns' ok') : ns = ns' ∧ ok = ok' := by
  have bad : ∀ (ms : List Int), (ms.length = (Num.pieces 46 l).length ∧ ∀ (j : Nat) (n : Int) (p : List UInt8), ms[j]? = some n → (Num.pieces 46 l)[j]? = some p → stepOk p n) → (∃ p, p ∈ Num.pieces 46 l ∧ stepBad p) → False := by
    rintro ms ⟨hl, hm⟩ ⟨p, hp, hb⟩
    obtain ⟨j, hj, rfl⟩ := List.getElem_of_mem hp
    obtain ⟨e, h0, h1⟩ := hm j ms[j] _ (List.getElem?_eq_getElem (by omega)) (List.getElem?_eq_getElem hj)
    exact hb _ h0 h1 e
  rcases h with ⟨e, rfl, rfl⟩ | ⟨e, rfl, h1, h2⟩ | ⟨e, rfl, rfl, h1⟩
  · rcases h' with ⟨_, rfl, rfl⟩ | ⟨e', _⟩ | ⟨e', _⟩
    · exact ⟨rfl, rfl⟩
    · exact absurd e e'
    · exact absurd e e'
  · rcases h' with ⟨e', _⟩ | ⟨_, rfl, h1', h2'⟩ | ⟨_, rfl, rfl, h1'⟩
    · exact absurd e' e
    · refine ⟨List.ext_getElem (by omega) fun j ha hb => ?_, rfl⟩
      have hp : j < (Num.pieces 46 l).length := by omega
      have a := h2 j _ _ (List.getElem?_eq_getElem ha) (List.getElem?_eq_getElem hp)
      have b := h2' j _ _ (List.getElem?_eq_getElem hb) (List.getElem?_eq_getElem hp)
      exact Num.itoa_inj (a.1.trans b.1.symm)
    · exact (bad _ ⟨h1, h2⟩ h1').elim
  · rcases h' with ⟨e', _⟩ | ⟨_, rfl, h1', h2'⟩ | ⟨_, rfl, rfl, h1'⟩
    · exact absurd e' e
    · exact (bad _ ⟨h1', h2'⟩ h1).elim
    · exact ⟨rfl, rfl⟩
/-- A piece that was refused is none of the three numerals. -/
theorem step_bad {l : List UInt8} {n : Int} {ok : Bool} (h : Num.Reads 0 999999 l n ok) (hb : ok = false ∨ 2 < n) : stepBad l := by
  intro m h0 h1 e
  rcases h with ⟨rfl, e', a, b⟩ | ⟨_, _, f⟩
  · have := Num.itoa_inj (e.trans e'.symm)
    rcases hb with hb | hb
    · cases hb
    · omega
  · exact f m h0 (by omega) e
theorem step_ok {l : List UInt8} {n : Int} (h : Num.Reads 0 999999 l n true) (hn : n ≤ 2) : stepOk l n := by
  rcases h with ⟨_, e, a, b⟩ | ⟨h, _⟩
  · exact ⟨e, a, hn⟩
  · cases h
theorem text_is {s : ByteArray} {l : List UInt8} (h : (s.toList == l) = true) : s.data.toList = l := by
  rw [beq_iff_eq, ByteArray.toList_eq] at h; exact h
theorem text_isnt {s : ByteArray} {l : List UInt8} (h : (s.toList == l) = false) : s.data.toList ≠ l := by
  intro e
  rw [ByteArray.toList_eq, e] at h
  simp at h
/-- Two rows of different types lie in different blocks. -/
theorem own_apart {w : World} {B B' : Nat} {e e' : TypeId} {size size' : Nat} {v v' : Value} {n n' : Nat} {xs xs' : List Value} (h : w.ownsRow B e size v n xs) (h' : w.ownsRow B' e' size' v' n' xs') (ne : e ≠ e') : v.ownBlock = none ∨ v.ownBlock ≠ v'.ownBlock := by
  rcases h.2 with ⟨rfl, _⟩ | ⟨g, cap, cur, rfl, _, hg, _⟩
  · exact Or.inl rfl
  · refine Or.inr fun hb => ?_
    rcases h'.2 with ⟨rfl, _⟩ | ⟨g', cap', cur', rfl, _, hg', _⟩
    · cases hb
    · have hb2 : some g = some g' := hb
      cases hb2
      rw [hg] at hg'
      injection hg' with hg'
      injection hg' with _ hg' _
      exact ne hg'
theorem piece_small (c : UInt8) : ∀ (l : List UInt8), ∀ p ∈ Num.pieces c l, p.length ≤ l.length
  | [], p, hp => by
    simp [Num.pieces] at hp; subst hp; simp
  | x :: r, p, hp => by
    have ih := piece_small c r
    unfold Num.pieces at hp
    split at hp
    · rcases List.mem_cons.1 hp with rfl | hp
      · simp
      · have := ih p hp; simp only [List.length_cons]; omega
    · split at hp
      · simp at hp
      · rename_i q t heq
        rcases List.mem_cons.1 hp with rfl | hp
        · have := ih q (by rw [heq]; simp); simp only [List.length_cons]; omega
        · have := ih p (by rw [heq]; simp [hp]); simp only [List.length_cons]; omega
/-- What the two readers end in. -/
def PathEnd (l : List UInt8) (w : World) (e : Ending) (w' : World) : Prop :=
  ∃ v ns ok, e = .returned (.tuple #[v, .bool ok]) ∧ PathReads l ns ok ∧ ns.length ≤ 1048578 ∧ w'.ownsRow w.heap.size 3 1 v ns.length (ns.map (Value.int IntKind.i64)) ∧ Below w.heap.size w w'
end Go.Proofs.YtpoafjbndipfeaaDoor
