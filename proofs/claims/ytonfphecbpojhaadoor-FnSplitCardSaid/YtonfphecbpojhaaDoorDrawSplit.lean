/-
  Proved: the draw of a text to be cut gives a short text and a byte; only the draw's own memory changes.
-/
import Derived.Test.YtonfphecbpojhaaDoorDrawNum
namespace Go.Proofs.YtonfphecbpojhaaDoor
open Go.RowKit

/-- What drawing a text and a byte ends in. -/
def CutEnd (w : World) (e : Ending) (w' : World) : Prop :=
  ∃ (s : ByteArray) (b : UInt8), e = .returned (.tuple #[.string s, .int .u8 (b.toNat : Int)]) ∧ s.size ≤ 30 ∧ Below w.heap.size w w'

def cuts : List ByteArray := [⟨#[]⟩, ⟨#[97]⟩, ⟨#[97, 44, 98]⟩, ⟨#[44]⟩, ⟨#[97, 44, 44, 98, 44]⟩, ⟨#[97, 10, 98, 10]⟩]
theorem cuts_in (x : Value) (h : x ∈ cuts.map Value.string) : ∃ s : ByteArray, x = .string s ∧ s.size ≤ 30 := by
  obtain ⟨s, hs, rfl⟩ := List.mem_map.1 h
  refine ⟨s, rfl, ?_⟩
  have : ∀ m ∈ cuts, m.size ≤ 30 := by decide
  exact this s hs
def seps : List Int := [44, 10]
theorem seps_in (x : Value) (h : x ∈ seps.map (Value.int .i64)) : x = .int .i64 44 ∨ x = .int .i64 10 := by
  obtain ⟨n, hn, rfl⟩ := List.mem_map.1 h
  have : ∀ m ∈ seps, m = 44 ∨ m = 10 := by decide
  rcases this n hn with rfl | rfl
  · exact Or.inl rfl
  · exact Or.inr rfl

set_option maxRecDepth 100000 in
set_option maxHeartbeats 1000000 in
theorem drawSplit (v : Value) (n : Nat) (w : World) (h : Code w.heap.size w v n) :
    Calls Tryd.prog 17 #[v] w (CutEnd w) := by
  go_enter Tryd.func17, Tryd.ntmps17
  go_wp2_with fail
  refine (curNew w.heap.size v n w (Nat.le_refl _) h).mono ?_
  rintro e w1 ⟨rfl, hc1, hb1⟩
  have H1 := Lib.hid hc1; clear hc1
  have B1 := Lib.hid hb1; clear hb1
  go_wp2_with fail
  refine (curPick w.heap.size w.heap.size w1.heap.size 6 cuts (by decide) (by decide) (by have := H1.out.lt; omega) _ _ _ (heap_alloc_new w1 _) rfl (H1.out.kept (World.grownBy_alloc w1 _ none))).mono ?_
  rintro e w2 ⟨y, rfl, hy, hc2, hg2⟩
  obtain ⟨s, rfl, hs⟩ := cuts_in y hy
  have H2 := Lib.hid hc2; clear hc2
  have B2 := Lib.hid ((B1.out.alloc B1.out.size _).trans (grown_below hg2 (by have := B1.out.size; simp; omega) (Nat.le_refl _))); clear hg2
  go_wp2_with fail
  refine (curPickInt w.heap.size w.heap.size w2.heap.size 2 seps (by decide) (by decide) (by have := H2.out.lt; omega) _ _ _ (heap_alloc_new w2 _) rfl (H2.out.kept (World.grownBy_alloc w2 _ none))).mono ?_
  rintro e w3 ⟨y, rfl, hy, hc3, hg3⟩
  have B3 := Lib.hid ((B2.out.alloc B2.out.size _).trans (grown_below hg3 (by have := B2.out.size; simp; omega) (Nat.le_refl _))); clear hg3 hc3
  rcases seps_in y hy with rfl | rfl
  · go_wp2_with fail
    go_ret2
    exact ⟨s, 44, rfl, hs, B3.out⟩
  · go_wp2_with fail
    go_ret2
    exact ⟨s, 10, rfl, hs, B3.out⟩
end Go.Proofs.YtonfphecbpojhaaDoor
