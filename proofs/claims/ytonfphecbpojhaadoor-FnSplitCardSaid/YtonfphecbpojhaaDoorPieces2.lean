/-
  Proved: pieces are free of the byte at which the text was cut, and joined with it they are the text again. Plain mathematics, no program.
-/
import Derived.Test.YtonfphecbpojhaaDoorPieces
import Derived.Test.YtonfphecbpojhaaDoorJoined
namespace Go.Proofs.YtonfphecbpojhaaDoor
open Num

theorem pieces_each (c : UInt8) : ∀ (l : List UInt8), ∀ p ∈ pieces c l, ∀ b ∈ p, b ≠ c
  | [], p, hp, b, hb => by
    simp [pieces] at hp; subst hp; simp at hb
  | x :: r, p, hp, b, hb => by
    have ih := pieces_each c r
    unfold pieces at hp
    split at hp
    · rcases List.mem_cons.1 hp with rfl | hp
      · simp at hb
      · exact ih p hp b hb
    · rename_i hx
      split at hp
      · simp at hp
      · rename_i q t heq
        rcases List.mem_cons.1 hp with rfl | hp
        · rcases List.mem_cons.1 hb with rfl | hb
          · exact hx
          · exact ih q (by rw [heq]; simp) b hb
        · exact ih p (by rw [heq]; simp [hp]) b hb
theorem pieces_count (c : UInt8) : ∀ l : List UInt8, (pieces c l).length ≤ l.length + 1
  | [] => by simp [pieces]
  | x :: r => by
    have ih := pieces_count c r
    unfold pieces
    split
    · simp; exact ih
    · split
      · simp
      · rename_i q t heq
        rw [heq] at ih
        simp at ih ⊢; omega
theorem join_two (a p : List UInt8) (q : List (List UInt8)) (sep : List UInt8) : Lib.join (a :: p :: q) sep = a ++ sep ++ Lib.join (p :: q) sep := by
  rw [Lib.join_cons, Lib.join_cons]
  simp [Lib.joinTail]
theorem join_pieces (c : UInt8) (l : List UInt8) : Lib.join (pieces c l) [c] = l := by
  induction hn : l.length using Nat.strongRecOn generalizing l with
  | ind n ih =>
    rcases first c l with h | ⟨a, r, rfl, h⟩
    · rw [pieces_free c l h]; exact Lib.join_one _ _
    · rw [pieces_hit c a r h]
      have ihr := ih r.length (by subst hn; simp; omega) r rfl
      cases hp : pieces c r with
      | nil => exact absurd hp (pieces_ne c r)
      | cons p q => rw [hp] at ihr; rw [join_two, ihr]; simp
theorem total_pieces (c : UInt8) (l : List UInt8) (ss : List ByteArray) (h : ss.map (·.data.toList) = pieces c l) : total ss ≤ l.length := by
  induction hn : l.length using Nat.strongRecOn generalizing l ss with
  | ind n ih =>
    rcases first c l with h1 | ⟨a, r, rfl, h1⟩
    · rw [pieces_free c l h1] at h
      cases ss with
      | nil => simp at h
      | cons s t =>
        simp only [List.map_cons, List.cons.injEq, List.map_eq_nil_iff] at h
        obtain ⟨h2, rfl⟩ := h
        simp only [total]
        rw [← len_toList, h2, hn]; omega
    · rw [pieces_hit c a r h1] at h
      cases ss with
      | nil => simp at h
      | cons s t =>
        simp only [List.map_cons, List.cons.injEq] at h
        have := ih r.length (by subst hn; simp; omega) r t h.2 rfl
        simp only [total]
        rw [← len_toList, h.1, ← hn]; simp; omega
end Go.Proofs.YtonfphecbpojhaaDoor
