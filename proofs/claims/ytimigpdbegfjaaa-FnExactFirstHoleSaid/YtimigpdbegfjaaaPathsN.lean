/-
  Proved: plain facts on a list of paths in memory of its own that keeps clear of given blocks, and grows.
-/
import Derived.Test.YtimigpdbegfjaaaAppStep
import Derived.Test.YtimigpdbegfjaaaExPaths
namespace Go.Proofs.Ytimigpdbegfjaaa
open Go.RowKit

/-- A list of paths of the call's own, all its blocks different and none among those of N. -/
def PsN (w : World) (v : Value) (pss : List (List Int)) (lo : Nat) (N : Nat → Prop) : Prop :=
  ∃ svs : List Value, w.ownsRow lo 29 1 v pss.length svs ∧ Els w svs pss lo w.heap.size ∧ (∀ sv, sv ∈ svs → ∀ g, sv.ownBlock = some g → v.ownBlock ≠ some g ∧ ¬ N g) ∧ (∀ g, v.ownBlock = some g → ¬ N g)
theorem PsN.psin {w : World} {v : Value} {pss : List (List Int)} {lo : Nat} {N : Nat → Prop} (h : PsN w v pss lo N) : PsIn w v pss lo w.heap.size := by
  obtain ⟨svs, h1, h2, h3, h4⟩ := h
  exact PsIn.of_els h1 (fun k hk => (h1.lt k hk).2) h2 fun sv hs g hg => (h3 sv hs g hg).1
theorem PsN.sub {w : World} {v : Value} {pss : List (List Int)} {lo : Nat} {N M : Nat → Prop} (h : PsN w v pss lo N) (hm : ∀ g, g < w.heap.size → M g → N g) : PsN w v pss lo M := by
  obtain ⟨svs, h1, h2, h3, h4⟩ := h
  exact ⟨svs, h1, h2, fun sv hs g hg => ⟨(h3 sv hs g hg).1, fun hM => (h3 sv hs g hg).2 (hm g (h2.mem_lt hs hg).2 hM)⟩, fun g hg hM => h4 g hg (hm g (h1.lt g hg).2 hM)⟩
theorem PsN.kept {w w' : World} {v : Value} {pss : List (List Int)} {lo : Nat} {N : Nat → Prop} (h : PsN w v pss lo N) (hz : w.heap.size ≤ w'.heap.size) (hk : ∀ b, b < w.heap.size → ¬ N b → w'.heap[b]? = w.heap[b]?) : PsN w' v pss lo N := by
  obtain ⟨svs, h1, h2, h3, h4⟩ := h
  exact ⟨svs, own_keeps h1 fun b hb => hk b (h1.lt b hb).2 (h4 b hb), (h2.keeps hz fun b hb ⟨sv, hs, hg⟩ => hk b hb (h3 sv hs b hg).2).wide (Nat.le_refl _) hz (Nat.le_refl _), h3, h4⟩
theorem PsN.nil (w : World) (lo : Nat) (N : Nat → Prop) : PsN w (.slice none 0 0) [] lo N :=
  ⟨[], World.ownsRow_nil _ _ _ _, ⟨rfl, Nat.le_refl _, fun j h => by simp at h⟩, (fun sv hs => by cases hs), fun g hg => by cases hg⟩
theorem info_ps : (Try.prog.info? 29).map (fun i => (i.zero, i.size, i.bytes)) = some (some (.slice none 0 0), 1, 24) := by kernel_rfl
/-- What one more path leaves. -/
def Joined1 (lo : Nat) (qv : Value) (pss : List (List Int)) (ps : List Int) (N : Nat → Prop) (w : World) (v' : Value) (w' : World) : Prop :=
  PsN w' v' (pss ++ [ps]) lo N ∧ w.grownBy w' qv.ownBlock ∧ (v'.ownBlock = qv.ownBlock ∨ v'.ownBlock = some w.heap.size)
theorem run_join1 (w : World) (lo mid : Nat) (ty : TypeId) (qv sv : Value) (pss : List (List Int)) (ps : List Int) (N : Nat → Prop) (a : Addr) (svs : List Value)
    (ho : w.ownsRow lo 29 1 qv pss.length svs) (he : Els w svs pss lo mid) (h3 : ∀ sv, sv ∈ svs → ∀ g, sv.ownBlock = some g → qv.ownBlock ≠ some g ∧ ¬ N g) (h4 : ∀ g, qv.ownBlock = some g → g < mid ∧ ¬ N g)
    (hs : IntsIn w sv ps mid w.heap.size) (hN : ∀ g, N g → g < mid) (hl : lo ≤ mid) (hn : pss.length ≤ 2097152) (h1 : sv.oneCell' = true) (ha : w.cell? a = some sv) :
    ∃ v' w', (Builtin.append_ #[45, 45] ty #[qv, .slice (some a) 1 1]).run Try.prog w = .ok v' w' ∧ Joined1 lo qv pss ps N w v' w' := by
  obtain ⟨i0, hi, hz0, hz1, hz2⟩ := info_parts info_ps
  have hmz : mid ≤ w.heap.size := he.2.1
  have hnews : ∀ j u, [sv][j]? = some u → w.cell? (a.add j) = some u := fun j u hj => by
    match j, hj with
    | 0, hj =>
      simp at hj; subst hj
      have e : a.add 0 = a := by simp [Addr.add]
      rw [e]; exact ha
  obtain ⟨v', w', hr, ho2, hg, _, hb⟩ := run_append_own_at (P := Try.prog) w lo 45 ty 29 i0 (.slice none 0 0) 1 24 Try.underlying45 hi hz0 hz1 hz2 rfl (by omega) qv pss.length svs ho a 1 1 [sv] rfl hnews (by simp [h1]) (by unfold maxLen; omega) (by omega) (by omega)
  refine ⟨v', w', hr, ?_, hg, hb⟩
  have hj := he.join (Els.one hs) hl hmz
  have hne : ∀ x, x ∈ svs ++ [sv] → ∀ g, x.ownBlock = some g → qv.ownBlock ≠ some g ∧ ¬ N g := fun x hx g hxg => by
    rcases List.mem_append.1 hx with hx | hx
    · exact h3 x hx g hxg
    · cases List.mem_singleton.1 hx
      have q := hs.lo_le hxg
      exact ⟨fun e => by have := (h4 g e).1; omega, fun e => by have := hN g e; omega⟩
  have hk := hj.keeps hg.size fun b hb ⟨x, hx, hxo⟩ => hg.block b hb fun e => (hne x hx b hxo).1 e.symm
  refine ⟨svs ++ [sv], by rw [List.length_append]; exact ho2, hk.wide (Nat.le_refl _) hg.size (Nat.le_refl _), fun x hx g hxg => ⟨?_, (hne x hx g hxg).2⟩, fun g hgv => ?_⟩
  · rcases hb with hb | hb
    · rw [hb]; exact (hne x hx g hxg).1
    · rw [hb]
      intro e
      have := (hj.mem_lt hx hxg).2
      injection e with e
      omega
  · rcases hb with hb | hb
    · rw [hb] at hgv; exact (h4 g hgv).2
    · rw [hb] at hgv
      injection hgv with e
      intro hNg
      have := hN g hNg
      omega
end Go.Proofs.Ytimigpdbegfjaaa
