/-
  Proved: plain facts on lists of paths: how they read, and how they lie in memory of their own.
-/
import Derived.Test.YtimigpdbegfjaaaIntsIn
namespace Go.Proofs.Ytimigpdbegfjaaa
open Go.RowKit

/-- In the world w the value v reads as the paths pss. -/
def PsAt (w : World) (v : Value) (pss : List (List Int)) : Prop :=
  ∃ a cap, v = .slice a pss.length cap ∧ pss.length ≤ cap ∧ ∀ j (h : j < pss.length), ∃ b off sv, a = some ⟨b, off, none⟩ ∧ b < w.heap.size ∧ w.cell? ⟨b, off + j, none⟩ = some sv ∧ Ints w sv pss[j]
theorem PsAt.below {w w' : World} {v : Value} {pss : List (List Int)} (h : PsAt w v pss) (hb : Below w.heap.size w w') : PsAt w' v pss := by
  obtain ⟨a, cap, rfl, hc, h⟩ := h
  refine ⟨a, cap, rfl, hc, fun j hj => ?_⟩
  obtain ⟨b, off, sv, rfl, hlt, hcell, hi⟩ := h j hj
  exact ⟨b, off, sv, rfl, Nat.lt_of_lt_of_le hlt hb.size, by rw [hb.cell (p := ⟨b, off + j, none⟩) hlt]; exact hcell, hi.below hb⟩
/-- The list's block and the blocks of its paths are different, and lie from lo up to hi. -/
def PsIn (w : World) (v : Value) (pss : List (List Int)) (lo hi : Nat) : Prop :=
  ∃ svs : List Value, w.ownsRow lo 29 1 v pss.length svs ∧ svs.length = pss.length ∧ (∀ k, v.ownBlock = some k → k < hi) ∧ hi ≤ w.heap.size ∧
    ∀ j (h : j < pss.length) (h' : j < svs.length), IntsIn w svs[j] pss[j] lo hi ∧ (∀ g, svs[j].ownBlock = some g → v.ownBlock ≠ some g) ∧ ∀ i (hi : i < svs.length), i ≠ j → ∀ g, svs[j].ownBlock = some g → svs[i].ownBlock ≠ some g
theorem PsIn.at_ {w : World} {v : Value} {pss : List (List Int)} {lo hi : Nat} (h : PsIn w v pss lo hi) : PsAt w v pss := by
  obtain ⟨svs, ho, hl, hu, hz, hj⟩ := h
  have hlt := ho.lt
  have hcells := fun g (hg : v.ownBlock = some g) => ho.cells hg
  rcases ho.2 with ⟨rfl, hn⟩ | ⟨g, cap, cur, rfl, hb, hg, hnc, _⟩
  · have : pss = [] := List.length_eq_zero_iff.1 hn
    subst this
    exact ⟨none, 0, rfl, Nat.le_refl _, fun j h => by simp at h⟩
  · refine ⟨_, cap, rfl, hnc, fun j hjl => ?_⟩
    have hj' : j < svs.length := by omega
    have := hcells g rfl j svs[j] (List.getElem?_eq_getElem hj')
    rw [addr_add] at this
    exact ⟨g, 0, svs[j], rfl, (hlt g rfl).2, this, (hj j hjl hj').1.ints⟩
theorem PsIn.beside {w w' : World} {v : Value} {pss : List (List Int)} {lo hi lo2 hi2 : Nat} (h : PsIn w v pss lo hi) (k : Kept lo2 hi2 w w') (hd : hi ≤ lo2 ∨ hi2 ≤ lo) : PsIn w' v pss lo hi := by
  obtain ⟨svs, ho, hl, hu, hz, hj⟩ := h
  refine ⟨svs, own_keeps ho fun b hb => k.2 b (ho.lt b hb).2 (by have h1 := hu b hb; have h2 := (ho.lt b hb).1; omega), hl, hu, Nat.le_trans hz k.1, fun j h1 h2 => ?_⟩
  obtain ⟨q1, q2, q3⟩ := hj j h1 h2
  exact ⟨q1.beside k hd, q2, q3⟩
theorem PsIn.below {w w' : World} {v : Value} {pss : List (List Int)} {lo hi : Nat} (h : PsIn w v pss lo hi) (hb : Below w.heap.size w w') : PsIn w' v pss lo hi := by
  obtain ⟨svs, ho, hl, hu, hz, hj⟩ := h
  refine ⟨svs, own_keeps ho fun b hm => hb.block b (ho.lt b hm).2, hl, hu, Nat.le_trans hz hb.size, fun j h1 h2 => ?_⟩
  obtain ⟨q1, q2, q3⟩ := hj j h1 h2
  exact ⟨q1.below hb, q2, q3⟩
/-- How many numbers there are. -/
def plen : List (List Int) → Nat
  | [] => 0
  | p :: r => p.length + plen r
def pmarks : List (List Int) → Int → List (List Int)
  | [], _ => []
  | p :: r, k => imarks k p.length :: pmarks r (k + (p.length : Int))
theorem pmarks_length : ∀ (pss : List (List Int)) (k : Int), (pmarks pss k).length = pss.length
  | [], _ => rfl
  | p :: r, k => by simp [pmarks, pmarks_length r]
theorem plen_take : ∀ (pss : List (List Int)) (k : Nat) (h : k < pss.length), plen (pss.take (k + 1)) = plen (pss.take k) + pss[k].length
  | [], _, h => by simp at h
  | p :: r, 0, _ => by simp [plen]
  | p :: r, k + 1, h => by
    simp only [List.take_succ_cons, plen, List.getElem_cons_succ]
    rw [plen_take r k (by simpa using h)]; omega
theorem plen_le : ∀ (pss : List (List Int)) (k : Nat), plen (pss.take k) ≤ plen pss
  | [], _ => by simp [plen]
  | p :: r, 0 => by simp [plen]
  | p :: r, k + 1 => by simp only [List.take_succ_cons, plen]; have := plen_le r k; omega
theorem pmarks_get : ∀ (pss : List (List Int)) (k : Int) (j : Nat) (h : j < (pmarks pss k).length) (h' : j < pss.length), (pmarks pss k)[j] = imarks (k + plen (pss.take j)) pss[j].length
  | [], _, _, _, h' => by simp at h'
  | p :: r, k, 0, _, _ => by simp [pmarks, plen]
  | p :: r, k, j + 1, h, h' => by
    simp only [pmarks, List.getElem_cons_succ, List.take_succ_cons, plen]
    rw [pmarks_get r (k + (p.length : Int)) j (by simpa [pmarks] using h) (by simpa using h')]
    congr 1
    push_cast
    omega
/-- A row of paths' slices, each in a block of its own. -/
def Els (w : World) (svs : List Value) (pss : List (List Int)) (lo hi : Nat) : Prop :=
  svs.length = pss.length ∧ hi ≤ w.heap.size ∧ ∀ j (h : j < pss.length) (h' : j < svs.length), IntsIn w svs[j] pss[j] lo hi ∧ ∀ i (hi : i < svs.length), i ≠ j → ∀ g, svs[j].ownBlock = some g → svs[i].ownBlock ≠ some g
theorem IntsIn.lo_le {w : World} {v : Value} {ns : List Int} {lo hi g : Nat} (h : IntsIn w v ns lo hi) (hg : v.ownBlock = some g) : lo ≤ g ∧ g < hi := ⟨(h.1.lt g hg).1, h.2.1 g hg⟩
theorem own_mono {w : World} {base base' : Nat} {e : TypeId} {size : Nat} {v : Value} {n : Nat} {xs : List Value} (h : w.ownsRow base e size v n xs) (hb : base' ≤ base) : w.ownsRow base' e size v n xs := by
  refine ⟨h.1, ?_⟩
  rcases h.2 with h | ⟨g, cap, cur, rfl, r1, r2⟩
  · exact Or.inl h
  · exact Or.inr ⟨g, cap, cur, rfl, Nat.le_trans hb r1, r2⟩
theorem IntsIn.wide {w : World} {v : Value} {ns : List Int} {lo hi lo2 hi2 : Nat} (h : IntsIn w v ns lo hi) (h1 : lo2 ≤ lo) (h2 : hi ≤ hi2) (h3 : hi2 ≤ w.heap.size) : IntsIn w v ns lo2 hi2 :=
  ⟨own_mono h.1 h1, fun k hk => Nat.lt_of_lt_of_le (h.2.1 k hk) h2, h3⟩
theorem Els.one {w : World} {v : Value} {ns : List Int} {lo hi : Nat} (h : IntsIn w v ns lo hi) : Els w [v] [ns] lo hi := by
  refine ⟨rfl, h.2.2, fun j h1 h2 => ?_⟩
  obtain rfl : j = 0 := by simpa using h1
  exact ⟨h, fun i hi hne => absurd (by simpa using hi) hne⟩
theorem Els.join {w : World} {a b : List Value} {p q : List (List Int)} {lo mid hi : Nat} (h1 : Els w a p lo mid) (h2 : Els w b q mid hi) (hl : lo ≤ mid) (hm : mid ≤ hi) : Els w (a ++ b) (p ++ q) lo hi := by
  obtain ⟨l1, z1, e1⟩ := h1
  obtain ⟨l2, z2, e2⟩ := h2
  refine ⟨by simp [l1, l2], z2, fun j hj hj' => ?_⟩
  rw [List.length_append] at hj hj'
  by_cases hja : j < a.length
  · have hjp : j < p.length := by omega
    obtain ⟨i1, d1⟩ := e1 j hjp hja
    rw [List.getElem_append_left hja, List.getElem_append_left hjp]
    refine ⟨i1.wide (Nat.le_refl _) hm z2, fun i hi hne g hg => ?_⟩
    by_cases hia : i < a.length
    · rw [List.getElem_append_left hia]; exact d1 i hia hne g hg
    · rw [List.getElem_append_right (by omega)]
      intro e
      have q1 := i1.lo_le hg
      have q2 := (e2 (i - a.length) (by rw [List.length_append] at hi; omega) (by rw [List.length_append] at hi; omega)).1.lo_le e
      omega
  · have hjp : ¬ j < p.length := by omega
    obtain ⟨i1, d1⟩ := e2 (j - p.length) (by omega) (by omega)
    rw [List.getElem_append_right (by omega), List.getElem_append_right (by omega)]
    have el : j - a.length = j - p.length := by omega
    simp only [el]
    refine ⟨i1.wide hl (Nat.le_refl _) z2, fun i hi hne g hg => ?_⟩
    rw [List.length_append] at hi
    by_cases hia : i < a.length
    · rw [List.getElem_append_left hia]
      intro e
      have q1 := i1.lo_le hg
      have q2 := (e1 i (by omega) hia).1.lo_le e
      omega
    · rw [List.getElem_append_right (by omega)]
      exact d1 (i - a.length) (by omega) (by omega) g hg
theorem Els.wide {w : World} {a : List Value} {p : List (List Int)} {lo hi lo2 hi2 : Nat} (h : Els w a p lo hi) (h1 : lo2 ≤ lo) (h2 : hi ≤ hi2) (h3 : hi2 ≤ w.heap.size) : Els w a p lo2 hi2 :=
  ⟨h.1, h3, fun j q1 q2 => ⟨(h.2.2 j q1 q2).1.wide h1 h2 h3, (h.2.2 j q1 q2).2⟩⟩
theorem Els.keeps {w w' : World} {a : List Value} {p : List (List Int)} {lo hi : Nat} (h : Els w a p lo hi) (hz : w.heap.size ≤ w'.heap.size) (hk : ∀ b, b < w.heap.size → (∃ sv, sv ∈ a ∧ sv.ownBlock = some b) → w'.heap[b]? = w.heap[b]?) : Els w' a p lo hi := by
  obtain ⟨l1, z1, e1⟩ := h
  refine ⟨l1, Nat.le_trans z1 hz, fun j h1 h2 => ⟨?_, (e1 j h1 h2).2⟩⟩
  obtain ⟨i1, i2, i3⟩ := (e1 j h1 h2).1
  exact ⟨own_keeps i1 fun b hb => hk b (i1.lt b hb).2 ⟨_, List.getElem_mem h2, hb⟩, i2, Nat.le_trans i3 hz⟩
theorem PsIn.els {w : World} {v : Value} {pss : List (List Int)} {lo hi : Nat} (h : PsIn w v pss lo hi) : ∃ svs, w.ownsRow lo 29 1 v pss.length svs ∧ (∀ k, v.ownBlock = some k → k < hi) ∧ Els w svs pss lo hi ∧ ∀ sv, sv ∈ svs → ∀ g, sv.ownBlock = some g → v.ownBlock ≠ some g := by
  obtain ⟨svs, ho, hl, hu, hz, hj⟩ := h
  refine ⟨svs, ho, hu, ⟨hl, hz, fun j h1 h2 => ⟨(hj j h1 h2).1, (hj j h1 h2).2.2⟩⟩, fun sv hs g hg => ?_⟩
  obtain ⟨j, hjl, rfl⟩ := List.mem_iff_getElem.1 hs
  exact (hj j (by omega) hjl).2.1 g hg
theorem PsIn.of_els {w : World} {v : Value} {svs : List Value} {pss : List (List Int)} {lo hi : Nat} (ho : w.ownsRow lo 29 1 v pss.length svs) (hu : ∀ k, v.ownBlock = some k → k < hi) (he : Els w svs pss lo hi) (hd : ∀ sv, sv ∈ svs → ∀ g, sv.ownBlock = some g → v.ownBlock ≠ some g) : PsIn w v pss lo hi :=
  ⟨svs, ho, he.1, hu, he.2.1, fun j h1 h2 => ⟨(he.2.2 j h1 h2).1, hd _ (List.getElem_mem h2), (he.2.2 j h1 h2).2⟩⟩
theorem Els.mem_lt {w : World} {a : List Value} {p : List (List Int)} {lo hi : Nat} (h : Els w a p lo hi) {sv : Value} (hs : sv ∈ a) {g : Nat} (hg : sv.ownBlock = some g) : lo ≤ g ∧ g < hi := by
  obtain ⟨j, hjl, rfl⟩ := List.mem_iff_getElem.1 hs
  exact (h.2.2 j (by have := h.1; omega) hjl).1.lo_le hg
/-- More paths appended, their blocks all new. -/
theorem PsIn.append {w w1 : World} {v v' : Value} {pss qss : List (List Int)} {svs bs : List Value} {lo mid : Nat} (hu : ∀ k, v.ownBlock = some k → k < mid) (he : Els w svs pss lo mid) (hd : ∀ sv, sv ∈ svs → ∀ g, sv.ownBlock = some g → v.ownBlock ≠ some g)
    (h2 : Els w bs qss mid w.heap.size) (hl : lo ≤ mid) (ho : w1.ownsRow lo 29 1 v' (pss.length + qss.length) (svs ++ bs)) (hg : w.grownBy w1 v.ownBlock) (hv : v'.ownBlock = v.ownBlock ∨ v'.ownBlock = some w.heap.size) :
    PsIn w1 v' (pss ++ qss) lo w1.heap.size := by
  have hmz : mid ≤ w.heap.size := he.2.1
  have hj := he.join h2 hl hmz
  have hne : ∀ sv, sv ∈ svs ++ bs → ∀ g, sv.ownBlock = some g → v.ownBlock ≠ some g := fun sv hs g hgs => by
    rcases List.mem_append.1 hs with hs | hs
    · exact hd sv hs g hgs
    · intro e
      have q1 := hu g e
      have q2 := h2.mem_lt hs hgs
      omega
  have hk := hj.keeps hg.size fun b hb ⟨sv, hs, ho⟩ => hg.block b hb fun e => hne sv hs b ho e.symm
  refine PsIn.of_els (by rw [List.length_append]; exact ho) (fun k hk => (ho.lt k hk).2) (hk.wide (Nat.le_refl _) hg.size (Nat.le_refl _)) fun sv hs g hgs => ?_
  rcases hv with hv | hv
  · rw [hv]; exact hne sv hs g hgs
  · rw [hv]
    intro e
    have := (hj.mem_lt hs hgs).2
    injection e with e
    omega
end Go.Proofs.Ytimigpdbegfjaaa
