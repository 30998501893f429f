/-
  Proved: plain facts on an expression in memory of its own whose holes and marks are numbered in place, one node after another.
-/
import Derived.Test.YtimigpdbegfjaaaNodesW
import Derived.Test.YtimigpdbegfjaaaExRen
namespace Go.Proofs.Ytimigpdbegfjaaa
open Go.RowKit

def NodeP.hole (x : NodeP) : Prop := x.kd = 1 ∨ x.kd = 14
instance (x : NodeP) : Decidable x.hole := by unfold NodeP.hole; exact inferInstance
def NodeP.key (x : NodeP) : Nat × Nat := (x.b, x.off + 2)
def stepS (s : Int × (Nat × Nat → Option Int)) (x : NodeP) : Int × (Nat × Nat → Option Int) :=
  if x.hole then (s.1 + 1, fun p => if p = x.key then some (s.1 + 1) else s.2 p) else s
/-- What the nodes' numbers are behind these rounds: how many were given, and which. -/
def stamp (l : List NodeP) : Int × (Nat × Nat → Option Int) := l.foldl stepS (0, fun _ => none)
theorem stamp_nil : stamp [] = (0, fun _ => none) := rfl
theorem stamp_snoc (l : List NodeP) (x : NodeP) : stamp (l ++ [x]) = stepS (stamp l) x := by
  unfold stamp; rw [List.foldl_append]; rfl
theorem list_snoc {α : Type} (l : List α) (h : 0 < l.length) : ∃ a x, l = a ++ [x] := by
  refine ⟨l.take (l.length - 1), l[l.length - 1], ?_⟩
  rw [← List.take_succ_eq_append_getElem (by omega), show l.length - 1 + 1 = l.length from by omega, List.take_length]
theorem stamp_key : ∀ (n : Nat) (l : List NodeP), l.length = n → (∀ p m, (stamp l).2 p = some m → ∃ x, x ∈ l ∧ x.hole ∧ p = x.key) ∧ 0 ≤ (stamp l).1 ∧ (stamp l).1 ≤ n := by
  intro n
  induction n with
  | zero =>
    intro l hl
    have : l = [] := List.eq_nil_of_length_eq_zero hl
    subst this
    exact ⟨fun p m h => (by cases h), Int.le_refl _, Int.le_refl _⟩
  | succ n ih =>
    intro l hl
    obtain ⟨a, x, rfl⟩ := list_snoc l (by omega)
    have ha : a.length = n := by simpa using hl
    obtain ⟨h1, h2, h3⟩ := ih a ha
    rw [stamp_snoc]
    unfold stepS
    split
    · rename_i hx
      refine ⟨fun p m h => ?_, by show 0 ≤ (stamp a).1 + 1; omega, by show (stamp a).1 + 1 ≤ _; omega⟩
      dsimp only at h
      split at h
      · rename_i hp
        exact ⟨x, by simp, hx, hp⟩
      · obtain ⟨y, hy, hyh, hyp⟩ := h1 p m h
        exact ⟨y, by simp [hy], hyh, hyp⟩
    · refine ⟨fun p m h => ?_, h2, by omega⟩
      obtain ⟨y, hy, hyh, hyp⟩ := h1 p m h
      exact ⟨y, by simp [hy], hyh, hyp⟩
/-- The numbers that g gives, from the number behind c on. -/
def Numbered (g : Nat × Nat → Option Int) : Int → List NodeP → Prop
  | _, [] => True
  | c, x :: r => (if x.hole then g x.key = some (c + 1) else g x.key = none) ∧ Numbered g (if x.hole then c + 1 else c) r
def hc : List NodeP → Int
  | [] => 0
  | x :: r => (if x.hole then 1 else 0) + hc r
theorem numbered_append (g : Nat × Nat → Option Int) : ∀ (a b : List NodeP) (c : Int), Numbered g c (a ++ b) ↔ Numbered g c a ∧ Numbered g (c + hc a) b
  | [], b, c => by simp [Numbered, hc]
  | x :: r, b, c => by
    simp only [List.cons_append, Numbered, hc]
    rw [numbered_append g r b]
    by_cases h : x.hole
    · simp only [h, if_true]
      rw [show c + 1 + hc r = c + (1 + hc r) from by omega]
      exact and_assoc.symm
    · simp only [h, if_false]
      rw [show c + hc r = c + (0 + hc r) from by omega]
      exact and_assoc.symm
theorem numbered_congr {g g' : Nat × Nat → Option Int} : ∀ (a : List NodeP) (c : Int), (∀ x, x ∈ a → g' x.key = g x.key) → Numbered g c a → Numbered g' c a
  | [], _, _, _ => trivial
  | x :: r, c, h, hn => by
    obtain ⟨h1, h2⟩ := hn
    refine ⟨?_, numbered_congr r _ (fun y hy => h y (by simp [hy])) h2⟩
    rw [h x (by simp)]; exact h1
theorem stamp_count : ∀ (n : Nat) (l : List NodeP), l.length = n → (stamp l).1 = hc l := by
  intro n
  induction n with
  | zero =>
    intro l hl
    have : l = [] := List.eq_nil_of_length_eq_zero hl
    subst this; rfl
  | succ n ih =>
    intro l hl
    obtain ⟨a, x, rfl⟩ := list_snoc l (by omega)
    have ha : a.length = n := by simpa using hl
    have e : ∀ (a b : List NodeP), hc (a ++ b) = hc a + hc b := by
      intro a b
      induction a with
      | nil => simp [hc]
      | cons y r ih2 => simp only [List.cons_append, hc, ih2]; omega
    rw [stamp_snoc, e, ← ih a ha]
    unfold stepS
    by_cases hx : x.hole
    · rw [if_pos hx]; simp [hc, hx]
    · rw [if_neg hx]; simp [hc, hx]
def ApartN (x y : NodeP) : Prop := x.b ≠ y.b ∨ x.off + 6 ≤ y.off ∨ y.off + 6 ≤ x.off
theorem apart_key {x y : NodeP} (h : ApartN x y) : x.key ≠ y.key := by
  intro e
  unfold NodeP.key at e
  injection e with e1 e2
  rcases h with h | h | h
  · exact h e1
  · omega
  · omega
theorem stamp_numbered : ∀ (n : Nat) (l : List NodeP), l.length = n → l.Pairwise ApartN → Numbered (stamp l).2 0 l := by
  intro n
  induction n with
  | zero =>
    intro l hl _
    have : l = [] := List.eq_nil_of_length_eq_zero hl
    subst this; trivial
  | succ n ih =>
    intro l hl hp
    obtain ⟨a, x, rfl⟩ := list_snoc l (by omega)
    have ha : a.length = n := by simpa using hl
    rw [List.pairwise_append] at hp
    obtain ⟨hp1, _, hp3⟩ := hp
    have hk : ∀ y, y ∈ a → y.key ≠ x.key := fun y hy => apart_key (hp3 y hy x (by simp))
    rw [numbered_append, ← stamp_count n a ha, Int.zero_add]
    refine ⟨numbered_congr a 0 (fun y hy => ?_) (ih a ha hp1), ?_⟩
    · rw [stamp_snoc]
      unfold stepS
      split
      · show (if y.key = x.key then _ else _) = _
        rw [if_neg (hk y hy)]
      · rfl
    · refine ⟨?_, trivial⟩
      rw [stamp_snoc]
      unfold stepS
      by_cases hx : x.hole
      · rw [if_pos hx, if_pos hx]
        show (if x.key = x.key then _ else _) = _
        rw [if_pos rfl]
      · rw [if_neg hx, if_neg hx]
        cases hs : (stamp a).2 x.key with
        | none => rfl
        | some m =>
          obtain ⟨y, hy, _, e⟩ := (stamp_key n a ha).1 _ _ hs
          exact absurd e.symm (hk y hy)
/-- Six cells that lie behind one another. -/
def SixAt (w : World) (b off : Nat) (c0 c1 c2 c3 c4 c5 : Value) : Prop :=
  w.cell? ⟨b, off, none⟩ = some c0 ∧ w.cell? ⟨b, off + 1, none⟩ = some c1 ∧ w.cell? ⟨b, off + 2, none⟩ = some c2 ∧ w.cell? ⟨b, off + 3, none⟩ = some c3 ∧ w.cell? ⟨b, off + 4, none⟩ = some c4 ∧ w.cell? ⟨b, off + 5, none⟩ = some c5
/-- The nodes of an expression in memory of its own: where they lie. -/
theorem nodes_own (V : World) : ∀ (d b off : Nat) (t : Ex) (c0 c1 c2 c3 c4 c5 : Value) (fp : List Nat), b < V.heap.size → SixAt V b off c0 c1 c2 c3 c4 c5 → ExOwn V d (.agg #[c0, c1, c2, c3, c4, c5]) t fp → fp.Nodup → b ∉ fp →
    ∃ ys, NodesP V d b off t ys ∧ (∀ x, x ∈ ys → (x.b = b ∧ x.off = off) ∨ x.b ∈ fp) ∧ (∀ x, x ∈ ys → x.b < V.heap.size ∧ V.cell? ⟨x.b, x.off, none⟩ = some (.int .i64 x.kd) ∧ (∃ v, V.cell? ⟨x.b, x.off + 2, none⟩ = some v) ∧ (x.b ∈ fp → V.frozen? ⟨x.b, x.off + 2, none⟩ = false)) ∧ ys.Pairwise ApartN ∧ hc ys = t.holes.length ∧ ys.length ≤ 1 + t.bulk
  | 0, _, _, _, _, _, _, _, _, _, _, _, _, h, _, _ => h.elim
  | d + 1, b, off, .node kd nm n ty es, c0, c1, c2, c3, c4, c5, fp, hb, hs, h, hnd, hbf => by
    obtain ⟨s0, s1, s2, s3, s4, s5⟩ := hs
    obtain ⟨z3, z4, sl, f1, f2, hv, hk0, hk1, hn0, hn1, hnm, rfl, hty, a, cap, hd, fps, rfl, hcap, hcap2, hfl, rfl, hlt, hat⟩ := h
    injection hv with hv
    injection hv with hv
    simp only [List.cons.injEq, and_true] at hv
    obtain ⟨rfl, rfl, rfl, rfl, rfl, rfl⟩ := hv
    have hn2 := (List.nodup_append.1 hnd).2.1
    have hn3 := List.nodup_append.1 hn2
    have each : ∀ j, j < es.length → ∃ ys : List NodeP, ∃ (hj : j < es.length) (f : List Nat) (g o : Nat), fps[j]? = some f ∧ a = some ⟨g, o, none⟩ ∧ hd = [g] ∧ NodesP V d g (o + j * 6) es[j] ys ∧ (∀ x, x ∈ ys → (x.b = g ∧ x.off = o + j * 6) ∨ x.b ∈ f) ∧
        (∀ x, x ∈ ys → x.b < V.heap.size ∧ V.cell? ⟨x.b, x.off, none⟩ = some (.int .i64 x.kd) ∧ (∃ v, V.cell? ⟨x.b, x.off + 2, none⟩ = some v) ∧ V.frozen? ⟨x.b, x.off + 2, none⟩ = false) ∧ ys.Pairwise ApartN ∧ hc ys = es[j].holes.length ∧ ys.length ≤ 1 + es[j].bulk := by
      intro j hj
      obtain ⟨g, o, e0, e1, e2, e3, e4, e5, f, ha, hhd, hg, q0, q1, q2, q3, q4, q5, hfr, hfj, ht⟩ := hat j hj
      have hfm : ∀ x, x ∈ f → x ∈ fps.flatten := fun x hx => List.mem_flatten.2 ⟨f, List.mem_of_getElem? hfj, hx⟩
      have hfn : f.Nodup := (List.pairwise_flatten.1 hn3.2.1).1 f (List.mem_of_getElem? hfj)
      have hgf : g ∉ f := fun hm => hn3.2.2 g (by rw [hhd]; simp) g (hfm g hm) rfl
      obtain ⟨ys, y1, y2, y3, y4, y5, y6⟩ := nodes_own V d g (o + j * 6) es[j] e0 e1 e2 e3 e4 e5 f hg ⟨q0, q1, q2, q3, q4, q5⟩ ht hfn hgf
      refine ⟨ys, hj, f, g, o, hfj, ha, hhd, y1, y2, fun x hx => ?_, y4, y5, y6⟩
      obtain ⟨z1, z2, z3, z4⟩ := y3 x hx
      refine ⟨z1, z2, z3, ?_⟩
      rcases y2 x hx with ⟨e, e'⟩ | e
      · rw [e, e']; exact hfr _
      · exact z4 e
    obtain ⟨yss, hl, hys⟩ := list_choose es.length each
    refine ⟨⟨b, off, kd, n⟩ :: yss.flatten, ⟨a, cap, yss, hb, s5, hcap, hcap2, hl, rfl, fun j hj hj2 => ?_⟩, ?_, ?_, ?_, ?_, ?_⟩
    · obtain ⟨_, f, g, o, _, ha, _, hy, _⟩ := hys j hj2
      exact ⟨g, o, ha, hy⟩
    · intro x hx
      rcases List.mem_cons.1 hx with rfl | hx
      · exact Or.inl ⟨rfl, rfl⟩
      · obtain ⟨ys, hym, hxy⟩ := List.mem_flatten.1 hx
        obtain ⟨j, hj, rfl⟩ := List.mem_iff_getElem.1 hym
        obtain ⟨_, f, g, o, hfj, _, hhd, _, hw, _⟩ := hys j hj
        refine Or.inr (List.mem_append_right _ ?_)
        rcases hw x hxy with ⟨e, _⟩ | e
        · exact List.mem_append_left _ (by rw [hhd, e]; simp)
        · exact List.mem_append_right _ (List.mem_flatten.2 ⟨f, List.mem_of_getElem? hfj, e⟩)
    · intro x hx
      rcases List.mem_cons.1 hx with rfl | hx
      · exact ⟨hb, s0, ⟨_, s2⟩, fun h => absurd h hbf⟩
      · obtain ⟨ys, hym, hxy⟩ := List.mem_flatten.1 hx
        obtain ⟨j, hj, rfl⟩ := List.mem_iff_getElem.1 hym
        obtain ⟨_, f, g, o, _, _, _, _, _, hw, _⟩ := hys j hj
        obtain ⟨z1, z2, z3, z4⟩ := hw x hxy
        exact ⟨z1, z2, z3, fun _ => z4⟩
    · rw [List.pairwise_cons]
      refine ⟨fun y hy => Or.inl ?_, ?_⟩
      · intro e
        obtain ⟨ys, hym, hxy⟩ := List.mem_flatten.1 hy
        obtain ⟨j, hj, rfl⟩ := List.mem_iff_getElem.1 hym
        obtain ⟨_, f, g, o, hfj, _, hhd, _, hw, _⟩ := hys j hj
        refine hbf (List.mem_append_right _ ?_)
        have e2 : b = y.b := e
        rw [e2]
        rcases hw y hxy with ⟨e, _⟩ | e
        · exact List.mem_append_left _ (by rw [hhd, e]; simp)
        · exact List.mem_append_right _ (List.mem_flatten.2 ⟨f, List.mem_of_getElem? hfj, e⟩)
      · rw [List.pairwise_flatten]
        refine ⟨fun ys hym => ?_, ?_⟩
        · obtain ⟨j, hj, rfl⟩ := List.mem_iff_getElem.1 hym
          obtain ⟨_, f, g, o, _, _, _, _, _, _, hw, _⟩ := hys j hj
          exact hw
        · rw [List.pairwise_iff_getElem]
          intro i j hi hj hij x hx y hy
          obtain ⟨_, f, g, o, hfi, ha, hhd, _, hwi, _⟩ := hys i hi
          obtain ⟨_, f', g', o', hfj, ha', hhd', _, hwj, _⟩ := hys j hj
          rw [ha] at ha'
          injection ha' with ha'
          injection ha' with e1 e2
          subst e1 e2
          have hgn : ∀ z, z ∈ fps.flatten → g ≠ z := fun z hz => hn3.2.2 g (by rw [hhd]; simp) z hz
          have hmem : ∀ (f : List Nat) (k : Nat), fps[k]? = some f → ∀ z, z ∈ f → z ∈ fps.flatten := fun f k hk z hz => List.mem_flatten.2 ⟨f, List.mem_of_getElem? hk, hz⟩
          rcases hwi x hx with ⟨e1, e2⟩ | e1
          · rcases hwj y hy with ⟨e3, e4⟩ | e3
            · right; left; rw [e2, e4]; omega
            · left; rw [e1]; exact hgn _ (hmem f' j hfj _ e3)
          · rcases hwj y hy with ⟨e3, e4⟩ | e3
            · left; rw [e3]; exact fun e => hgn _ (hmem f i hfi _ e1) e.symm
            · left
              intro e
              have hd2 := (List.pairwise_flatten.1 hn3.2.1).2
              rw [List.pairwise_iff_getElem] at hd2
              have hi2 : i < fps.length := by rw [hfl]; omega
              have hj2 : j < fps.length := by rw [hfl]; omega
              have q1 : fps[i] = f := by rw [List.getElem?_eq_getElem hi2] at hfi; injection hfi
              have q2 : fps[j] = f' := by rw [List.getElem?_eq_getElem hj2] at hfj; injection hfj
              exact hd2 i j hi2 hj2 hij x.b (by rw [q1]; exact e1) y.b (by rw [q2]; exact e3) e
    · have e : ∀ (es : List Ex) (yss : List (List NodeP)), yss.length = es.length → (∀ j (h : j < es.length) (h2 : j < yss.length), hc yss[j] = es[j].holes.length) → hc yss.flatten = ((Ex.holess es).length : Int) := by
        have happ : ∀ (a b : List NodeP), hc (a ++ b) = hc a + hc b := by
          intro a b
          induction a with
          | nil => simp [hc]
          | cons y r ih2 => simp only [List.cons_append, hc, ih2]; omega
        intro es
        induction es with
        | nil =>
          intro yss h _
          have : yss = [] := List.eq_nil_of_length_eq_zero h
          subst this; rfl
        | cons x r ih =>
          intro yss h hj
          cases yss with
          | nil => simp at h
          | cons y ys =>
            have h0 : hc y = x.holes.length := hj 0 (by simp) (by simp)
            have h1 := ih ys (by simpa using h) (fun j h h2 => hj (j + 1) (by simpa using h) (by simpa using h2))
            simp only [List.flatten_cons, happ, Ex.holess, List.length_append, h0, h1]
            push_cast; rfl
      have h1 := e es yss hl (fun j h h2 => by obtain ⟨_, _, _, _, _, _, _, _, _, _, _, hw, _⟩ := hys j h2; exact hw)
      simp only [hc, Ex.holes, List.length_append, h1]
      unfold NodeP.hole
      dsimp only
      by_cases q : kd = 1 ∨ kd = 14
      · simp only [if_pos q, List.length_cons, List.length_nil, Nat.zero_add]; omega
      · simp only [if_neg q, List.length_nil, Nat.zero_add]; omega
    · have e : ∀ (es : List Ex) (yss : List (List NodeP)), yss.length = es.length → (∀ j (h : j < es.length) (h2 : j < yss.length), yss[j].length ≤ 1 + es[j].bulk) → yss.flatten.length ≤ Ex.bulks es := by
        intro es
        induction es with
        | nil =>
          intro yss h _
          have : yss = [] := List.eq_nil_of_length_eq_zero h
          subst this; simp
        | cons x r ih =>
          intro yss h hj
          cases yss with
          | nil => simp at h
          | cons y ys =>
            have h0 : y.length ≤ 1 + x.bulk := hj 0 (by simp) (by simp)
            have h1 := ih ys (by simpa using h) (fun j h h2 => hj (j + 1) (by simpa using h) (by simpa using h2))
            simp only [List.flatten_cons, List.length_append, Ex.bulks]; omega
      have h1 := e es yss hl (fun j h h2 => by obtain ⟨_, _, _, _, _, _, _, _, _, _, _, _, hw⟩ := hys j h2; exact hw)
      simp only [List.length_cons, Ex.bulk]; omega
end Go.Proofs.Ytimigpdbegfjaaa
