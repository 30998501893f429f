/-
  Proved: the reference's draw of a bent type gives a type of few parts in new memory; the memory that was there stays as it was, but for the draw's cursor.
-/
import Derived.Test.YtgoohelkgaklgaaDrawTy
import Derived.Test.YtgoohelkgaklgaaTypeNum
import Derived.Deep.RegionLaw
namespace Go.Proofs.Ytgoohelkgaklgaa
open Go.RowKit

/-- What drawing a bent type ends in. -/
def BentEnd (B p : Nat) (w : World) (e : Ending) (w' : World) : Prop :=
  ∃ d v t, e = .returned v ∧ (t.size ≤ 65536 ∧ (t.size ≤ 785 ∨ 800 < t.size)) ∧ Built w' w.heap.size d v t ∧ Cur B w' p ∧ w.grownBy w' (some p)
theorem Built.kind {w : World} {base d : Nat} {k y : Int} {sl : Value} {t : Ty} (h : Built w base d (.agg #[.int .i64 k, sl]) t) (h0 : 0 ≤ y) (h1 : y ≤ 255) : ∃ t', t'.size = t.size ∧ Built w base d (.agg #[.int .i64 y, sl]) t' := by
  obtain ⟨k', sl', ts, he, rfl, _, _, h⟩ := h
  injection he with he
  have e1 : sl = sl' := by simpa using (Array.ext_iff.1 he).2 1 (by simp) (by simp)
  subst e1
  exact ⟨.node y ts, by simp [Ty.size], y, sl, ts, rfl, rfl, h0, h1, h⟩
theorem FreeAt.stored {w : World} {p q j : Nat} {u : Value} (h : FreeAt w p) : FreeAt (w.setCell ⟨q, j, none⟩ u) p :=
  ⟨by simpa using h.1, fun i => by simpa using h.2 i⟩
theorem TyOwn.succ {w : World} : ∀ {d : Nat} {v : Value} {t : Ty} {fp : List Nat}, TyOwn w d v t fp → TyOwn w (d + 1) v t fp
  | 0, _, _, _, h => h.elim
  | d + 1, v, .node k ts, fp, h => by
    obtain ⟨sl, rfl, h0, h1, a, cap, hd, fps, rfl, h2, h3, h4, h5, h6, h7⟩ := h
    refine ⟨_, rfl, h0, h1, a, cap, hd, fps, rfl, h2, h3, h4, h5, h6, fun j hj => ?_⟩
    obtain ⟨g, off, c0, c1, f, e0, e1, e2, e3, e4, e5, e6, e7⟩ := h7 j hj
    exact ⟨g, off, c0, c1, f, e0, e1, e2, e3, e4, e5, e6, e7.succ⟩
theorem own_num (w : World) (d : Nat) : TyOwn w (d + 1) (.agg #[.int .i64 2, .slice none 0 0]) (.node 2 []) [] :=
  ⟨_, rfl, by omega, by omega, none, 0, [], [], rfl, Nat.le_refl _, by omega, rfl, rfl, (fun b hb => by cases hb), fun j hj => by simp at hj⟩
theorem box_two {w : World} {q : Nat} {a b : Value} (h : BoxAt w q #[a, b]) (c d : Value) : BoxAt ((w.setCell ⟨q, 0, none⟩ c).setCell ⟨q, 1, none⟩ d) q #[c, d] := by
  refine ⟨by simpa using h.1, fun j => ?_⟩
  match j with
  | 0 => have := h.2 0; simp [go_sem, this]
  | 1 => have := h.2 1; simp [go_sem, this]
  | j + 2 =>
    have := h.2 (j + 2)
    rw [World.cell?_setCell_other _ _ _ _ (by simp), World.cell?_setCell_other _ _ _ _ (by simp), this]
    simp
theorem pow_step {k n s s1 : Nat} (h : s + 1 = (s1 + 1) * 2 ^ k) (h1 : s1 ≤ 15) (hk : k < n) (hn : n ≤ 7) : 1 + (s + s) + 1 = (s1 + 1) * 2 ^ (k + 1) ∧ s ≤ 1048577 := by
  have h2 := Nat.pow_le_pow_right (n := 2) (by omega) (show k ≤ 6 by omega)
  have h3 : (s1 + 1) * 2 ^ k ≤ 16 * 2 ^ 6 := Nat.mul_le_mul (by omega) h2
  have h4 : (s1 + 1) * 2 ^ (k + 1) = (s1 + 1) * 2 ^ k * 2 := by rw [Nat.pow_succ, Nat.mul_assoc]
  omega
theorem pow_gap : ∀ a : Fin 16, ∀ b : Fin 8, (a.1 + 1) * 2 ^ b.1 ≤ 65537 ∧ ((a.1 + 1) * 2 ^ b.1 ≤ 786 ∨ 801 < (a.1 + 1) * 2 ^ b.1) := by decide
theorem pow_end {k s s1 : Nat} (h : s + 1 = (s1 + 1) * 2 ^ k) (h1 : s1 ≤ 15) (hk : k ≤ 7) : s ≤ 65536 ∧ (s ≤ 785 ∨ 800 < s) := by
  have := pow_gap ⟨s1, by omega⟩ ⟨k, by omega⟩
  simp only at this
  omega
theorem sizes_push (t : Ty) : ∀ ts : List Ty, Ty.sizes (ts ++ [t]) = Ty.sizes ts + t.size
  | [] => by simp [Ty.sizes]
  | a :: r => by simp only [List.cons_append, Ty.sizes]; rw [sizes_push t r]; omega
theorem CopyRow.ownlt {w : World} {base d : Nat} {v : Value} {ts : List Ty} (h : CopyRow w base d v ts) (g : Nat) (e : v.ownBlock = some g) : base ≤ g ∧ g < w.heap.size := by
  obtain ⟨cs, fps, hown, _⟩ := h
  exact hown.lt g e
/-- A leaf is appended, and then a cell stored elsewhere. -/
theorem CopyRow.push {wr w' : World} {base d : Nat} {v z0 z1 : Value} {ts : List Ty} {t : Ty} (h : CopyRow wr base d v ts) (hz : wr.heap.size ≤ w'.heap.size) (hk : ∀ b, base ≤ b → b < wr.heap.size → w'.heap[b]? = wr.heap[b]?) (ht : ∀ W, TyOwn W d (.agg #[z0, z1]) t []) :
    ∃ cs, w'.ownsRow base 26 2 v ts.length cs ∧ ∀ (o : Obj) (g cap : Nat) (w1 : World) (q j : Nat) (u : Value), w1.ownsRow base 26 2 (.slice (some ⟨g, 0, none⟩) (ts.length + 1) cap) (ts.length + 1) (cs ++ [z0, z1]) →
      (w'.alloc o).grownBy w1 v.ownBlock → (v.ownBlock = some g ∨ g = w'.heap.size + 1) → wr.heap.size ≤ q → q ≤ w'.heap.size → CopyRow (w1.setCell ⟨q, j, none⟩ u) base d (.slice (some ⟨g, 0, none⟩) (ts.length + 1) cap) (ts ++ [t]) := by
  have h' := h.kept hz hk
  obtain ⟨cs, fps, hown, hl, hf, hg, hat⟩ := h
  have hlt := hown.lt
  have hcs : cs.length = ts.length * 2 := hown.1
  have hown' : w'.ownsRow base 26 2 v ts.length cs := by
    refine ⟨hown.1, ?_⟩
    rcases hown.2 with h | ⟨g, cap, cur, rfl, r1, r2, r3⟩
    · exact Or.inl h
    · exact Or.inr ⟨g, cap, cur, rfl, r1, by rw [hk g (hlt g rfl).1 (hlt g rfl).2]; exact r2, r3⟩
  refine ⟨cs, hown', fun o g cap w1 q j u hown1 hgrow hnew hq hq2 => ?_⟩
  have hza : (w'.alloc o).heap.size = w'.heap.size + 1 := by simp
  have hz1 := hgrow.size
  rw [hza] at hz1
  have hqg : g ≠ q := by
    rcases hnew with e | e
    · have := (hlt g e).2; omega
    · omega
  have hkeep : ∀ b, base ≤ b → b < wr.heap.size → v.ownBlock ≠ some b → (w1.setCell ⟨q, j, none⟩ u).heap[b]? = wr.heap[b]? := fun b h0 h1 h2 => by
    rw [heap_setCell_other _ _ _ _ (show b ≠ q by omega), hgrow.block b (by rw [hza]; omega) (fun e => h2 e.symm), heap_alloc_old _ _ (show b < w'.heap.size by omega), hk b h0 h1]
  refine ⟨cs ++ [z0, z1], fps ++ [[]], ⟨by simpa using hown1.1, ?_⟩, by simp [hl], ?_, ?_, fun i hi => ?_⟩
  · rcases hown1.2 with ⟨h, _⟩ | ⟨g', cap', cur, e, r1, r2, r3⟩
    · cases h
    · have e2 : g = g' := by injection e with e _ _; injection e with e; injection e
      subst e2
      exact Or.inr ⟨g, cap', cur, by simpa using e, r1, by rw [heap_setCell_other _ _ _ _ hqg]; exact r2, by simpa using r3⟩
  · rw [List.flatten_append, List.flatten_cons, List.flatten_nil, List.append_nil, List.append_nil]
    exact hf.mono (Nat.le_refl _) (by simp; omega)
  · intro g' hg'
    simp only [Value.ownBlock, Option.some.injEq] at hg'
    subst hg'
    rw [List.flatten_append, List.flatten_cons, List.flatten_nil, List.append_nil, List.append_nil]
    intro hm
    rcases hnew with h | h
    · exact hg _ h hm
    · have := (hf.2 _ hm).2; omega
  · by_cases hjn : i = ts.length
    · subst hjn
      refine ⟨z0, z1, [], ?_, ?_, ?_, ?_⟩
      · rw [List.getElem?_append_right (by omega), hcs]; simp
      · rw [List.getElem?_append_right (by omega), hcs]; simp
      · rw [List.getElem?_append_right (by omega), hl]; simp
      · rw [List.getElem_append_right (by omega)]
        simp only [Nat.sub_self, List.getElem_cons_zero]
        exact ht _
    · have hj2 : i < ts.length := by simp at hi; omega
      obtain ⟨c0, c1, f', h0, h1, h2, h3⟩ := hat i hj2
      refine ⟨c0, c1, f', ?_, ?_, ?_, ?_⟩
      · rw [List.getElem?_append_left (by omega)]; exact h0
      · rw [List.getElem?_append_left (by omega)]; exact h1
      · rw [List.getElem?_append_left (by omega)]; exact h2
      · rw [List.getElem_append_left hj2]
        exact h3.kept (by simp; omega) fun b hbf => hkeep b (hf.2 b (flat_mem h2 hbf)).1 (hf.2 b (flat_mem h2 hbf)).2 (fun e => hg b e (flat_mem h2 hbf))
set_option maxRecDepth 100000 in
set_option maxHeartbeats 4000000 in
theorem bentTy (B p : Nat) (w : World) (h : Cur B w p) :
    Calls Try.prog 17 #[.pointer (some ⟨p, 0, none⟩)] w (BentEnd B p w) := by
  obtain ⟨i0, hi, hz0, hz1, hz2⟩ := info_parts info_ty
  have HI := Lib.hid hi; clear hi
  have HZ0 := Lib.hid hz0; clear hz0
  have HZ1 := Lib.hid hz1; clear hz1
  have HZ2 := Lib.hid hz2; clear hz2
  have HP := Lib.hid h.inside
  have HL := Lib.hid h.lo
  have HC := Lib.hid (h.keeps (World.grownBy_alloc w (.cells #[.int .i64 0, .slice none 0 0] 26) none)); clear h
  have XR : Hid (BoxAt (w.alloc (.cells #[.int .i64 0, .slice none 0 0] 26)) w.heap.size #[.int .i64 0, .slice none 0 0]) := BoxAt.new _ _ _
  have XF : Hid (FreeAt (w.alloc (.cells #[.int .i64 0, .slice none 0 0] 26)) w.heap.size) := FreeAt.new _ _ _
  have G := Lib.hid (World.grownBy_alloc w (.cells #[.int .i64 0, .slice none 0 0] 26) (some p))
  go_enter Try.func17, Try.ntmps17
  go_wp2_with fail
  refine (drawTy B p 3 4 _ (by omega) (by omega) HC.out).mono ?_
  rintro e w2 ⟨v2, t1, rfl, hn1, hb2, hc2, hg2⟩
  obtain ⟨ak, aa, an, ac, rfl⟩ := hb2.form
  have hz2 := hg2.size
  simp only [World.size_alloc] at hz2
  have hs1 : t1.size ≤ 15 := by simp at hn1; omega
  clear hn1
  have HT := Lib.hid (hb2.base (base' := w.heap.size + 1) (by simp))
  have HA := below_alloc w2 (.cells #[.int .i64 ak, .slice aa an ac] 26)
  have XA : Hid (BoxAt (w2.alloc (.cells #[.int .i64 ak, .slice aa an ac] 26)) w2.heap.size #[.int .i64 ak, .slice aa an ac]) := BoxAt.new _ _ _
  have XO : Hid (FreeAt (w2.alloc (.cells #[.int .i64 ak, .slice aa an ac] 26)) w2.heap.size) := FreeAt.new _ _ _
  replace HC := Lib.hid (hc2.beside HA)
  replace XR := Lib.hid ((XR.out.grownPast hg2 (by have := HP.out; omega)).below HA)
  replace XF := Lib.hid ((XF.out.grownPast hg2 (by have := HP.out; omega)).below HA)
  replace G := Lib.hid (grown_thru (G.out.trans hg2) HA)
  have G2 := Lib.hid (World.grownBy_alloc w2 (.cells #[.int .i64 ak, .slice aa an ac] 26) (some p))
  clear hb2 hc2 hg2 HA
  have hpw := HP.out
  have hlo := HL.out
  clear HP HL
  go_wp2_with fail
  refine (curBelow B p 10 (by omega) (by omega) _ HC.out).mono ?_
  rintro e w3 ⟨x, rfl, hx0, hx1, hc3, hg3⟩
  have hz3 := hg3.size
  simp only [World.size_alloc] at hz3
  replace HC := Lib.hid hc3
  replace XR := Lib.hid (XR.out.grownPast hg3 (by omega))
  replace XF := Lib.hid (XF.out.grownPast hg3 (by omega))
  replace XA := Lib.hid (XA.out.grownPast hg3 (by omega))
  replace XO := Lib.hid (XO.out.grownPast hg3 (by omega))
  replace G := Lib.hid (G.out.trans hg3)
  replace G2 := Lib.hid (G2.out.trans hg3)
  clear hc3 hg3
  by_cases x0 : x = 0
  · subst x0
    go_wp2_with fail
    refine (curBelow B p 7 (by omega) (by omega) _ HC.out).mono ?_
    rintro e w4 ⟨y, rfl, hy0, hy1, hc4, hg4⟩
    have hz4 := hg4.size
    replace HC := Lib.hid hc4
    replace XR := Lib.hid (XR.out.grownPast hg4 (by omega))
    replace XF := Lib.hid (XF.out.grownPast hg4 (by omega))
    replace XA := Lib.hid (XA.out.grownPast hg4 (by omega))
    replace XO := Lib.hid (XO.out.grownPast hg4 (by omega))
    replace G := Lib.hid (G.out.trans hg4)
    replace G2 := Lib.hid (G2.out.trans hg4)
    clear hc4 hg4
    have r0 := XR.out.2 0
    have r1 := XR.out.2 1
    have q0 := XF.out.2 0
    have q1 := XF.out.2 1
    have t0x := XA.out.2 0
    have t1x := XA.out.2 1
    have u0 := XO.out.2 0
    have u1 := XO.out.2 1
    obtain ⟨t2, hs2, hb2⟩ := HT.out.kind hy0 (show y ≤ 255 by omega)
    have HT2 := Lib.hid hb2
    clear hb2
    go_wp2_with fail
    refine bodyPost_ret (v := .agg #[.int .i64 y, .slice aa an ac]) (by simp [results, Try.results17, go_sem, r0, r1]) rfl ?_
    exact ⟨3, _, t2, rfl, ⟨by omega, Or.inl (by omega)⟩, (((HT2.out.far (grown_own G2.out (grown_set _ w2.heap.size 0 _) (fun k e => by cases e; exact Nat.le_refl _)) (by omega)).far (grown_set _ w.heap.size 0 _) (by omega)).far (grown_set _ w.heap.size 1 _) (by omega)).base (by omega), ((HC.out.stored (by omega) (by omega)).stored (by omega) (by omega)).stored (by omega) (by omega), grown_own (grown_own (grown_own G.out (grown_set _ w2.heap.size 0 _) (fun k e => by cases e; omega)) (grown_set _ w.heap.size 0 _) (fun k e => by cases e; exact Nat.le_refl _)) (grown_set _ w.heap.size 1 _) (fun k e => by cases e; exact Nat.le_refl _)⟩
  have e0 : (x == 0) = false := by rw [beq_eq_false_iff_ne]; exact x0
  by_cases x1 : x = 1
  · subst x1
    obtain ⟨k', sl', ts, he, ht1, hk0, hk1, hrow⟩ := HT.out
    have hsl : k' = ak ∧ sl' = .slice aa an ac := by
      injection he with he
      have e1 := (Array.ext_iff.1 he).2 0 (by simp) (by simp)
      have e2 := (Array.ext_iff.1 he).2 1 (by simp) (by simp)
      simp at e1 e2
      exact ⟨e1.symm, e2.symm⟩
    obtain ⟨rfl, rfl⟩ := hsl
    clear he
    obtain ⟨cs, hown, happ⟩ := hrow.push (z0 := .int .i64 2) (z1 := .slice none 0 0) (t := .node 2 []) G2.out.size (fun b h2 h3 => G2.out.block b h3 (fun e => by have := Option.some.inj e; omega)) (fun W => own_num W 2)
    have hlen : ts.length ≤ 65536 := by rw [ht1] at hs1; simp only [Ty.size] at hs1; have := Ty.length_le ts; omega
    have hnl : ts.length = an := by
      obtain ⟨a', c', e⟩ := hrow.form
      injection e with _ e2 _
      exact e2.symm
    subst hnl
    have HNT := Lib.hid (fun g (e : (Value.slice aa ts.length ac).ownBlock = some g) => (hown.lt g e).1)
    have HNU := Lib.hid (fun g (e : (Value.slice aa ts.length ac).ownBlock = some g) => (hrow.ownlt g e).2)
    have HOWN := Lib.hid hown
    have HAPP := Lib.hid happ
    clear hown happ hrow
    have r0 := XR.out.2 0
    have r1 := XR.out.2 1
    have q0 := XF.out.2 0
    have q1 := XF.out.2 1
    have t0x := XA.out.2 0
    have t1x := XA.out.2 1
    have u0 := XO.out.2 0
    have u1 := XO.out.2 1
    go_wp2_with (at_builtin; go_must (refine wpList_append_lies _ rfl (.tmp 20) (.tmp 22) 24 rfl (w.heap.size + 1) 26 i0 (.agg #[.int .i64 0, .slice none 0 0]) 2 32 Try.underlying24 HI.out HZ0.out HZ1.out HZ2.out rfl (by omega) (.slice aa ts.length ac) ts.length cs rfl (HOWN.out.alloc _) ⟨w3.heap.size, 0, none⟩ 1 1 [.int .i64 2, .slice none 0 0] rfl rfl (World.news_of_block (cs := #[.int .i64 2, .slice none 0 0]) (t := 26) (fr := (0, 0)) (heap_alloc_new w3 _)) (by simp [Value.oneCell']) (by omega) (by unfold maxLen; omega) (by omega) (by simp; omega) (w3.heap.size + 1) (by simp) ?_); intro g cap w5 hown5 hg5 hat5 hlt5; refine Hid.out ?_)
    have hrow5 := HAPP.out _ g cap w5 w2.heap.size 1 (.slice (some ⟨g, 0, none⟩) (ts.length + 1) cap) hown5 hg5 hat5 (Nat.le_refl _) (by omega)
    have hz5 := hg5.size
    simp only [World.size_alloc] at hz5
    have hne : ∀ q, q < w3.heap.size → (Value.slice aa ts.length ac).ownBlock ≠ some q → w5.heap[q]? = w3.heap[q]? := fun q h1 h2 => by
      rw [hg5.block q (by simp; omega) (fun e => h2 e.symm), heap_alloc_old _ _ h1]
    have hnR : (Value.slice aa ts.length ac).ownBlock ≠ some w.heap.size := fun e => by have := HNT.out _ e; omega
    have hnT : (Value.slice aa ts.length ac).ownBlock ≠ some w2.heap.size := fun e => by have := HNU.out _ e; omega
    have XR5 : BoxAt w5 w.heap.size #[.int .i64 0, .slice none 0 0] := XR.out.kept (by omega) (hne _ (by omega) hnR)
    have XA5 : BoxAt w5 w2.heap.size #[.int .i64 k', .slice aa ts.length ac] := XA.out.kept (by omega) (hne _ (by omega) hnT)
    have f0 : w5.frozen? ⟨w.heap.size, 0, none⟩ = false := (World.frozen?_of_block (hne w.heap.size (by omega) hnR)).trans q0
    have f1 : w5.frozen? ⟨w.heap.size, 1, none⟩ = false := (World.frozen?_of_block (hne w.heap.size (by omega) hnR)).trans q1
    have f2 : w5.frozen? ⟨w2.heap.size, 1, none⟩ = false := (World.frozen?_of_block (hne w2.heap.size (by omega) hnT)).trans u1
    clear r0 r1 q0 q1 t0x t1x u0 u1
    have r0 := XR5.2 0
    have r1 := XR5.2 1
    have t0x := XA5.2 0
    have t1x := XA5.2 1
    have HROW5 := Lib.hid hrow5
    have G5 := Lib.hid (grown_own (grown_thru G.out (below_alloc w3 (.cells #[.int .i64 2, .slice none 0 0] 26))) hg5 (fun k e => by have := HNT.out _ e; omega))
    have HC5 := Lib.hid ((HC.out.beside (below_alloc w3 (.cells #[.int .i64 2, .slice none 0 0] 26))).past hg5 (fun e => by have := HNT.out _ e.symm; omega) (fun k e => by have := HNT.out _ e; omega))
    clear hown5 hg5 hat5 hrow5 HAPP HOWN HNT HNU hne XR5 XA5
    subst ht1
    simp only [Ty.size] at hs1
    refine Lib.hid ?_
    go_wp2_with fail
    refine bodyPost_ret (v := .agg #[.int .i64 k', .slice (some ⟨g, 0, none⟩) (ts.length + 1) cap]) (by simp [results, Try.results17, go_sem, r0, r1]) rfl ?_
    have hb5 : Built (w5.setCell ⟨w2.heap.size, 1, none⟩ (.slice (some ⟨g, 0, none⟩) (ts.length + 1) cap)) (w.heap.size + 1) 3 (.agg #[.int .i64 k', .slice (some ⟨g, 0, none⟩) (ts.length + 1) cap]) (.node k' (ts ++ [.node 2 []])) := ⟨_, _, _, rfl, rfl, hk0, hk1, HROW5.out⟩
    exact ⟨3, _, _, rfl, (by simp only [Ty.size]; rw [sizes_push]; simp only [Ty.size, Ty.sizes]; exact ⟨by omega, Or.inl (by omega)⟩), ((hb5.far (grown_set _ w.heap.size 0 _) (by omega)).far (grown_set _ w.heap.size 1 _) (by omega)).base (by omega), ((HC5.out.stored (by omega) (by omega)).stored (by omega) (by omega)).stored (by omega) (by omega), grown_own (grown_own (grown_own G5.out (grown_set _ w2.heap.size 1 _) (fun k e => by cases e; omega)) (grown_set _ w.heap.size 0 _) (fun k e => by cases e; exact Nat.le_refl _)) (grown_set _ w.heap.size 1 _) (fun k e => by cases e; exact Nat.le_refl _)⟩
  have e1 : (x == 1) = false := by rw [beq_eq_false_iff_ne]; exact x1
  by_cases x2 : x = 2
  · subst x2
    go_wp2_with fail
    refine (curBelow B p 7 (by omega) (by omega) _ HC.out).mono ?_
    rintro e w4 ⟨y, rfl, hy0, hy1, hc4, hg4⟩
    have hz4 := hg4.size
    replace HC := Lib.hid hc4
    replace XR := Lib.hid (XR.out.grownPast hg4 (by omega))
    replace XF := Lib.hid (XF.out.grownPast hg4 (by omega))
    replace XA := Lib.hid (XA.out.grownPast hg4 (by omega))
    replace XO := Lib.hid (XO.out.grownPast hg4 (by omega))
    replace G := Lib.hid (G.out.trans hg4)
    replace G2 := Lib.hid (G2.out.trans hg4)
    clear hc4 hg4
    go_wp2_with fail
    go_loopw [5] (fun i wr => ∃ (k d : Nat) (t : Ty) (bk : Int) (ba : Option Addr) (bn bc : Nat), (k : Int) ≤ 1 + y ∧ i = .int .i64 k ∧ t.size + 1 = (t1.size + 1) * 2 ^ k ∧ Built wr (w.heap.size + 1) d (.agg #[.int .i64 bk, .slice ba bn bc]) t ∧ BoxAt wr w2.heap.size #[.int .i64 bk, .slice ba bn bc] ∧ FreeAt wr w2.heap.size ∧ BoxAt wr w.heap.size #[.int .i64 0, .slice none 0 0] ∧ FreeAt wr w.heap.size ∧ Cur B wr p ∧ w.grownBy wr (some p)) (fun i _ => 100 - (intOf i).toNat)
    case atStart => exact ⟨0, 3, t1, ak, aa, an, ac, by omega, rfl, by simp, HT.out.far G2.out (by omega), XA.out, XO.out, XR.out, XF.out, HC.out, G.out⟩
    case round =>
      clear HT XA XO XR XF HC G G2
      obtain ⟨k, d, t, bk, ba, bn, bc, hk, rfl, hsz, hb, xa, xo, xr, xf, hc, hg⟩ := hrel
      have HT := Lib.hid hb
      have XA := Lib.hid xa
      have XO := Lib.hid xo
      have XR := Lib.hid xr
      have XF := Lib.hid xf
      have HC := Lib.hid hc
      have G := Lib.hid hg
      have HSZ := Lib.hid hsz
      have hzr := xa.1
      have hzg := hg.size
      clear hb xa xo xr xf hc hg hsz
      have r0 := XR.out.2 0
      have r1 := XR.out.2 1
      have q0 := XF.out.2 0
      have q1 := XF.out.2 1
      have t0x := XA.out.2 0
      have t1x := XA.out.2 1
      have u0 := XO.out.2 0
      have u1 := XO.out.2 1
      by_cases hlt : (k : Int) < 1 + y
      · have hps := pow_step HSZ.out hs1 (n := 7) (by omega) (Nat.le_refl _)
        have hs := hps.2
        have HPS := Lib.hid hps.1
        clear hps
        go_wp2_with fail
        refine (specArrowBuilt (d + 1) _ _ t t _ hs hs HT.out.at_ HT.out.at_).mono ?_
        rintro e w6 ⟨v6, rfl, hb6, hbl⟩
        obtain ⟨ck, ca, cn, cc, rfl⟩ := hb6.form
        have HB6 := Lib.hid hb6
        clear hb6
        have hzb := hbl.size
        have XA6 := XA.out.below hbl
        have XO6 := XO.out.below hbl
        have XR6 := XR.out.below hbl
        have XF6 := XF.out.below hbl
        have HC6 := Lib.hid (HC.out.beside hbl)
        have G6 := Lib.hid (grown_thru G.out hbl)
        clear t0x t1x r0 r1 q0 q1 u0 u1
        have t0y := XA6.2 0
        have t1y := XA6.2 1
        have u0y := XO6.2 0
        have u1y := XO6.2 1
        have XA7 := Lib.hid XA6
        have XO7 := Lib.hid XO6
        have XR7 := Lib.hid XR6
        have XF7 := Lib.hid XF6
        clear XA6 XO6 XR6 XF6 hbl
        go_wp2_with fail
        exact ⟨⟨k + 1, d + 1, _, ck, ca, cn, cc, by omega, by go_num, by have := HPS.out; simp only [Ty.size, Ty.sizes]; omega, ((HB6.out.far (grown_set _ w2.heap.size 0 _) (by omega)).far (grown_set _ w2.heap.size 1 _) (by omega)).base (by omega), box_two XA7.out _ _, XO7.out.stored.stored, (XR7.out.stored (by omega)).stored (by omega), XF7.out.stored.stored, (HC6.out.stored (by omega) (by omega)).stored (by omega) (by omega), grown_own (grown_own G6.out (grown_set _ w2.heap.size 0 _) (fun k e => by cases e; omega)) (grown_set _ w2.heap.size 1 _) (fun k e => by cases e; omega)⟩, by simp [intOf]; omega⟩
      · go_wp2_with fail
        refine bodyPost_ret (v := .agg #[.int .i64 bk, .slice ba bn bc]) (by simp [results, Try.results17, go_sem, r0, r1]) rfl ?_
        exact ⟨d, _, _, rfl, pow_end HSZ.out hs1 (by omega), ((HT.out.far (grown_set _ w.heap.size 0 _) (by omega)).far (grown_set _ w.heap.size 1 _) (by omega)).base (by omega), (HC.out.stored (by omega) (by omega)).stored (by omega) (by omega), grown_own (grown_own G.out (grown_set _ w.heap.size 0 _) (fun k e => by cases e; exact Nat.le_refl _)) (grown_set _ w.heap.size 1 _) (fun k e => by cases e; exact Nat.le_refl _)⟩
  have e2 : (x == 2) = false := by rw [beq_eq_false_iff_ne]; exact x2
  by_cases x3 : x = 3
  · subst x3
    go_wp2_with fail
    refine (curBelow B p 5 (by omega) (by omega) _ HC.out).mono ?_
    rintro e w4 ⟨y, rfl, hy0, hy1, hc4, hg4⟩
    have hz4 := hg4.size
    replace HC := Lib.hid hc4
    replace XR := Lib.hid (XR.out.grownPast hg4 (by omega))
    replace XF := Lib.hid (XF.out.grownPast hg4 (by omega))
    replace XA := Lib.hid (XA.out.grownPast hg4 (by omega))
    replace XO := Lib.hid (XO.out.grownPast hg4 (by omega))
    replace G := Lib.hid (G.out.trans hg4)
    replace G2 := Lib.hid (G2.out.trans hg4)
    clear hc4 hg4
    go_wp2_with fail
    go_loopw [7] (fun i wr => ∃ (k d : Nat) (t : Ty) (bk : Int) (ba : Option Addr) (bn bc : Nat), (k : Int) ≤ 20 + y ∧ i = .int .i64 k ∧ t.size ≤ 15 + 2 * k ∧ Built wr (w.heap.size + 1) d (.agg #[.int .i64 bk, .slice ba bn bc]) t ∧ BoxAt wr w2.heap.size #[.int .i64 bk, .slice ba bn bc] ∧ FreeAt wr w2.heap.size ∧ BoxAt wr w.heap.size #[.int .i64 0, .slice none 0 0] ∧ FreeAt wr w.heap.size ∧ Cur B wr p ∧ w.grownBy wr (some p)) (fun i _ => 100 - (intOf i).toNat)
    case atStart => exact ⟨0, 3, t1, ak, aa, an, ac, by omega, rfl, by omega, HT.out.far G2.out (by omega), XA.out, XO.out, XR.out, XF.out, HC.out, G.out⟩
    case round =>
      clear HT XA XO XR XF HC G G2
      obtain ⟨k, d, t, bk, ba, bn, bc, hk, rfl, hsz, hb, xa, xo, xr, xf, hc, hg⟩ := hrel
      have HT := Lib.hid hb
      have XA := Lib.hid xa
      have XO := Lib.hid xo
      have XR := Lib.hid xr
      have XF := Lib.hid xf
      have HC := Lib.hid hc
      have G := Lib.hid hg
      have HSZ := Lib.hid hsz
      have hzr := xa.1
      have hzg := hg.size
      clear hb xa xo xr xf hc hg hsz
      have r0 := XR.out.2 0
      have r1 := XR.out.2 1
      have q0 := XF.out.2 0
      have q1 := XF.out.2 1
      have t0x := XA.out.2 0
      have t1x := XA.out.2 1
      have u0 := XO.out.2 0
      have u1 := XO.out.2 1
      by_cases hlt : (k : Int) < 20 + y
      · have hs : t.size ≤ 1048577 := by have := HSZ.out; omega
        go_wp2_with fail
        go_region_law (first
          | (go_simp
             go_at_call 35
             refine (specNumType _).mono ?_
             rintro e w5 ⟨rfl, hbl5⟩
             have hbl5' := below_thru (below_drew wr) (Nat.le_refl _) hbl5
             have HBL5 := Lib.hid hbl5'
             have t0z := (XA.out.below hbl5').2 0
             have t1z := (XA.out.below hbl5').2 1
             clear hbl5 hbl5')
          | (go_simp
             go_at_call 34
             refine (specPairBuilt (d + 1) _ _ (.node 2 []) t _ (by simp [Ty.size, Ty.sizes]) hs (own_num _ d).at_ (HT.out.below HBL5.out).at_).mono ?_
             rintro e w6 ⟨v6, rfl, hb6, hbl6⟩
             obtain ⟨ck, ca, cn, cc, rfl⟩ := hb6.form
             have hbl := below_thru HBL5.out (Nat.le_refl _) hbl6
             have HB6 := Lib.hid (hb6.base HBL5.out.size)
             clear hb6 hbl6 t0z t1z
             have hzb := hbl.size
             have XA6 := XA.out.below hbl
             have XO6 := XO.out.below hbl
             have XR6 := XR.out.below hbl
             have XF6 := XF.out.below hbl
             have HC6 := Lib.hid (HC.out.beside hbl)
             have G6 := Lib.hid (grown_thru G.out hbl)
             clear t0x t1x r0 r1 q0 q1 u0 u1
             have t0y := XA6.2 0
             have t1y := XA6.2 1
             have u0y := XO6.2 0
             have u1y := XO6.2 1
             have XA7 := Lib.hid XA6
             have XO7 := Lib.hid XO6
             have XR7 := Lib.hid XR6
             have XF7 := Lib.hid XF6
             clear XA6 XO6 XR6 XF6 hbl))
        all_goals go_wp2_with fail
        all_goals
          exact ⟨⟨k + 1, d + 1, _, ck, ca, cn, cc, by omega, by go_num, by have := HSZ.out; simp only [Ty.size, Ty.sizes]; omega, ((HB6.out.far (grown_set _ w2.heap.size 0 _) (by omega)).far (grown_set _ w2.heap.size 1 _) (by omega)).base (by omega), box_two XA7.out _ _, XO7.out.stored.stored, (XR7.out.stored (by omega)).stored (by omega), XF7.out.stored.stored, (HC6.out.stored (by omega) (by omega)).stored (by omega) (by omega), grown_own (grown_own G6.out (grown_set _ w2.heap.size 0 _) (fun k e => by cases e; omega)) (grown_set _ w2.heap.size 1 _) (fun k e => by cases e; omega)⟩, by simp [intOf]; omega⟩
      · go_wp2_with fail
        refine bodyPost_ret (v := .agg #[.int .i64 bk, .slice ba bn bc]) (by simp [results, Try.results17, go_sem, r0, r1]) rfl ?_
        exact ⟨d, _, _, rfl, ⟨by have := HSZ.out; omega, Or.inl (by have := HSZ.out; omega)⟩, ((HT.out.far (grown_set _ w.heap.size 0 _) (by omega)).far (grown_set _ w.heap.size 1 _) (by omega)).base (by omega), (HC.out.stored (by omega) (by omega)).stored (by omega) (by omega), grown_own (grown_own G.out (grown_set _ w.heap.size 0 _) (fun k e => by cases e; exact Nat.le_refl _)) (grown_set _ w.heap.size 1 _) (fun k e => by cases e; exact Nat.le_refl _)⟩
  have e3 : (x == 3) = false := by rw [beq_eq_false_iff_ne]; exact x3
  have r0 := XR.out.2 0
  have r1 := XR.out.2 1
  have q0 := XF.out.2 0
  have q1 := XF.out.2 1
  have t0x := XA.out.2 0
  have t1x := XA.out.2 1
  have u0 := XO.out.2 0
  have u1 := XO.out.2 1
  go_wp2_with fail
  refine bodyPost_ret (v := .agg #[.int .i64 ak, .slice aa an ac]) (by simp [results, Try.results17, go_sem, r0, r1]) rfl ?_
  exact ⟨3, _, t1, rfl, ⟨by omega, Or.inl (by omega)⟩, (((HT.out.far G2.out (by omega)).far (grown_set _ w.heap.size 0 _) (by omega)).far (grown_set _ w.heap.size 1 _) (by omega)).base (by omega), (HC.out.stored (by omega) (by omega)).stored (by omega) (by omega), grown_own (grown_own G.out (grown_set _ w.heap.size 0 _) (fun k e => by cases e; exact Nat.le_refl _)) (grown_set _ w.heap.size 1 _) (fun k e => by cases e; exact Nat.le_refl _)⟩
end Go.Proofs.Ytgoohelkgaklgaa
