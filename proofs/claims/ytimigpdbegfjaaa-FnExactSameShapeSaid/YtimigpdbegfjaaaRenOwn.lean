/-
  Proved: plain facts: an expression in memory of its own whose holes and marks were numbered in place reads as the one numbered anew.
-/
import Derived.Test.YtimigpdbegfjaaaStamp
namespace Go.Proofs.Ytimigpdbegfjaaa
open Go.RowKit

theorem nodesP_unique (V : World) : ∀ (d b off : Nat) (t : Ex) (ys zs : List NodeP), NodesP V d b off t ys → NodesP V d b off t zs → ys = zs
  | 0, _, _, _, _, _, h, _ => h.elim
  | d + 1, b, off, .node kd nm n ty es, ys, zs, h1, h2 => by
    obtain ⟨a, cap, yss, hb, h5, hc, hc2, hl, rfl, hat⟩ := h1
    obtain ⟨a', cap', zss, hb', h5', hc', hc2', hl', rfl, hat'⟩ := h2
    rw [h5] at h5'
    injection h5' with h5'
    injection h5' with e1 _ e2
    subst e1 e2
    have : yss = zss := by
      apply List.ext_getElem (by omega)
      intro j h1 h2
      obtain ⟨g, o, ha, hn⟩ := hat j (by omega) h1
      obtain ⟨g', o', ha', hn'⟩ := hat' j (by omega) h2
      rw [ha] at ha'
      injection ha' with ha'
      injection ha' with e1 e2
      subst e1 e2
      exact nodesP_unique V d _ _ _ _ _ hn hn'
    rw [this]
theorem Ex.rens_get : ∀ (es : List Ex) (n : Int) (j : Nat) (h : j < es.length) (h2 : j < (Ex.rens es n).length), (Ex.rens es n)[j] = es[j].ren (n + ((Ex.holess (es.take j)).length : Int))
  | [], _, _, h, _ => by simp at h
  | e :: r, n, 0, _, _ => by simp [Ex.rens, Ex.holess]
  | e :: r, n, j + 1, h, h2 => by
    simp only [Ex.rens, List.getElem_cons_succ, List.take_succ_cons, Ex.holess, List.length_append]
    rw [Ex.rens_get r _ j (by simpa using h) (by simpa [Ex.rens] using h2)]
    congr 1
    push_cast
    rw [Int.add_assoc]
theorem hc_append : ∀ (a b : List NodeP), hc (a ++ b) = hc a + hc b
  | [], b => by simp [hc]
  | x :: r, b => by simp only [List.cons_append, hc, hc_append r b]; omega
theorem nodesP_hc (V : World) : ∀ (d b off : Nat) (t : Ex) (ys : List NodeP), NodesP V d b off t ys → hc ys = (t.holes.length : Int)
  | 0, _, _, _, _, h => h.elim
  | d + 1, b, off, .node kd nm n ty es, ys, h => by
    obtain ⟨a, cap, yss, hb, h5, hcp, hc2, hl, rfl, hat⟩ := h
    have e : ∀ (k : Nat), k ≤ es.length → hc (yss.take k).flatten = ((Ex.holess (es.take k)).length : Int) := by
      intro k
      induction k with
      | zero => intro _; simp [hc, Ex.holess]
      | succ k ih =>
        intro hk
        have hk2 : k < yss.length := by omega
        obtain ⟨g, o, _, hn⟩ := hat k (by omega) hk2
        rw [flat_takeZ yss k hk2, hc_append, ih (by omega), nodesP_hc V d _ _ _ _ hn, Ex.holess_take es k (by omega)]
        simp
    have h1 := e es.length (Nat.le_refl _)
    rw [List.take_length, List.take_of_length_le (by omega)] at h1
    simp only [hc, Ex.holes, List.length_append, h1]
    unfold NodeP.hole
    dsimp only
    by_cases q : kd = 1 ∨ kd = 14
    · simp only [if_pos q, List.length_cons, List.length_nil, Nat.zero_add]; omega
    · simp only [if_neg q, List.length_nil, Nat.zero_add]; omega
set_option maxRecDepth 100000 in
theorem ren_own (V W : World) (g : Nat × Nat → Option Int) (all : List NodeP) (hz : V.heap.size ≤ W.heap.size)
    (hcell : ∀ b o, b < V.heap.size → W.cell? ⟨b, o, none⟩ = (match g (b, o) with | some m => some (.int .i64 m) | none => V.cell? ⟨b, o, none⟩))
    (hfr : ∀ b o, b < V.heap.size → W.frozen? ⟨b, o, none⟩ = V.frozen? ⟨b, o, none⟩)
    (hblk : ∀ b, b < V.heap.size → (∀ o, g (b, o) = none) → W.heap[b]? = V.heap[b]?)
    (hkey : ∀ p m, g p = some m → ∃ x, x ∈ all ∧ p = x.key) (hap : ∀ x, x ∈ all → ∀ y, y ∈ all → x = y ∨ ApartN x y) :
    ∀ (d b off : Nat) (t : Ex) (c0 c1 c2 c3 c4 c5 : Value) (fp : List Nat) (ys : List NodeP) (c : Int), NodesP V d b off t ys → b < V.heap.size → SixAt V b off c0 c1 c2 c3 c4 c5 → ExOwn V d (.agg #[c0, c1, c2, c3, c4, c5]) t fp → fp.Nodup → b ∉ fp →
      (∀ x, x ∈ ys → x ∈ all) → (∀ x, x ∈ all → x ∈ ys ∨ x.b ∉ fp) → Numbered g c ys → 0 ≤ c → c + t.bulk ≤ 4194304 →
      ∃ n', SixAt W b off c0 c1 n' c3 c4 c5 ∧ ExOwn W d (.agg #[c0, c1, n', c3, c4, c5]) (t.ren (c + 1)) fp
  | 0, _, _, _, _, _, _, _, _, _, _, _, _, _, _, _, h, _, _, _, _, _, _, _ => h.elim
  | d + 1, b, off, .node kd nm n ty es, c0, c1, c2, c3, c4, c5, fp, ys, c, hys, hb, hs, h, hnd, hbf, hin, hout, hnum, hc0, hc1 => by
    obtain ⟨zs, hzs, hwh, _, _, _, _⟩ := nodes_own V (d + 1) b off (.node kd nm n ty es) c0 c1 c2 c3 c4 c5 fp hb hs h hnd hbf
    have hyz := nodesP_unique V _ _ _ _ _ _ hzs hys
    subst hyz
    obtain ⟨s0, s1, s2, s3, s4, s5⟩ := hs
    obtain ⟨z3, z4, sl, f1, f2, hv, hk0, hk1, hn0, hn1, hnm, rfl, hty, a, cap, hd, fps, rfl, hcap, hcap2, hfl, rfl, hlt, hat⟩ := h
    injection hv with hv
    injection hv with hv
    simp only [List.cons.injEq, and_true] at hv
    obtain ⟨rfl, rfl, rfl, rfl, rfl, rfl⟩ := hv
    obtain ⟨a', cap', yss, _, h5, _, _, hyl, rfl, hny⟩ := hys
    rw [s5] at h5
    injection h5 with h5
    injection h5 with e1 _ e2
    subst e1 e2
    have hn12 := List.nodup_append.1 hnd
    have hn2 := hn12.2.1
    have hn3 := List.nodup_append.1 hn2
    have hroot : (⟨b, off, kd, n⟩ : NodeP) ∈ all := hin _ (by simp)
    have hnone : ∀ i, i < 6 → i ≠ 2 → g (b, off + i) = none := fun i hi hi2 => by
      cases hg : g (b, off + i) with
      | none => rfl
      | some m =>
        obtain ⟨y, hy, e⟩ := hkey _ _ hg
        unfold NodeP.key at e
        injection e with e1 e2
        rcases hap _ hroot y hy with h | h | h | h
        · subst h; exact absurd e2 (by dsimp only; omega)
        · exact absurd e1 h
        · dsimp only at h; omega
        · dsimp only at h; omega
    have hcn : ∀ i, i < 6 → i ≠ 2 → W.cell? ⟨b, off + i, none⟩ = V.cell? ⟨b, off + i, none⟩ := fun i hi hi2 => by
      rw [hcell b _ hb, hnone i hi hi2]
    have htb : ∀ x, x ∈ f1 → W.heap[x]? = V.heap[x]? := fun x hx => by
      refine hblk x (hty.lt x hx) fun o => ?_
      cases hg : g (x, o) with
      | none => rfl
      | some m =>
        exfalso
        obtain ⟨y, hy, e⟩ := hkey _ _ hg
        unfold NodeP.key at e
        injection e with e1 e2
        rcases hout y hy with h | h
        · rcases List.mem_cons.1 h with h | h
          · rw [h] at e1; exact hbf (by have e3 : x = b := e1; rw [← e3]; exact List.mem_append_left _ hx)
          · obtain ⟨ysj, hym, hxy⟩ := List.mem_flatten.1 h
            obtain ⟨j, hj, rfl⟩ := List.mem_iff_getElem.1 hym
            have hj2 : j < es.length := by omega
            obtain ⟨g', o', q0, q1, q2, q3, q4, q5, f, ha, hhd, hg', r0, r1, r2, r3, r4, r5, hfrz, hfj, ht⟩ := hat j hj2
            obtain ⟨g2, o2, ha2, hnj⟩ := hny j hj2 hj
            rw [ha] at ha2
            injection ha2 with ha2
            injection ha2 with e4 e5
            subst e4 e5
            have hfn : f.Nodup := (List.pairwise_flatten.1 hn3.2.1).1 f (List.mem_of_getElem? hfj)
            have hgf : g' ∉ f := fun hm => hn3.2.2 g' (by rw [hhd]; simp) g' (List.mem_flatten.2 ⟨f, List.mem_of_getElem? hfj, hm⟩) rfl
            obtain ⟨zj, hzj, hwj, _⟩ := nodes_own V d g' (o' + j * 6) es[j] q0 q1 q2 q3 q4 q5 f hg' ⟨r0, r1, r2, r3, r4, r5⟩ ht hfn hgf
            have := nodesP_unique V _ _ _ _ _ _ hzj hnj
            subst this
            refine hn12.2.2 x hx y.b ?_ e1
            rcases hwj y hxy with ⟨e, _⟩ | e
            · exact List.mem_append_left _ (by rw [hhd, e]; simp)
            · exact List.mem_append_right _ (List.mem_flatten.2 ⟨f, List.mem_of_getElem? hfj, e⟩)
        · exact h (by have e3 : x = y.b := e1; rw [← e3]; exact List.mem_append_left _ hx)
    obtain ⟨hnr, hnf⟩ := hnum
    have hbk : (Ex.node kd nm n ty es).bulk = nm.size + (ty.size - 1) + Ex.bulks es := rfl
    rw [hbk] at hc1
    obtain ⟨c', hc'⟩ : ∃ c' : Int, c' = (if (⟨b, off, kd, n⟩ : NodeP).hole then c + 1 else c) := ⟨_, rfl⟩
    rw [← hc'] at hnf
    have hc'0 : 0 ≤ c' ∧ c' ≤ c + 1 := by rw [hc']; split <;> omega
    obtain ⟨n2, hn2'⟩ : ∃ n2 : Int, n2 = (if (⟨b, off, kd, n⟩ : NodeP).hole then c + 1 else n) := ⟨_, rfl⟩
    have hcell2 : W.cell? ⟨b, off + 2, none⟩ = some (.int .i64 n2) := by
      rw [hcell b _ hb]
      have hkk : (⟨b, off, kd, n⟩ : NodeP).key = (b, off + 2) := rfl
      rw [hkk] at hnr
      by_cases q : (⟨b, off, kd, n⟩ : NodeP).hole
      · rw [if_pos q] at hnr
        rw [hnr, hn2', if_pos q]
      · rw [if_neg q] at hnr
        rw [hnr, hn2', if_neg q]
        exact s2
    have hren : (Ex.node kd nm n ty es).ren (c + 1) = .node kd nm n2 ty (Ex.rens es (c' + 1)) := by
      unfold Ex.ren
      by_cases q : kd = 1 ∨ kd = 14
      · have q' : (⟨b, off, kd, n⟩ : NodeP).hole := q
        rw [if_pos q, hn2', if_pos q', hc', if_pos q']
      · have q' : ¬ (⟨b, off, kd, n⟩ : NodeP).hole := q
        rw [if_neg q, hn2', if_neg q', hc', if_neg q']
    have hn2b : -9223372036854775808 ≤ n2 ∧ n2 ≤ 9223372036854775807 := by rw [hn2']; split <;> omega
    refine ⟨.int .i64 n2, ⟨(hcn 0 (by omega) (by omega)).trans s0, (hcn 1 (by omega) (by omega)).trans s1, hcell2, (hcn 3 (by omega) (by omega)).trans s3, (hcn 4 (by omega) (by omega)).trans s4, (hcn 5 (by omega) (by omega)).trans s5⟩, ?_⟩
    rw [hren]
    have hrl := Ex.rens_length es (c' + 1)
    refine ⟨_, _, _, f1, hd ++ fps.flatten, rfl, hk0, hk1, hn2b.1, hn2b.2, hnm, rfl, hty.kept hz htb, a, cap, hd, fps, by rw [hrl], by rw [hrl]; exact hcap, hcap2, by rw [hrl]; exact hfl, rfl, fun x hx => Nat.lt_of_lt_of_le (hlt x hx) hz, fun j hj => ?_⟩
    have hj2 : j < es.length := by omega
    have hj3 : j < yss.length := by omega
    obtain ⟨g', o', q0, q1, q2, q3, q4, q5, f, ha, hhd, hg', r0, r1, r2, r3, r4, r5, hfrz, hfj, ht⟩ := hat j hj2
    obtain ⟨g2, o2, ha2, hnj⟩ := hny j hj2 hj3
    rw [ha] at ha2
    injection ha2 with ha2
    injection ha2 with e4 e5
    subst e4 e5
    have hfm : ∀ x, x ∈ f → x ∈ fps.flatten := fun x hx => List.mem_flatten.2 ⟨f, List.mem_of_getElem? hfj, hx⟩
    have hfn : f.Nodup := (List.pairwise_flatten.1 hn3.2.1).1 f (List.mem_of_getElem? hfj)
    have hgf : g' ∉ f := fun hm => hn3.2.2 g' (by rw [hhd]; simp) g' (hfm g' hm) rfl
    have hpre : ∃ r, yss.flatten = (yss.take j).flatten ++ yss[j] ++ r := by
      obtain ⟨r, hr⟩ := flat_preZ yss j hj3
      exact ⟨r, hr.symm⟩
    obtain ⟨r, hr⟩ := hpre
    have hnj2 : Numbered g (c' + ((Ex.holess (es.take j)).length : Int)) yss[j] := by
      have h1 := hnf
      rw [hr] at h1
      have h2 := ((numbered_append g _ _ _).1 ((numbered_append g _ _ _).1 h1).1).2
      have e : ∀ (k : Nat), k ≤ es.length → hc (yss.take k).flatten = ((Ex.holess (es.take k)).length : Int) := by
        intro k
        induction k with
        | zero => intro _; simp [hc, Ex.holess]
        | succ k ih =>
          intro hk
          have hk2 : k < yss.length := by omega
          obtain ⟨g, o, _, hn⟩ := hny k (by omega) hk2
          rw [flat_takeZ yss k hk2, hc_append, ih (by omega), nodesP_hc V d _ _ _ _ hn, Ex.holess_take es k (by omega)]
          simp
      rw [e j (by omega)] at h2
      exact h2
    have hbj := Ex.bulk_get es j hj2
    have hsum : c' + ((Ex.holess (es.take j)).length : Int) + es[j].bulk ≤ 4194304 := by
      have h1 := Ex.holess_few (es.take j)
      have h2 := Ex.bulks_take es j hj2
      have h3 := Ex.bulks_le es (j + 1)
      omega
    have houtj : ∀ x, x ∈ all → x ∈ yss[j] ∨ x.b ∉ f := fun x hx => by
      rcases hout x hx with h | h
      · rcases List.mem_cons.1 h with h | h
        · right; rw [h]; exact fun hm => hbf (List.mem_append_right _ (List.mem_append_right _ (hfm _ hm)))
        · obtain ⟨ysi, hym, hxy⟩ := List.mem_flatten.1 h
          obtain ⟨i, hi, rfl⟩ := List.mem_iff_getElem.1 hym
          by_cases hij : i = j
          · subst hij; exact Or.inl hxy
          · right
            have hi2 : i < es.length := by omega
            obtain ⟨g3, o3, p0, p1, p2, p3, p4, p5, f', ha3, hhd3, hg3, t0, t1, t2, t3, t4, t5, hfrz3, hfi, ht3⟩ := hat i hi2
            obtain ⟨g4, o4, ha4, hni⟩ := hny i hi2 hi
            rw [ha] at ha3
            injection ha3 with ha3
            injection ha3 with e6 e7
            subst e6 e7
            rw [ha] at ha4
            injection ha4 with ha4
            injection ha4 with e6 e7
            subst e6 e7
            have hfn3 : f'.Nodup := (List.pairwise_flatten.1 hn3.2.1).1 f' (List.mem_of_getElem? hfi)
            have hgf3 : g' ∉ f' := fun hm => hn3.2.2 g' (by rw [hhd]; simp) g' (List.mem_flatten.2 ⟨f', List.mem_of_getElem? hfi, hm⟩) rfl
            obtain ⟨zi, hzi, hwi, _⟩ := nodes_own V d g' (o' + i * 6) es[i] p0 p1 p2 p3 p4 p5 f' hg3 ⟨t0, t1, t2, t3, t4, t5⟩ ht3 hfn3 hgf3
            have := nodesP_unique V _ _ _ _ _ _ hzi hni
            subst this
            rcases hwi x hxy with ⟨e, _⟩ | e
            · rw [e]; exact hgf
            · intro hm
              have hd2 := (List.pairwise_flatten.1 hn3.2.1).2
              rw [List.pairwise_iff_getElem] at hd2
              have hi3 : i < fps.length := by omega
              have hj4 : j < fps.length := by omega
              have q1 : fps[i] = f' := by rw [List.getElem?_eq_getElem hi3] at hfi; injection hfi
              have q2 : fps[j] = f := by rw [List.getElem?_eq_getElem hj4] at hfj; injection hfj
              rcases Nat.lt_or_gt_of_ne hij with hlt2 | hlt2
              · exact hd2 i j hi3 hj4 hlt2 x.b (by rw [q1]; exact e) x.b (by rw [q2]; exact hm) rfl
              · exact hd2 j i hj4 hi3 hlt2 x.b (by rw [q2]; exact hm) x.b (by rw [q1]; exact e) rfl
      · right; exact fun hm => h (List.mem_append_right _ (List.mem_append_right _ (hfm _ hm)))
    obtain ⟨n', hsx, hex⟩ := ren_own V W g all hz hcell hfr hblk hkey hap d g' (o' + j * 6) es[j] q0 q1 q2 q3 q4 q5 f yss[j] _ hnj hg' ⟨r0, r1, r2, r3, r4, r5⟩ ht hfn hgf
      (fun x hx => hin x (List.mem_cons_of_mem _ (List.mem_flatten.2 ⟨_, List.getElem_mem hj3, hx⟩))) houtj hnj2 (by omega) hsum
    obtain ⟨u0, u1, u2, u3, u4, u5⟩ := hsx
    refine ⟨g', o', q0, q1, n', q3, q4, q5, f, ha, hhd, Nat.lt_of_lt_of_le hg' hz, u0, u1, u2, u3, u4, u5, fun o => (hfr g' o hg').trans (hfrz o), hfj, ?_⟩
    rw [Ex.rens_get es (c' + 1) j hj2 hj, show c' + 1 + ((Ex.holess (es.take j)).length : Int) = c' + ((Ex.holess (es.take j)).length : Int) + 1 from by omega]
    exact hex
end Go.Proofs.Ytimigpdbegfjaaa
