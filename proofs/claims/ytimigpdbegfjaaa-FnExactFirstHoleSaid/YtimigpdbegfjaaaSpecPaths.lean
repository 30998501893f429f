/-
  Proved: spec.l11All and spec.AllPaths list the paths of all nodes of an expression in new memory; the memory that was there stays as it was.
-/
import Derived.Test.YtimigpdbegfjaaaPathsN
import Derived.Test.YtimigpdbegfjaaaSpecWithP
import Derived.Deep.RegionHeld3
import Derived.Deep.DeepCutAuto
namespace Go.Proofs.Ytimigpdbegfjaaa
open Go.RowKit

theorem IntsIn.one {w : World} {v : Value} {ns : List Int} {lo hi : Nat} (h : IntsIn w v ns lo hi) : v.oneCell' = true := by
  rcases h.1.2 with ⟨rfl, _⟩ | ⟨g, cap, cur, rfl, _⟩ <;> simp [Value.oneCell']
/-- What more paths leave. -/
def JoinedN (lo : Nat) (qv : Value) (pss : List (List Int)) (w : World) (v' : Value) (w' : World) : Prop :=
  PsIn w' v' pss lo w'.heap.size ∧ w.grownBy w' qv.ownBlock
theorem run_joinN (w : World) (lo mid : Nat) (ty : TypeId) (qv v2 : Value) (pss qss : List (List Int)) (h1 : PsIn w qv pss lo mid) (h2 : PsIn w v2 qss mid w.heap.size) (hl : lo ≤ mid) (h0 : 0 < qss.length) (hn : pss.length + qss.length ≤ 2097153) :
    ∃ v' w', (Builtin.append_ #[45, 45] ty #[qv, v2]).run Try.prog w = .ok v' w' ∧ JoinedN lo qv (pss ++ qss) w v' w' := by
  obtain ⟨i0, hi, hz0, hz1, hz2⟩ := info_parts info_ps
  obtain ⟨svs, o1, o2, o3, o4⟩ := h1.els
  obtain ⟨bs, p1, p2, p3, p4⟩ := h2.els
  rcases p1.2 with ⟨_, hq⟩ | ⟨g, cap, cur, rfl, _⟩
  · omega
  · obtain ⟨v', w', hr, ho, hg, _, hb⟩ := run_append_own_at (P := Try.prog) w lo 45 ty 29 i0 (.slice none 0 0) 1 24 Try.underlying45 hi hz0 hz1 hz2 rfl (by omega) qv pss.length svs o1 ⟨g, 0, none⟩ qss.length cap bs (by rw [p3.1, Nat.mul_one]) (p1.cells (g := g) rfl)
      (fun u hu => by
        obtain ⟨j, hj, rfl⟩ := List.mem_iff_getElem.1 hu
        exact (p3.2.2 j (by have := p3.1; omega) hj).1.one) (by unfold maxLen; omega) (by omega) (Nat.le_trans hl o3.2.1)
    exact ⟨v', w', hr, PsIn.append o2 o3 o4 p3 hl ho hg hb, hg⟩
theorem Ex.paths_pos (e : Ex) (ps : List Int) : 0 < (e.paths ps).length := by
  cases e with
  | node k nm n ty es => simp [Ex.paths]
def SPEnd (t : Ex) (ps : List Int) (w : World) (e : Ending) (w' : World) : Prop := ∃ v', e = .returned v' ∧ PsIn w' v' (t.paths ps) w.heap.size w'.heap.size ∧ Below w.heap.size w w'
set_option maxRecDepth 100000 in
set_option maxHeartbeats 4000000 in
theorem specPaths : ∀ (d : Nat) (v pv : Value) (t : Ex) (ps : List Int) (w : World), ps.length + t.bulk ≤ 1048576 → ExAt w d v t → Ints w pv ps →
    Calls Try.prog 66 #[v, pv] w (SPEnd t ps w)
  | 0, _, _, _, _, _, _, h, _ => h.elim
  | d + 1, v, pv, .node kd nm n ty es, ps, w, hsz, h, hp => by
    have IH : Hid (∀ (v pv : Value) (t : Ex) (ps : List Int) (w : World), ps.length + t.bulk ≤ 1048576 → ExAt w d v t → Ints w pv ps → Calls Try.prog 66 #[v, pv] w (SPEnd t ps w)) := specPaths d
    have HV := ex_parts h
    obtain ⟨c3, c4, sl, rfl, hk0, hk1, hn0, hn1, hnm, hty, a, cap, rfl, hcap, hcap2, hat⟩ := h
    obtain ⟨k', nm', n', tk, ta, tn, tc, sa, sn, sc, hv⟩ := HV
    injection hv with hv
    injection hv with hv
    simp at hv
    obtain ⟨rfl, rfl, rfl, rfl, rfl, rfl, rfl, rfl⟩ := hv
    have HAT := Lib.hid hat; clear hat hty
    have hbk : (Ex.node kd nm n ty es).bulk = nm.size + (ty.size - 1) + Ex.bulks es := rfl
    have HSZ : Hid (ps.length + Ex.bulks es ≤ 1048576) := by show _ ≤ _; omega
    have hn2 : es.length ≤ 1048576 := by have := Ex.length_le es; omega
    have hps : ps.length ≤ 1048576 := by omega
    clear hsz hbk
    obtain ⟨W, hW⟩ : ∃ W, W = w.alloc (.cells #[.int .i64 kd, .string nm, .int .i64 n, .int .i64 tk, .slice ta tn tc, .slice a es.length cap] 37) := ⟨_, rfl⟩
    have XB : Hid (BoxAt W w.heap.size #[.int .i64 kd, .string nm, .int .i64 n, .int .i64 tk, .slice ta tn tc, .slice a es.length cap]) := by rw [hW]; exact BoxAt.new _ _ _
    have BW : Hid (Below w.heap.size w W) := by rw [hW]; exact below_alloc _ _
    have hwW : w.heap.size ≤ W.heap.size := BW.out.size
    have HP := Lib.hid (hp.below BW.out); clear hp
    have B0 := Lib.hid (below_alloc W (.cells #[] 3))
    have R0 : Hid ((W.alloc (.cells #[] 3)).ownsRow W.heap.size 3 1 (.slice (some ⟨W.heap.size, 0, none⟩) 0 0) 0 []) := World.ownsRow_made W #[] 0 (Nat.le_refl _) (Nat.zero_le _) rfl
    have HR1 : Hid (∀ ty, ∃ v' w', (Builtin.append_ #[29, 29] ty #[.slice (some ⟨W.heap.size, 0, none⟩) 0 0, pv]).run Try.prog (W.alloc (.cells #[] 3)) = .ok v' w' ∧ w'.ownsRow W.heap.size 3 1 v' ps.length (ps.map (Value.int .i64)) ∧ Below (W.alloc (.cells #[] 3)).heap.size (W.alloc (.cells #[] 3)) w') := fun ty => path_own_by ty _ W.heap.size _ _ ps (by simp) R0.out (HP.out.below B0.out) hps
    go_enter Try.func66, Try.ntmps66
    go_upto_region 1 with fail
    rw [← hW]
    clear hW
    go_wp2_with (at_builtin; go_loud (refine wpList_app_by rfl (.tmp 7) (.tmp 8) 29 rfl (.slice (some ⟨W.heap.size, 0, none⟩) 0 0) pv rfl rfl (HR1.out _) ?_; rintro v1 w1 ⟨ho, hb⟩; refine Hid.out ?_))
    refine Lib.hid ?_
    obtain ⟨sa, sn, sc, rfl⟩ : ∃ a n c, v1 = .slice a n c := by rcases ho.2 with ⟨h, _⟩ | ⟨g, cap, cur, h, _⟩ <;> exact ⟨_, _, _, h⟩
    have HO := Lib.hid ho
    have B1 := Lib.hid (below_on B0.out hb (by simp))
    have hz1 := B1.out.size
    clear ho hb
    have B2 := Lib.hid (B1.out.alloc hz1 (.cells #[.slice sa sn sc] 29))
    have HQ0 : Hid (PsIn (w1.alloc (.cells #[.slice sa sn sc] 29)) (.slice (some ⟨w1.heap.size, 0, none⟩) 1 1) [ps] W.heap.size (w1.alloc (.cells #[.slice sa sn sc] 29)).heap.size) := by
      have hi : IntsIn (w1.alloc (.cells #[.slice sa sn sc] 29)) (.slice sa sn sc) ps W.heap.size (w1.alloc (.cells #[.slice sa sn sc] 29)).heap.size := (⟨own_keeps HO.out fun j hj => (below_alloc w1 _).block j (HO.out.lt j hj).2, fun j hj => by have := (HO.out.lt j hj).2; simp; omega, Nat.le_refl _⟩)
      refine PsIn.of_els (svs := [.slice sa sn sc]) ⟨rfl, Or.inr ⟨w1.heap.size, 1, #[.slice sa sn sc], rfl, hz1, heap_alloc_new w1 _, Nat.le_refl _, by unfold maxLen; omega, rfl, rfl⟩⟩ (fun j hj => by simp [Value.ownBlock] at hj; simp; omega) (Els.one hi) (fun sv hs g hg => ?_)
      cases List.mem_singleton.1 hs
      intro e
      have := (HO.out.lt g hg).2
      simp [Value.ownBlock] at e
      omega
    go_wp2_with fail
    go_loopw [5, 6] (fun o i wr => ∃ (k : Nat), k ≤ es.length ∧ i = .int .i64 k ∧ PsIn wr o ([ps] ++ Ex.pathss (es.take k) ps 0) W.heap.size wr.heap.size ∧ Below W.heap.size W wr) (fun _ i _ => es.length - (intOf i).toNat)
    case atStart => exact ⟨0, by omega, rfl, by simpa [Ex.pathss] using HQ0.out, B2.out⟩
    case round =>
      obtain ⟨k, hk, rfl, hq, hb⟩ := hrel
      have HQ := Lib.hid hq; clear hq
      have HB := Lib.hid hb; clear hb
      have b5 := (XB.out.below HB.out).2 5
      by_cases hlt : k < es.length
      · obtain ⟨b, off, x0, x1, x2, x3, x4, x5, rfl, hbl, hc0, hc1, hc2, hc3, hc4, hc5, ht⟩ := HAT.out k hlt
        obtain ⟨yk, ynm, yn, ytk, yta, ytn, ytc, ya, ym, yc, rfl, rfl, rfl, rfl, rfl, rfl⟩ := ex_cells ht
        have HBB : Hid (Below w.heap.size w wr.drew) := (BW.out.trans (HB.out.mono hwW)).drew
        have hg := Ex.bulk_get es k hlt
        have hzk : (ps ++ [(k : Int)]).length + es[k].bulk ≤ 1048576 := by have := HSZ.out; simp; omega
        have e0 : wr.drew.cell? ⟨b, off + k * 6, none⟩ = some (.int .i64 yk) := by rw [HBB.out.cell (p := ⟨b, off + k * 6, none⟩) hbl]; exact hc0
        have e1 : wr.drew.cell? ⟨b, off + k * 6 + 1, none⟩ = some (.string ynm) := by rw [HBB.out.cell (p := ⟨b, off + k * 6 + 1, none⟩) hbl]; exact hc1
        have e2 : wr.drew.cell? ⟨b, off + k * 6 + 2, none⟩ = some (.int .i64 yn) := by rw [HBB.out.cell (p := ⟨b, off + k * 6 + 2, none⟩) hbl]; exact hc2
        have e3 : wr.drew.cell? ⟨b, off + k * 6 + 3, none⟩ = some (.int .i64 ytk) := by rw [HBB.out.cell (p := ⟨b, off + k * 6 + 3, none⟩) hbl]; exact hc3
        have e4 : wr.drew.cell? ⟨b, off + k * 6 + 4, none⟩ = some (.slice yta ytn ytc) := by rw [HBB.out.cell (p := ⟨b, off + k * 6 + 4, none⟩) hbl]; exact hc4
        have e5 : wr.drew.cell? ⟨b, off + k * 6 + 5, none⟩ = some (.slice ya ym yc) := by rw [HBB.out.cell (p := ⟨b, off + k * 6 + 5, none⟩) hbl]; exact hc5
        have HE := Lib.hid (show wr.drew.cell? ⟨w.heap.size, 5, none⟩ = some (.slice (some ⟨b, off, none⟩) es.length cap) ∧ wr.drew.cell? ⟨b, off + k * 6, none⟩ = some (.int .i64 yk) ∧ wr.drew.cell? ⟨b, off + k * 6 + 1, none⟩ = some (.string ynm) ∧ wr.drew.cell? ⟨b, off + k * 6 + 2, none⟩ = some (.int .i64 yn) ∧ wr.drew.cell? ⟨b, off + k * 6 + 3, none⟩ = some (.int .i64 ytk) ∧ wr.drew.cell? ⟨b, off + k * 6 + 4, none⟩ = some (.slice yta ytn ytc) ∧ wr.drew.cell? ⟨b, off + k * 6 + 5, none⟩ = some (.slice ya ym yc) from ⟨b5, e0, e1, e2, e3, e4, e5⟩)
        have HTE := Lib.hid (ht.below HBB.out)
        have HLB : Hid (w.heap.size < W.heap.size ∧ b < w.heap.size) := ⟨XB.out.1, hbl⟩
        have HPR := Lib.hid ((HP.out.below HB.out).below (below_drew wr))
        have hki0 : (0 : Int) ≤ (k : Int) := by omega
        have hki1 : (k : Int) < (es.length : Int) := by omega
        clear ht hc0 hc1 hc2 hc3 hc4 hc5 hg e0 e1 e2 e3 e4 e5
        go_wp2_with fail
        clear b5
        have HG := Lib.hid (below_drew wr)
        have HGB := Lib.hid (HB.out.drew)
        have KEEP : Hid (∀ w' : World, Below W.heap.size wr.drew w' → w'.cell? ⟨w.heap.size, 5, none⟩ = some (.slice (some ⟨b, off, none⟩) es.length cap) ∧ w'.cell? ⟨b, off + k * 6, none⟩ = some (.int .i64 yk) ∧ w'.cell? ⟨b, off + k * 6 + 1, none⟩ = some (.string ynm) ∧ w'.cell? ⟨b, off + k * 6 + 2, none⟩ = some (.int .i64 yn) ∧ w'.cell? ⟨b, off + k * 6 + 3, none⟩ = some (.int .i64 ytk) ∧ w'.cell? ⟨b, off + k * 6 + 4, none⟩ = some (.slice yta ytn ytc) ∧ w'.cell? ⟨b, off + k * 6 + 5, none⟩ = some (.slice ya ym yc)) := fun w' hb' => by
          obtain ⟨q5, q0, q1, q2, q3, q4, q6⟩ := HE.out
          have hl := HLB.out
          exact ⟨(hb'.cell (p := ⟨w.heap.size, 5, none⟩) (by show w.heap.size < _; omega)).trans q5, (hb'.cell (p := ⟨b, off + k * 6, none⟩) (by show b < _; omega)).trans q0, (hb'.cell (p := ⟨b, off + k * 6 + 1, none⟩) (by show b < _; omega)).trans q1, (hb'.cell (p := ⟨b, off + k * 6 + 2, none⟩) (by show b < _; omega)).trans q2, (hb'.cell (p := ⟨b, off + k * 6 + 3, none⟩) (by show b < _; omega)).trans q3, (hb'.cell (p := ⟨b, off + k * 6 + 4, none⟩) (by show b < _; omega)).trans q4, (hb'.cell (p := ⟨b, off + k * 6 + 5, none⟩) (by show b < _; omega)).trans q6⟩
        have GG := Lib.hid (Below.refl wr.drew.heap.size wr.drew)
        go_region_held3 (fun w' => w'.cell? ⟨w.heap.size, 5, none⟩ = some (.slice (some ⟨b, off, none⟩) es.length cap) ∧ w'.cell? ⟨b, off + k * 6, none⟩ = some (.int .i64 yk) ∧ w'.cell? ⟨b, off + k * 6 + 1, none⟩ = some (.string ynm) ∧ w'.cell? ⟨b, off + k * 6 + 2, none⟩ = some (.int .i64 yn) ∧ w'.cell? ⟨b, off + k * 6 + 3, none⟩ = some (.int .i64 ytk) ∧ w'.cell? ⟨b, off + k * 6 + 4, none⟩ = some (.slice yta ytn ytc) ∧ w'.cell? ⟨b, off + k * 6 + 5, none⟩ = some (.slice ya ym yc)) (first | exact KEEP.out _ (GG.out.mono HGB.out.size) | exact KEEP.out _ GW.out)
          (first
           | (go_at_call 109
              refine (specWithP _ ps (k : Int) _ HPR.out hps).mono ?_
              rintro e w3 ⟨v3, rfl, hi3, hb3⟩
              have HI3 := Lib.hid hi3
              replace GG : Hid (Below wr.drew.heap.size wr.drew w3) := hb3
              have HTE3 := Lib.hid (HTE.out.below hb3)
              clear hi3 hb3)
           | (go_at_call 66
              refine (IH.out _ _ es[k] (ps ++ [(k : Int)]) _ hzk HTE3.out HI3.out).mono ?_
              rintro e w4 ⟨v4, rfl, hq4, hb4⟩
              have HQ4 : Hid (PsIn w4 v4 (es[k].paths (ps ++ [(k : Int)])) wr.heap.size w4.heap.size) := by
                have hzz : wr.heap.size ≤ _ := GG.out.size
                obtain ⟨svs, o1, o2, o3, o4⟩ := hq4.els
                exact PsIn.of_els (own_mono o1 hzz) o2 (o3.wide hzz (Nat.le_refl _) (Nat.le_refl _)) o4
              replace GG : Hid (Below wr.drew.heap.size wr.drew w4) := GG.out.trans (hb4.mono GG.out.size)
              have HQO : Hid (PsIn w4 _ ([ps] ++ Ex.pathss (es.take k) ps 0) W.heap.size wr.heap.size) := HQ.out.below (w' := w4) ((below_drew wr).trans (GG.out.mono (Nat.le_refl _)))
              have HR3 : Hid (∀ ty, ∃ v' w', (Builtin.append_ #[45, 45] ty #[_, v4]).run Try.prog w4 = .ok v' w' ∧ JoinedN W.heap.size _ ([ps] ++ Ex.pathss (es.take k) ps 0 ++ es[k].paths (ps ++ [(k : Int)])) w4 v' w') := fun ty => run_joinN w4 W.heap.size wr.heap.size ty _ v4 _ _ HQO.out HQ4.out HGB.out.size (Ex.paths_pos _ _) (by
                have h1 := Ex.pathss_length (es.take k) ps 0
                have h2 := Ex.bulks_take es k hlt
                have h3 := Ex.bulks_le es (k + 1)
                have h4 := HSZ.out
                have h5 := Ex.paths_length es[k] (ps ++ [(k : Int)])
                simp only [List.length_append, List.length_cons, List.length_nil]
                omega)
              clear hq4 hb4)
           | (refine step_app_by (by rfl) _ _ 45 (by rfl) _ v4 (by rfl) (by rfl) (HR3.out _) ?_
              rintro v5 w5 ⟨hq5, hg5⟩
              have HQ5 := Lib.hid hq5
              have HB5 : Hid (Below W.heap.size W w5) := (HGB.out.trans (GG.out.mono HGB.out.size)).grown hg5 (Nat.le_trans HGB.out.size GG.out.size) (fun j hj => by obtain ⟨svs, o1, _⟩ := HQO.out.els; exact (o1.lt j hj).1)
              have GW : Hid (Below W.heap.size wr.drew w5) := (GG.out.mono HGB.out.size).grown hg5 (Nat.le_trans HGB.out.size GG.out.size) (fun j hj => by obtain ⟨svs, o1, _⟩ := HQO.out.els; exact (o1.lt j hj).1)
              clear hq5 hg5))
        all_goals go_wp2_with fail
        all_goals exact ⟨⟨k + 1, by omega, by go_num, by
          have := HQ5.out
          rw [Ex.pathss_take es ps 0 k hlt, Nat.zero_add, ← List.append_assoc]
          exact this, HB5.out⟩, by simp [intOf]; omega⟩
      · obtain rfl : k = es.length := by omega
        go_wp2_with fail
        go_ret
        obtain ⟨svs, o1, o2, o3, o4⟩ := HQ.out.els
        rw [List.take_length] at o1 o3
        exact ⟨_, rfl, PsIn.of_els (own_mono o1 hwW) o2 (o3.wide hwW (Nat.le_refl _) (Nat.le_refl _)) o4, BW.out.trans (HB.out.mono hwW)⟩
set_option maxRecDepth 100000 in
set_option maxHeartbeats 2000000 in
theorem specAllPaths (d : Nat) (v : Value) (t : Ex) (w : World) (hsz : t.bulk ≤ 1048576) (h : ExAt w d v t) :
    Calls Try.prog 23 #[v] w fun e w' => ∃ v', e = .returned v' ∧ PsIn w' v' (t.paths []) w.heap.size w'.heap.size ∧ Below w.heap.size w w' := by
  obtain ⟨k, nm, n, tk, ta, tn, tc, sa, sn, sc, rfl⟩ := ex_parts h
  have B : Hid (Below w.heap.size w ((w.alloc (.cells #[.int .i64 k, .string nm, .int .i64 n, .int .i64 tk, .slice ta tn tc, .slice sa sn sc] 37)).alloc (.cells #[] 3))) := ((Below.refl _ _).alloc (Nat.le_refl _) _).alloc (by simp) _
  have HC := Lib.hid (specPaths d _ (.slice (some ⟨w.heap.size + 1, 0, none⟩) 0 0) t [] _ (by simpa using hsz) (h.below B.out) (Ints.nil _ _))
  clear h
  go_enter Try.func23, Try.ntmps23
  go_wp2_with fail
  refine HC.out.mono ?_
  rintro e w1 ⟨v1, rfl, hq, hb⟩
  have HQ := Lib.hid hq
  have hz := B.out.size
  have HB1 := Lib.hid (B.out.trans (hb.mono hz))
  clear hq hb
  go_wp2_with fail
  go_ret
  obtain ⟨svs, o1, o2, o3, o4⟩ := HQ.out.els
  exact ⟨_, rfl, PsIn.of_els (own_mono o1 hz) o2 (o3.wide hz (Nat.le_refl _) (Nat.le_refl _)) o4, HB1.out⟩
end Go.Proofs.Ytimigpdbegfjaaa
