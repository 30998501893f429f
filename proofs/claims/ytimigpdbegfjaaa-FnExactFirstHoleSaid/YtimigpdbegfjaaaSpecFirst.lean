/-
  Proved: spec.FirstHole gives the path of the first hole, in new memory, and whether there is one; the memory that was there stays as it was.
-/
import Derived.Test.YtimigpdbegfjaaaSpecPaths
import Derived.Test.YtimigpdbegfjaaaImplFirst
import Derived.Test.YtimigpdbegfjaaaSpecSub
namespace Go.Proofs.Ytimigpdbegfjaaa
open Go.RowKit

theorem ex_kind {w : World} {d : Nat} {zk : Int} {c1 c2 c3 c4 c5 : Value} {x : Ex} (h : ExAt w d (.agg #[.int .i64 zk, c1, c2, c3, c4, c5]) x) : zk = x.kd ∧ -9223372036854775808 ≤ zk ∧ zk ≤ 9223372036854775807 := by
  cases d with
  | zero => exact h.elim
  | succ d =>
    cases x with
    | node k nm n ty es =>
      obtain ⟨z3, z4, sl, hv, h0, h1, _⟩ := h
      injection hv with hv
      injection hv with hv
      simp at hv
      obtain ⟨rfl, _⟩ := hv
      exact ⟨rfl, h0, h1⟩
/-- A new variable that holds a node of the kind K. -/
def KindAt (W : World) (K : Int) (s : Value) (wx : World) : Prop :=
  ∃ p, s = .pointer (some ⟨p, 0, none⟩) ∧ W.heap.size ≤ p ∧ wx.cell? ⟨p, 0, none⟩ = some (.int .i64 K) ∧ Below W.heap.size W wx
theorem kind_new {W w8 : World} {K : Int} {c1 c2 c3 c4 c5 : Value} {T : TypeId} (G : Below W.heap.size W w8) : KindAt W K (.pointer (some ⟨w8.heap.size, 0, none⟩)) (w8.alloc (.cells #[.int .i64 K, c1, c2, c3, c4, c5] T)) :=
  ⟨w8.heap.size, rfl, G.size, (BoxAt.new w8 #[.int .i64 K, c1, c2, c3, c4, c5] T).2 0, G.alloc G.size _⟩
theorem kind_old {W w8 : World} {K : Int} {p : Nat} {c1 c2 c3 c4 c5 : Value} {cs : Array Value} (G : Below W.heap.size W w8) (hP : W.heap.size ≤ p) (X : BoxAt w8 p cs) (h0 : 0 < cs.size) :
    KindAt W K (.pointer (some ⟨p, 0, none⟩)) ((((((w8.setCell ⟨p, 0, none⟩ (.int .i64 K)).setCell ⟨p, 1, none⟩ c1).setCell ⟨p, 2, none⟩ c2).setCell ⟨p, 3, none⟩ c3).setCell ⟨p, 4, none⟩ c4).setCell ⟨p, 5, none⟩ c5) := by
  refine ⟨p, rfl, hP, ?_, (((((G.setCell hP _).setCell hP _).setCell hP _).setCell hP _).setCell hP _).setCell hP _⟩
  rw [World.cell?_setCell_other _ _ _ _ (by simp), World.cell?_setCell_other _ _ _ _ (by simp), World.cell?_setCell_other _ _ _ _ (by simp), World.cell?_setCell_other _ _ _ _ (by simp), World.cell?_setCell_other _ _ _ _ (by simp)]
  exact World.cell?_setCell_same' _ _ _ (by rw [X.2 0, Array.getElem?_eq_getElem h0]; rfl)
theorem find_at {L : List (List Int × Ex)} {k : Nat} (hk : k < L.length) (h : (L.take k).find? holeP = none) (h1 : L[k].2.kd = 1) : L.find? holeP = some L[k] := by
  have e : L = L.take k ++ L[k] :: L.drop (k + 1) := by rw [← List.drop_eq_getElem_cons hk, List.take_append_drop]
  have e2 := congrArg (List.find? holeP) e
  rw [List.find?_append, h, List.find?_cons_of_pos (by simp [holeP, h1])] at e2
  rw [e2]; rfl
theorem find_on {L : List (List Int × Ex)} {k : Nat} (hk : k < L.length) (h : (L.take k).find? holeP = none) (h1 : L[k].2.kd ≠ 1) : (L.take (k + 1)).find? holeP = none := by
  rw [List.take_succ_eq_append_getElem hk, List.find?_append, h, List.find?_cons_of_neg (by simp [holeP, h1])]
  rfl
set_option maxRecDepth 100000 in
set_option maxHeartbeats 4000000 in
theorem specFirstHole (d : Nat) (v : Value) (t : Ex) (w : World) (hsz : t.bulk ≤ 1048576) (h : ExAt w d v t) :
    Calls Try.prog 13 #[v] w (FirstEnd t w) := by
  obtain ⟨xk, xm, xn, xtk, xta, xtn, xtc, xsa, xsn, xsc, rfl⟩ := ex_parts h
  obtain ⟨W, hW⟩ : ∃ W, W = w.alloc (.cells #[.int .i64 xk, .string xm, .int .i64 xn, .int .i64 xtk, .slice xta xtn xtc, .slice xsa xsn xsc] 37) := ⟨_, rfl⟩
  have XB : Hid (BoxAt W w.heap.size #[.int .i64 xk, .string xm, .int .i64 xn, .int .i64 xtk, .slice xta xtn xtc, .slice xsa xsn xsc]) := by rw [hW]; exact BoxAt.new _ _ _
  have BW : Hid (Below w.heap.size w W) := by rw [hW]; exact below_alloc _ _
  have HA := Lib.hid (h.below BW.out); clear h
  obtain ⟨L, hL⟩ : ∃ L, L = t.pn [] := ⟨_, rfl⟩
  have hLP : L.map Prod.fst = t.paths [] := by rw [hL]; exact Ex.pn_paths t []
  have hLl : L.length ≤ 1048577 := by
    have h1 := congrArg List.length hLP
    have h2 := Ex.paths_length t []
    rw [List.length_map] at h1
    omega
  have HSUB : Hid (∀ j (h : j < L.length), t.sub L[j].1 = some L[j].2 ∧ L[j].1.length ≤ 1048576) := fun j hj => by
    have hm : L[j] ∈ t.pn [] := by rw [← hL]; exact List.getElem_mem hj
    refine ⟨Ex.pn_sub t t [] (sub_nil t) L[j] hm, ?_⟩
    have := Ex.paths_each t [] L[j].1 (by rw [← Ex.pn_paths]; exact List.mem_map_of_mem hm)
    simp at this; omega
  have HLP := Lib.hid hLP
  have HL := Lib.hid hL
  clear hL hLP
  have r0 := XB.out.2 0
  have r1 := XB.out.2 1
  have r2 := XB.out.2 2
  have r3 := XB.out.2 3
  have r4 := XB.out.2 4
  have r5 := XB.out.2 5
  go_enter Try.func13, Try.ntmps13
  go_wp2_with fail
  rw [← hW]
  clear hW
  go_wp2_with fail
  clear r0 r1 r2 r3 r4 r5
  refine (specAllPaths d _ t W hsz HA.out).mono ?_
  rintro e w1 ⟨v1, rfl, hq, hb⟩
  obtain ⟨pa, pc, rfl, hpc, hpat⟩ := hq.at_
  have hll : (t.paths []).length = L.length := by rw [← HLP.out, List.length_map]
  have HQ := Lib.hid hq
  have HB1 := Lib.hid hb
  have HPAT : Hid (∀ j (h : j < L.length), ∃ b off sv, pa = some ⟨b, off, none⟩ ∧ b < w1.heap.size ∧ w1.cell? ⟨b, off + j, none⟩ = some sv ∧ IntsIn w1 sv L[j].1 W.heap.size w1.heap.size) := fun j hj => by
    obtain ⟨svs, o1, o2, o3, o4⟩ := hq.els
    have hj2 : j < (t.paths []).length := by omega
    obtain ⟨b, off, sv, ha, hlt, hc, hi⟩ := hpat j hj2
    have hj3 : j < svs.length := by have := o3.1; omega
    have e : (t.paths [])[j] = L[j].1 := by
      have : (t.paths [])[j]? = (L.map Prod.fst)[j]? := by rw [HLP.out]
      rw [List.getElem?_eq_getElem hj2, List.getElem?_map, List.getElem?_eq_getElem hj] at this
      simpa using this
    refine ⟨b, off, sv, ha, hlt, hc, ?_⟩
    have hio := (o3.2.2 j hj2 hj3).1
    rw [e] at hio
    have hs : svs[j] = sv := by
      rcases o1.2 with ⟨hv, hn⟩ | ⟨g, cap, cur, hv, _⟩
      · omega
      · injection hv with e1 e2 e3
        rw [ha] at e1
        injection e1 with e1
        injection e1 with e1 e4
        subst e1 e4
        have := o1.cells (g := b) (by rw [ha]; rfl) j svs[j] (List.getElem?_eq_getElem hj3)
        rw [addr_add, hc] at this
        injection this with this
        exact this.symm
    rw [hs] at hio
    exact hio
  rw [hll] at hpc ⊢
  clear hq hb hpat hll
  have HWL : Hid (w.heap.size < W.heap.size ∧ W.heap.size ≤ w1.heap.size) := ⟨XB.out.1, HB1.out.size⟩
  go_wp2_with fail
  go_loopw [5] (fun i wr => ∃ (k : Nat), k ≤ L.length ∧ i = .int .i64 k ∧ (L.take k).find? holeP = none ∧ Below w1.heap.size w1 wr) (fun i _ => L.length - (intOf i).toNat)
  case atStart => exact ⟨0, by omega, rfl, by simp, Below.refl _ _⟩
  case round =>
    obtain ⟨k, hk, rfl, hf, hb⟩ := hrel
    have HF := Lib.hid hf; clear hf
    have HB := Lib.hid hb; clear hb
    by_cases hlt : k < L.length
    · obtain ⟨b, off, sv, rfl, hbl, hc, hsi⟩ := HPAT.out k hlt
      have hki0 : (0 : Int) ≤ (k : Int) := by omega
      have hki1 : (k : Int) < (L.length : Int) := by omega
      have HBB : Hid (Below W.heap.size W wr) := HB1.out.trans (HB.out.mono HB1.out.size)
      have XR := Lib.hid (XB.out.below HBB.out)
      have c1 : wr.cell? ⟨b, off + k, none⟩ = some sv := (HB.out.cell (p := ⟨b, off + k, none⟩) hbl).trans hc
      have C1 := Lib.hid c1
      have HSI := Lib.hid (hsi.below HB.out)
      have HBL : Hid (b < wr.heap.size) := Nat.lt_of_lt_of_le hbl HB.out.size
      have HAR := Lib.hid (HA.out.below HBB.out)
      obtain ⟨hsub, hsl⟩ := HSUB.out k hlt
      have HS := Lib.hid hsub
      clear hc hsi hsub c1
      have hbl1 : b < wr.heap.size := HBL.out
      have hbl2 : w.heap.size < wr.heap.size := XR.out.1
      have KEEP : Hid (∀ w' : World, Below wr.heap.size wr w' → w'.cell? ⟨b, off + k, none⟩ = some sv ∧ w'.cell? ⟨w.heap.size, 0, none⟩ = some (.int .i64 xk) ∧ w'.cell? ⟨w.heap.size, 1, none⟩ = some (.string xm) ∧ w'.cell? ⟨w.heap.size, 2, none⟩ = some (.int .i64 xn) ∧ w'.cell? ⟨w.heap.size, 3, none⟩ = some (.int .i64 xtk) ∧ w'.cell? ⟨w.heap.size, 4, none⟩ = some (.slice xta xtn xtc) ∧ w'.cell? ⟨w.heap.size, 5, none⟩ = some (.slice xsa xsn xsc)) := fun w' hb' => ⟨(hb'.cell (p := ⟨b, off + k, none⟩) HBL.out).trans C1.out, (XR.out.below hb').2 0, (XR.out.below hb').2 1, (XR.out.below hb').2 2, (XR.out.below hb').2 3, (XR.out.below hb').2 4, (XR.out.below hb').2 5⟩
      go_upto_region 5 with fail
      go_cut [6] from 10 to 31 (fun s wx => KindAt wr L[k].2.kd s wx)
      case first =>
        have G := Lib.hid (below_drew wr)
        go_region_held3 (fun w' => w'.cell? ⟨b, off + k, none⟩ = some sv ∧ w'.cell? ⟨w.heap.size, 0, none⟩ = some (.int .i64 xk) ∧ w'.cell? ⟨w.heap.size, 1, none⟩ = some (.string xm) ∧ w'.cell? ⟨w.heap.size, 2, none⟩ = some (.int .i64 xn) ∧ w'.cell? ⟨w.heap.size, 3, none⟩ = some (.int .i64 xtk) ∧ w'.cell? ⟨w.heap.size, 4, none⟩ = some (.slice xta xtn xtc) ∧ w'.cell? ⟨w.heap.size, 5, none⟩ = some (.slice xsa xsn xsc))
          (refine ⟨(by (repeat (rw [World.cell?_setCell_other _ _ _ _ (by first | (simp; omega) | simp)])); first | with_reducible exact (KEEP.out _ G.out).1 | with_reducible exact (KEEP.out _ (G.out.alloc G.out.size _)).1 | with_reducible exact (KEEP.out _ (below_alloc _ _).drew).1), (by (repeat (rw [World.cell?_setCell_other _ _ _ _ (by first | (simp; omega) | simp)])); first | with_reducible exact (KEEP.out _ G.out).2.1 | with_reducible exact (KEEP.out _ (G.out.alloc G.out.size _)).2.1 | with_reducible exact (KEEP.out _ (below_alloc _ _).drew).2.1), (by (repeat (rw [World.cell?_setCell_other _ _ _ _ (by first | (simp; omega) | simp)])); first | with_reducible exact (KEEP.out _ G.out).2.2.1 | with_reducible exact (KEEP.out _ (G.out.alloc G.out.size _)).2.2.1 | with_reducible exact (KEEP.out _ (below_alloc _ _).drew).2.2.1), (by (repeat (rw [World.cell?_setCell_other _ _ _ _ (by first | (simp; omega) | simp)])); first | with_reducible exact (KEEP.out _ G.out).2.2.2.1 | with_reducible exact (KEEP.out _ (G.out.alloc G.out.size _)).2.2.2.1 | with_reducible exact (KEEP.out _ (below_alloc _ _).drew).2.2.2.1), (by (repeat (rw [World.cell?_setCell_other _ _ _ _ (by first | (simp; omega) | simp)])); first | with_reducible exact (KEEP.out _ G.out).2.2.2.2.1 | with_reducible exact (KEEP.out _ (G.out.alloc G.out.size _)).2.2.2.2.1 | with_reducible exact (KEEP.out _ (below_alloc _ _).drew).2.2.2.2.1), (by (repeat (rw [World.cell?_setCell_other _ _ _ _ (by first | (simp; omega) | simp)])); first | with_reducible exact (KEEP.out _ G.out).2.2.2.2.2.1 | with_reducible exact (KEEP.out _ (G.out.alloc G.out.size _)).2.2.2.2.2.1 | with_reducible exact (KEEP.out _ (below_alloc _ _).drew).2.2.2.2.2.1), (by (repeat (rw [World.cell?_setCell_other _ _ _ _ (by first | (simp; omega) | simp)])); first | with_reducible exact (KEEP.out _ G.out).2.2.2.2.2.2 | with_reducible exact (KEEP.out _ (G.out.alloc G.out.size _)).2.2.2.2.2.2 | with_reducible exact (KEEP.out _ (below_alloc _ _).drew).2.2.2.2.2.2)⟩)
          (first
           | (go_at_call 56
              refine (specSub d _ _ t L[k].1 _ ?_ ?_ hsz hsl).mono ?_
              · first | exact HAR.out.below G.out | exact HAR.out.below (G.out.alloc G.out.size _) | exact HAR.out.below (below_alloc _ _).drew
              · first | exact HSI.out.ints.below G.out | exact HSI.out.ints.below (G.out.alloc G.out.size _) | exact HSI.out.ints.below (below_alloc _ _).drew
              rintro e wo ⟨s, rfl, hin, hbo⟩
              rw [HS.out] at hin
              have hat2 := hin.at_
              obtain ⟨zk, zm, zn, ztk, zta, ztn, ztc, zsa, zsn, zsc, rfl⟩ := ex_parts hat2
              obtain ⟨hzk, hzk0, hzk1⟩ := ex_kind hat2
              change zk = L[k].2.kd at hzk
              subst hzk
              clear hin hat2
              first
                | (have XO : Hid (BoxAt wo wr.heap.size #[.int .i64 0, .string ⟨#[]⟩, .int .i64 0, .int .i64 0, .slice none 0 0, .slice none 0 0]) := Lib.hid ((BoxAt.new _ _ _).below hbo)
                   have XF : Hid (FreeAt wo wr.heap.size) := Lib.hid ((FreeAt.new _ #[.int .i64 0, .string ⟨#[]⟩, .int .i64 0, .int .i64 0, .slice none 0 0, .slice none 0 0] _).below hbo)
                   have G2 := Lib.hid (below_on (G.out.alloc G.out.size _) hbo (G.out.alloc G.out.size _).size)
                   clear G
                   have G := G2
                   clear G2
                   obtain ⟨r0, r1, r2, r3, r4, r5⟩ := box_six XO.out
                   obtain ⟨q0, q1, q2, q3, q4, q5⟩ := free_six XF.out)
                | (have XO : Hid (BoxAt wo wr.heap.size #[.int .i64 0, .string ⟨#[]⟩, .int .i64 0, .int .i64 0, .slice none 0 0, .slice none 0 0]) := Lib.hid (((BoxAt.new _ _ _).below (below_drew _)).below hbo)
                   have XF : Hid (FreeAt wo wr.heap.size) := Lib.hid (((FreeAt.new _ #[.int .i64 0, .string ⟨#[]⟩, .int .i64 0, .int .i64 0, .slice none 0 0, .slice none 0 0] _).below (below_drew _)).below hbo)
                   have G2 := Lib.hid (below_on (below_alloc wr _).drew hbo (below_alloc wr _).drew.size)
                   clear G
                   have G := G2
                   clear G2
                   obtain ⟨r0, r1, r2, r3, r4, r5⟩ := box_six XO.out
                   obtain ⟨q0, q1, q2, q3, q4, q5⟩ := free_six XF.out)
                | (replace G := Lib.hid (below_on G.out hbo G.out.size))
              clear hbo))
        all_goals go_wp2_with fail
        all_goals go_meet
        all_goals first | with_reducible refine kind_new G.out | with_reducible refine kind_old G.out (Nat.le_refl _) XO.out (by simp) | trace_state
      case rest =>
        obtain ⟨p, rfl, hp, hpk, hb2⟩ := hcut
        have HB2 := Lib.hid hb2
        have HB3 := Lib.hid (HB.out.trans (hb2.mono HB.out.size))
        have c2 : wc.cell? ⟨b, off + k, none⟩ = some sv := (hb2.cell (p := ⟨b, off + k, none⟩) HBL.out).trans C1.out
        clear hb2
        by_cases hq : L[k].2.kd = 1
        · rw [hq] at hpk
          have HT : Hid (t.first [] = some L[k].1) := by
            show t.first [] = _
            unfold Ex.first
            rw [← HL.out, find_at hlt HF.out hq]; rfl
          go_wp2_with fail
          refine bodyPost_ret (v := .tuple #[sv, .bool true]) (by simp [results, Try.results13, go_sem]) rfl ?_
          unfold FirstEnd
          rw [HT.out]
          have hin := HSI.out.below HB2.out
          exact ⟨_, rfl, hin.wide (by have := BW.out.size; exact this) (by have := HB3.out.size; exact this) (Nat.le_refl _), BW.out.trans ((HB1.out.trans (HB3.out.mono HB1.out.size)).mono BW.out.size)⟩
        · have hq' : (L[k].2.kd == 1) = false := by simpa using hq
          have HF2 := Lib.hid (find_on hlt HF.out hq)
          go_wp2_with fail
          exact ⟨⟨k + 1, by omega, by go_num, HF2.out, HB3.out⟩, by simp [intOf]; omega⟩
    · obtain rfl : k = L.length := by omega
      have HT : Hid (t.first [] = none) := by
        show t.first [] = _
        have := HF.out
        rw [List.take_length] at this
        unfold Ex.first
        rw [← HL.out, this]; rfl
      have HBB : Hid (Below w.heap.size w wr) := BW.out.trans ((HB1.out.trans (HB.out.mono HB1.out.size)).mono BW.out.size)
      go_wp2_with fail
      refine bodyPost_ret (v := .tuple #[.slice (some ⟨wr.heap.size, 0, none⟩) 0 0, .bool false]) (by simp [results, Try.results13, go_sem]) rfl ?_
      unfold FirstEnd
      rw [HT.out]
      exact ⟨_, rfl, ⟨World.ownsRow_made wr #[] 0 HBB.out.size (Nat.zero_le _) rfl, fun g hg => by simp [Value.ownBlock] at hg; simp; omega, Nat.le_refl _⟩, HBB.out.alloc HBB.out.size _⟩
theorem first_short (t : Ex) (h : t.bulk ≤ 1048576) : ((t.first []).getD []).length ≤ 1048577 := by
  cases hf : t.first [] with
  | none => simp
  | some q =>
    have := Ex.first_len t [] q hf
    simp at this ⊢
    omega
end Go.Proofs.Ytimigpdbegfjaaa
