/-
  Proved: spec.l13Number numbers the holes and marks of an expression from a number on, in new memory; the memory that was there stays as it was.
-/
import Derived.Test.YtimigpdbegfjaaaSpecLike
import Derived.Test.YtimigpdbegfjaaaExRen
import Derived.Deep.DeepCutAuto
namespace Go.Proofs.Ytimigpdbegfjaaa
open Go.RowKit

/-- The expression numbered from m on, and the next number. -/
def NumberEnd (d : Nat) (t : Ex) (m : Int) (w : World) (e : Ending) (w' : World) : Prop :=
  ∃ o fp, e = .returned (.tuple #[o, .int .i64 (m + (t.holes.length : Int))]) ∧ ExOwn w' d o (t.ren m) fp ∧ Fp w.heap.size w'.heap.size fp ∧ Below w.heap.size w w'
set_option maxRecDepth 100000 in
set_option maxHeartbeats 4000000 in
theorem specNumber : ∀ (d : Nat) (v : Value) (t : Ex) (m : Int) (w : World), t.bulk ≤ 1048576 → 0 ≤ m → m + t.bulk ≤ 4194304 → ExAt w d v t →
    Calls Try.prog 73 #[v, .int .i64 m] w (NumberEnd d t m w)
  | 0, _, _, _, _, _, _, _, h => h.elim
  | d + 1, v, .node kd nm n ty es, m, w, hsz, hm0, hm1, h => by
    have IH : Hid (∀ (v : Value) (t : Ex) (m : Int) (w : World), t.bulk ≤ 1048576 → 0 ≤ m → m + t.bulk ≤ 4194304 → ExAt w d v t → Calls Try.prog 73 #[v, .int .i64 m] w (NumberEnd d t m w)) := specNumber d
    have HV := ex_parts h
    obtain ⟨c3, c4, sl, rfl, hk0, hk1, hn0, hn1, hnm, hty, a, cap, rfl, hcap, hcap2, hat⟩ := h
    obtain ⟨k', nm', n', tk, ta, tn, tc, sa, sn, sc, hv⟩ := HV
    injection hv with hv
    injection hv with hv
    simp at hv
    obtain ⟨rfl, rfl, rfl, rfl, rfl, rfl, rfl, rfl⟩ := hv
    have HAT := Lib.hid hat; clear hat
    have hbk : (Ex.node kd nm n ty es).bulk = nm.size + (ty.size - 1) + Ex.bulks es := rfl
    rw [hbk] at hsz hm1
    have HSZ : Hid (Ex.bulks es ≤ 1048576 ∧ m + Ex.bulks es ≤ 4194304) := ⟨by omega, by omega⟩
    have hts : ty.size ≤ 1048577 := by omega
    have hn2 : es.length ≤ 1048576 := by have := Ex.length_le es; omega
    have hm2 : m ≤ 4194304 := by omega
    clear hsz hbk hm1
    obtain ⟨W, hW⟩ : ∃ W, W = (w.alloc (.cells #[.int .i64 kd, .string nm, .int .i64 n, .int .i64 tk, .slice ta tn tc, .slice a es.length cap] 37)).alloc (.cells #[.int .i64 0, .string ⟨#[]⟩, .int .i64 0, .int .i64 0, .slice none 0 0, .slice none 0 0] 37) := ⟨_, rfl⟩
    have XB : Hid (BoxAt W w.heap.size #[.int .i64 kd, .string nm, .int .i64 n, .int .i64 tk, .slice ta tn tc, .slice a es.length cap]) := by rw [hW]; exact (BoxAt.new _ _ _).below (below_alloc _ _)
    have XR : Hid (BoxAt W (w.heap.size + 1) #[.int .i64 0, .string ⟨#[]⟩, .int .i64 0, .int .i64 0, .slice none 0 0, .slice none 0 0]) := by rw [hW]; exact box_at (BoxAt.new _ _ _) (by simp)
    have FR : Hid (FreeAt W (w.heap.size + 1)) := by rw [hW]; exact free_at (FreeAt.new _ _ _) (by simp)
    have BW : Hid (Below w.heap.size w W) := by rw [hW]; exact ((Below.refl _ _).alloc (Nat.le_refl _) _).alloc (by simp) _
    have hws : W.heap.size = w.heap.size + 1 + 1 := by rw [hW]; simp
    have HWS := Lib.hid hws; clear hws
    have B0 := Lib.hid (below_alloc W (.cells #[] 37))
    have HTY := Lib.hid ((hty.below BW.out).below B0.out); clear hty
    go_enter Try.func73, Try.ntmps73
    go_upto_region 1 with fail
    rw [← hW]
    clear hW
    obtain ⟨b0, b1, b2, b3, b4, b5⟩ := box_six XB.out
    go_wp2_with fail
    clear b0 b1 b2 b3 b4 b5
    refine (specLike d kd nm n tk ta tn tc a es.length cap (some ⟨W.heap.size, 0, none⟩) 0 0 ty _ HTY.out hts).mono ?_
    rintro e w1 ⟨zk, za, zn, zc, f1, rfl, hown, hfp, hb⟩
    have hzW1 := hb.size
    rw [World.size_alloc] at hzW1
    have HY := Lib.hid (hown.below (below_alloc w1 (.cells #[.int .i64 kd, .string nm, .int .i64 n, .int .i64 zk, .slice za zn zc, .slice (some ⟨W.heap.size, 0, none⟩) 0 0] 37)))
    have HF1 := Lib.hid hfp
    have B1 := Lib.hid (B0.out.trans (hb.mono B0.out.size))
    obtain ⟨W3, hW3⟩ : ∃ W3, W3 = w1.alloc (.cells #[.int .i64 kd, .string nm, .int .i64 n, .int .i64 zk, .slice za zn zc, .slice (some ⟨W.heap.size, 0, none⟩) 0 0] 37) := ⟨_, rfl⟩
    have hz3 : W3.heap.size = w1.heap.size + 1 := by rw [hW3]; simp
    have HB3 : Hid (Below W.heap.size W W3) := by rw [hW3]; exact B1.out.alloc B1.out.size _
    have HRW : Hid (RowOk W3 W3.heap.size d (.slice (some ⟨W.heap.size, 0, none⟩) 0 0) []) := by
      rw [hW3]
      exact RowOk.new W d (by simp; omega) (Nat.le_refl _) ((hb.mono (by simp)).alloc (by omega) _)
    have XO : Hid (BoxAt W3 w1.heap.size #[.int .i64 kd, .string nm, .int .i64 n, .int .i64 zk, .slice za zn zc, .slice (some ⟨W.heap.size, 0, none⟩) 0 0]) := by rw [hW3]; exact BoxAt.new _ _ _
    have FO : Hid (FreeAt W3 w1.heap.size) := by rw [hW3]; exact FreeAt.new _ _ _
    rw [← hW3] at HY
    clear hown hfp hb
    have hpw : w1.heap.size < W3.heap.size := by omega
    have HNE : Hid (w1.heap.size ≠ W.heap.size) := by show _ ≠ _; omega
    have b0 := (XB.out.below HB3.out).2 0
    -- the number, if it is a hole or a mark
    obtain ⟨N', hN'⟩ : ∃ N' : Int, N' = (if kd = 1 ∨ kd = 14 then m else n) := ⟨_, rfl⟩
    obtain ⟨m1, hm1⟩ : ∃ m1 : Int, m1 = (if kd = 1 ∨ kd = 14 then m + 1 else m) := ⟨_, rfl⟩
    have HREN : Hid ((Ex.node kd nm n ty es).ren m = .node kd nm N' ty (Ex.rens es m1)) := by
      show _ = _
      unfold Ex.ren
      by_cases q : kd = 1 ∨ kd = 14
      · rw [if_pos q, hN', hm1, if_pos q, if_pos q]
      · rw [if_neg q, hN', hm1, if_neg q, if_neg q]
    have HCNT : Hid (m1 + ((Ex.holess es).length : Int) = m + ((Ex.node kd nm n ty es).holes.length : Int)) := by
      show _ = _
      simp only [Ex.holes, List.length_append]
      by_cases q : kd = 1 ∨ kd = 14
      · rw [hm1, if_pos q, if_pos q]; simp; omega
      · rw [hm1, if_neg q, if_neg q]; simp
    have HN' : Hid (-9223372036854775808 ≤ N' ∧ N' ≤ 9223372036854775807) := by
      show _ ∧ _
      rw [hN']; split <;> omega
    have HM1 : Hid (0 ≤ m1 ∧ m1 ≤ m + 1) := by
      show _ ∧ _
      rw [hm1]; split <;> omega
    have KEY : Hid (∃ W4, W4 = (if kd = 1 ∨ kd = 14 then W3.setCell ⟨w1.heap.size, 2, none⟩ (.int .i64 m) else W3)) := ⟨_, rfl⟩
    obtain ⟨W4, hW4⟩ := KEY.out
    have hz4 : W4.heap.size = W3.heap.size := by rw [hW4]; split <;> simp
    have HB4 : Hid (Below W.heap.size W W4) := by
      show Below _ _ _
      rw [hW4]; split
      · exact HB3.out.setCell (by have := B1.out.size; exact this) _
      · exact HB3.out
    have XO4 : Hid (BoxAt W4 w1.heap.size #[.int .i64 kd, .string nm, .int .i64 N', .int .i64 zk, .slice za zn zc, .slice (some ⟨W.heap.size, 0, none⟩) 0 0]) := by
      show BoxAt _ _ _
      rw [hW4, hN']
      split
      · have := XO.out.put (j := 2) (u := .int .i64 m) (by simp)
        exact this
      · exact XO.out
    have FO4 : Hid (FreeAt W4 w1.heap.size) := by
      show FreeAt _ _
      rw [hW4]; split
      · exact FO.out.put
      · exact FO.out
    have HRW4 : Hid (RowOk W4 W3.heap.size d (.slice (some ⟨W.heap.size, 0, none⟩) 0 0) []) := by
      show RowOk _ _ _ _ _
      rw [hW4]; split
      · exact HRW.out.stored (p := w1.heap.size) hpw (fun e => by simp [Value.ownBlock] at e; exact HNE.out e.symm) _
      · exact HRW.out
    have HY4 : Hid (TyOwn W4 d (.agg #[.int .i64 zk, .slice za zn zc]) ty f1) := by
      show TyOwn _ _ _ _ _
      rw [hW4]; split
      · exact HY.out.kept (by simp) fun b hb => heap_setCell_other _ _ _ _ (fun e => by have e2 : b = w1.heap.size := e; have := (HF1.out.2 b hb).2; omega)
      · exact HY.out
    clear KEY HRW HY HB3
    have HZ3 := Lib.hid hz3; clear hz3
    have HZ4 := Lib.hid hz4; clear hz4
    have HPW := Lib.hid hpw
    have HZW1 := Lib.hid hzW1
    go_upto_region 2 with fail
    rw [← hW3]
    clear hW3
    have o2 := XO.out.2 2
    have z2 := FO.out.2 2
    have hk3 : kd = 1 ∨ kd = 14 ∨ (kd ≠ 1 ∧ kd ≠ 14) := by omega
    rcases hk3 with q | q | q
    · have q1 : (kd == 1) = true := by simp [q]
      have e4 : W4 = W3.setCell ⟨w1.heap.size, 2, none⟩ (.int .i64 m) := by rw [hW4, if_pos (Or.inl q)]
      have e1 : m1 = m + 1 := by rw [hm1, if_pos (Or.inl q)]
      clear hW4 hm1 hN' q
      go_wp2_with fail
      rw [← e4, ← e1]
      clear e4 e1 q1 o2 z2 b0
      go_loopw [1, 7] (fun mm i wr => ∃ (k : Nat) (vo : Value), k ≤ es.length ∧ i = .int .i64 k ∧ mm = .int .i64 (m1 + ((Ex.holess (es.take k)).length : Int)) ∧ BoxAt wr w1.heap.size #[.int .i64 kd, .string nm, .int .i64 N', .int .i64 zk, .slice za zn zc, vo] ∧ FreeAt wr w1.heap.size ∧ RowOk wr W3.heap.size d vo (Ex.rens (es.take k) m1) ∧ (∀ j, vo.ownBlock = some j → W.heap.size ≤ j ∧ j ≠ w1.heap.size) ∧ TyOwn wr d (.agg #[.int .i64 zk, .slice za zn zc]) ty f1 ∧ W3.heap.size ≤ wr.heap.size ∧ Below W.heap.size W wr) (fun _ i _ => es.length - (intOf i).toNat)
      case atStart => exact ⟨0, _, by omega, rfl, by simp [Ex.holess], XO4.out, FO4.out, by simpa [Ex.rens] using HRW4.out, (fun j e => by simp [Value.ownBlock] at e; exact ⟨by omega, fun h => HNE.out (by omega)⟩), HY4.out, by have := HZ4.out; omega, HB4.out⟩
      case round =>
        obtain ⟨k, vo, hk, rfl, rfl, hxp, hfp, hrow, hvn, hty, hz3, hb⟩ := hrel
        obtain ⟨oa, oc, hvo⟩ := hrow.form
        rw [Ex.rens_length, List.length_take, Nat.min_eq_left hk] at hvo
        subst hvo
        have HROW := Lib.hid hrow; clear hrow
        have XP := Lib.hid hxp; clear hxp
        have XF := Lib.hid hfp; clear hfp
        have HT := Lib.hid hty; clear hty
        have HVN := Lib.hid hvn; clear hvn
        have HBW := Lib.hid hb
        have HBB := Lib.hid (BW.out.trans (hb.mono BW.out.size)); clear hb
        have HZ3r := Lib.hid hz3; clear hz3
        have b5 := (XB.out.below HBW.out).2 5
        by_cases hlt : k < es.length
        · obtain ⟨b, off, x0, x1, x2, x3, x4, x5, rfl, hbl, hc0, hc1, hc2, hc3, hc4, hc5, ht⟩ := HAT.out k hlt
          obtain ⟨xk, xnm, xn, xtk, xta, xtn, xtc, xa, xm, xc, rfl, rfl, rfl, rfl, rfl, rfl⟩ := ex_cells ht
          have hg := Ex.bulk_get es k hlt
          have hzk : es[k].bulk ≤ 1048576 := by have := HSZ.out.1; omega
          have e0 : wr.cell? ⟨b, off + k * 6, none⟩ = some (.int .i64 xk) := by rw [HBB.out.cell (p := ⟨b, off + k * 6, none⟩) hbl]; exact hc0
          have e1 : wr.cell? ⟨b, off + k * 6 + 1, none⟩ = some (.string xnm) := by rw [HBB.out.cell (p := ⟨b, off + k * 6 + 1, none⟩) hbl]; exact hc1
          have e2 : wr.cell? ⟨b, off + k * 6 + 2, none⟩ = some (.int .i64 xn) := by rw [HBB.out.cell (p := ⟨b, off + k * 6 + 2, none⟩) hbl]; exact hc2
          have e3 : wr.cell? ⟨b, off + k * 6 + 3, none⟩ = some (.int .i64 xtk) := by rw [HBB.out.cell (p := ⟨b, off + k * 6 + 3, none⟩) hbl]; exact hc3
          have e4 : wr.cell? ⟨b, off + k * 6 + 4, none⟩ = some (.slice xta xtn xtc) := by rw [HBB.out.cell (p := ⟨b, off + k * 6 + 4, none⟩) hbl]; exact hc4
          have e5 : wr.cell? ⟨b, off + k * 6 + 5, none⟩ = some (.slice xa xm xc) := by rw [HBB.out.cell (p := ⟨b, off + k * 6 + 5, none⟩) hbl]; exact hc5
          have HTE := Lib.hid (ht.below HBB.out)
          obtain ⟨mk, hmk⟩ : ∃ mk : Int, mk = m1 + ((Ex.holess (es.take k)).length : Int) := ⟨_, rfl⟩
          have hmk0 : 0 ≤ mk := by have := HM1.out.1; omega
          have hmk1 : mk + es[k].bulk ≤ 4194304 := by
            have h1 := Ex.holess_few (es.take k)
            have h2 := Ex.bulks_take es k hlt
            have h3 := Ex.bulks_le es (k + 1)
            have h4 := HSZ.out.2
            have h5 := HM1.out.2
            omega
          rw [← hmk]
          have HMK := Lib.hid hmk; clear hmk
          have HMK1 : Hid (mk ≤ 4194304) := by show _ ≤ _; omega
          clear ht hc0 hc1 hc2 hc3 hc4 hc5 hg
          go_wp2_with fail
          clear e0 e1 e2 e3 e4 e5 b5
          refine (IH.out _ es[k] mk _ hzk hmk0 hmk1 HTE.out).mono ?_
          rintro e w' ⟨v2, fp, rfl, ht, hfp, hb1⟩
          obtain ⟨yk, ynm, yn, ytk, yta, ytn, ytc, ya, ym, yc, rfl⟩ := ex_parts ht.at_
          obtain ⟨WA, hWA⟩ : ∃ WA, WA = w'.alloc (.cells #[.int .i64 yk, .string ynm, .int .i64 yn, .int .i64 ytk, .slice yta ytn ytc, .slice ya ym yc] 37) := ⟨_, rfl⟩
          have hba : Below w'.heap.size w' WA := by rw [hWA]; exact below_alloc _ _
          have hb2 : Below wr.heap.size wr WA := hb1.trans (hba.mono hb1.size)
          have HB2 := Lib.hid hb2
          have HR : Hid (∀ ty, ∃ v' w1', (Builtin.append_ #[35, 35] ty #[.slice oa k oc, .slice (some ⟨WA.heap.size, 0, none⟩) 1 1]).run Try.prog (WA.alloc (.cells #[.int .i64 yk, .string ynm, .int .i64 yn, .int .i64 ytk, .slice yta ytn ytc, .slice ya ym yc] 37)) = .ok v' w1' ∧ Pushed1 W3.heap.size d (Ex.rens (es.take k) m1) (es[k].ren mk) (WA.alloc (.cells #[.int .i64 yk, .string ynm, .int .i64 yn, .int .i64 ytk, .slice yta ytn ytc, .slice ya ym yc] 37)) v' w1') :=
            fun ty => run_ex_push wr WA W3.heap.size d ty (.slice oa k oc) _ (es[k].ren mk) fp _ _ _ _ _ _ HROW.out hb2 HZ3r.out (ht.kept hba.size fun b hb => hba.block b (hfp.2 b hb).2) (hfp.mono (Nat.le_refl _) hba.size) (by simp [Value.oneCell']) (by rw [Ex.rens_length, List.length_take]; omega)
          have y0 : WA.cell? ⟨w'.heap.size, 0, none⟩ = some (.int .i64 yk) := by rw [hWA]; exact (BoxAt.new w' #[.int .i64 yk, .string ynm, .int .i64 yn, .int .i64 ytk, .slice yta ytn ytc, .slice ya ym yc] 37).2 0
          have y1 : WA.cell? ⟨w'.heap.size, 1, none⟩ = some (.string ynm) := by rw [hWA]; exact (BoxAt.new w' #[.int .i64 yk, .string ynm, .int .i64 yn, .int .i64 ytk, .slice yta ytn ytc, .slice ya ym yc] 37).2 1
          have y2 : WA.cell? ⟨w'.heap.size, 2, none⟩ = some (.int .i64 yn) := by rw [hWA]; exact (BoxAt.new w' #[.int .i64 yk, .string ynm, .int .i64 yn, .int .i64 ytk, .slice yta ytn ytc, .slice ya ym yc] 37).2 2
          have y3 : WA.cell? ⟨w'.heap.size, 3, none⟩ = some (.int .i64 ytk) := by rw [hWA]; exact (BoxAt.new w' #[.int .i64 yk, .string ynm, .int .i64 yn, .int .i64 ytk, .slice yta ytn ytc, .slice ya ym yc] 37).2 3
          have y4 : WA.cell? ⟨w'.heap.size, 4, none⟩ = some (.slice yta ytn ytc) := by rw [hWA]; exact (BoxAt.new w' #[.int .i64 yk, .string ynm, .int .i64 yn, .int .i64 ytk, .slice yta ytn ytc, .slice ya ym yc] 37).2 4
          have y5 : WA.cell? ⟨w'.heap.size, 5, none⟩ = some (.slice ya ym yc) := by rw [hWA]; exact (BoxAt.new w' #[.int .i64 yk, .string ynm, .int .i64 yn, .int .i64 ytk, .slice yta ytn ytc, .slice ya ym yc] 37).2 5
          have o5 := (XP.out.below hb2).2 5
          clear ht hfp hb1 hba hb2
          go_upto_region 9 with fail
          rw [← hWA]
          clear hWA
          go_wp2_with (at_builtin; go_loud (refine wpList_app_by rfl (.tmp 43) (.tmp 45) 35 rfl (.slice oa k oc) (.slice (some ⟨WA.heap.size, 0, none⟩) 1 1) rfl rfl (HR.out _) ?_; rintro v5 w5 ⟨g, gc, rfl, hg5, hrow5, hb5⟩; refine Hid.out ?_))
          refine Lib.hid ?_
          rw [Ex.rens_length, List.length_take, Nat.min_eq_left hk] at *
          have hp3 := HPW.out
          have HB5 : Hid (Below W3.heap.size WA w5) := ((Below.refl _ _).alloc (by have := HB2.out.size; have := HZ3r.out; omega) _).trans hb5
          have HBR : Hid (Below W3.heap.size wr w5) := (HB2.out.mono HZ3r.out).trans HB5.out
          have hz5 := HBR.out.size
          have KP : Hid (∀ b, b < W3.heap.size → w5.heap[b]? = wr.heap[b]?) := fun b hb => HBR.out.block b hb
          have XP5 : Hid (BoxAt w5 w1.heap.size #[.int .i64 kd, .string nm, .int .i64 N', .int .i64 zk, .slice za zn zc, .slice oa k oc]) := XP.out.kept hz5 (KP.out _ hp3)
          have XF5 : Hid (FreeAt w5 w1.heap.size) := ⟨XP5.out.1, fun j => (World.frozen?_of_block (a := ⟨w1.heap.size, j, none⟩) (KP.out _ hp3)).trans (XF.out.2 j)⟩
          have HT5 : Hid (TyOwn w5 d (.agg #[.int .i64 zk, .slice za zn zc]) ty f1) := HT.out.kept hz5 fun b hb => KP.out b (by have := (HF1.out.2 b hb).2; omega)
          have HR5 := Lib.hid hrow5
          have HG5 := Lib.hid hg5
          have HBW5 : Hid (Below W.heap.size W w5) := HBW.out.trans (HBR.out.mono (by have := B1.out.size; omega))
          have k5 := XP5.out.2 5
          have z5 := XF5.out.2 5
          have HZ5 : Hid (W3.heap.size ≤ w5.heap.size) := by have := HZ3r.out; show _ ≤ _; omega
          clear hrow5 hg5 hb5 o5 y0 y1 y2 y3 y4 y5
          go_wp2_with fail
          refine ⟨⟨k + 1, .slice (some ⟨g, 0, none⟩) (k + 1) gc, by omega, by go_num, ?_, XP5.out.put (j := 5) (u := .slice (some ⟨g, 0, none⟩) (k + 1) gc) (by simp), XF5.out.put, ?_, (fun j e => by simp [Value.ownBlock] at e; have := HG5.out; have := B1.out.size; omega), HT5.out.kept (by simp) (fun b hb => heap_setCell_other _ _ _ _ (fun e => by have e2 : b = w1.heap.size := e; have := (HF1.out.2 b hb).2; omega)), by simpa using HZ5.out, HBW5.out.setCell (by have := B1.out.size; exact this) _⟩, by simp [intOf]; omega⟩
          · rw [HMK.out, Ex.holess_take es k hlt]; simp; omega
          · rw [Ex.rens_take es m1 k hlt, ← HMK.out]
            exact Or.inl (HR5.out.stored (by omega) _)
        · obtain rfl : k = es.length := by omega
          have XRr := Lib.hid (XR.out.below HBW.out)
          have FRr := Lib.hid (FR.out.below HBW.out)
          obtain ⟨o0, o1, o2, o3, o4, o5⟩ := box_six XP.out
          obtain ⟨r0, r1, r2, r3, r4, r5⟩ := box_six XRr.out
          obtain ⟨s0, s1, s2, s3, s4, s5⟩ := free_six FRr.out
          have hlw : w.heap.size + 1 < W.heap.size := by have := HWS.out; omega
          have hlw3 : w.heap.size + 1 < W3.heap.size := by have := HZ3.out; have := HZW1.out; omega
          have HVN2 : Hid ((Value.slice oa es.length oc).ownBlock ≠ some (w.heap.size + 1)) := fun e => by
            have := (HVN.out _ e).1; omega
          go_wp2_with fail
          have hRF : BoxAt ((((((wr.setCell ⟨w.heap.size + 1, 0, none⟩ (.int .i64 kd)).setCell ⟨w.heap.size + 1, 1, none⟩ (.string nm)).setCell ⟨w.heap.size + 1, 2, none⟩ (.int .i64 N')).setCell ⟨w.heap.size + 1, 3, none⟩ (.int .i64 zk)).setCell ⟨w.heap.size + 1, 4, none⟩ (.slice za zn zc)).setCell ⟨w.heap.size + 1, 5, none⟩ (.slice oa es.length oc)) (w.heap.size + 1) #[.int .i64 kd, .string nm, .int .i64 N', .int .i64 zk, .slice za zn zc, .slice oa es.length oc] := by
            have := ((((((XRr.out.put (j := 0) (u := .int .i64 kd) (by simp)).put (j := 1) (u := .string nm) (by simp)).put (j := 2) (u := .int .i64 N') (by simp)).put (j := 3) (u := .int .i64 zk) (by simp)).put (j := 4) (u := .slice za zn zc) (by simp)).put (j := 5) (u := .slice oa es.length oc) (by simp))
            exact this
          have HRWF : RowOk ((((((wr.setCell ⟨w.heap.size + 1, 0, none⟩ (.int .i64 kd)).setCell ⟨w.heap.size + 1, 1, none⟩ (.string nm)).setCell ⟨w.heap.size + 1, 2, none⟩ (.int .i64 N')).setCell ⟨w.heap.size + 1, 3, none⟩ (.int .i64 zk)).setCell ⟨w.heap.size + 1, 4, none⟩ (.slice za zn zc)).setCell ⟨w.heap.size + 1, 5, none⟩ (.slice oa es.length oc)) W3.heap.size d (.slice oa es.length oc) (Ex.rens es m1) := by
            have := ((((((HROW.out.stored (p := w.heap.size + 1) (o := 0) hlw3 HVN2.out (.int .i64 kd)).stored (p := w.heap.size + 1) (o := 1) hlw3 HVN2.out (.string nm)).stored (p := w.heap.size + 1) (o := 2) hlw3 HVN2.out (.int .i64 N')).stored (p := w.heap.size + 1) (o := 3) hlw3 HVN2.out (.int .i64 zk)).stored (p := w.heap.size + 1) (o := 4) hlw3 HVN2.out (.slice za zn zc)).stored (p := w.heap.size + 1) (o := 5) hlw3 HVN2.out (.slice oa es.length oc))
            rw [List.take_length] at this
            exact this
          have hTF : TyOwn ((((((wr.setCell ⟨w.heap.size + 1, 0, none⟩ (.int .i64 kd)).setCell ⟨w.heap.size + 1, 1, none⟩ (.string nm)).setCell ⟨w.heap.size + 1, 2, none⟩ (.int .i64 N')).setCell ⟨w.heap.size + 1, 3, none⟩ (.int .i64 zk)).setCell ⟨w.heap.size + 1, 4, none⟩ (.slice za zn zc)).setCell ⟨w.heap.size + 1, 5, none⟩ (.slice oa es.length oc)) d (.agg #[.int .i64 zk, .slice za zn zc]) ty f1 := HT.out.kept (by simp) fun b hb => by
            have h1 := (HF1.out.2 b hb).1
            rw [World.size_alloc] at h1
            rw [heap_setCell_other _ _ _ _ (by simp; omega), heap_setCell_other _ _ _ _ (by simp; omega), heap_setCell_other _ _ _ _ (by simp; omega), heap_setCell_other _ _ _ _ (by simp; omega), heap_setCell_other _ _ _ _ (by simp; omega), heap_setCell_other _ _ _ _ (by simp; omega)]
          have hBF : Below w.heap.size w ((((((wr.setCell ⟨w.heap.size + 1, 0, none⟩ (.int .i64 kd)).setCell ⟨w.heap.size + 1, 1, none⟩ (.string nm)).setCell ⟨w.heap.size + 1, 2, none⟩ (.int .i64 N')).setCell ⟨w.heap.size + 1, 3, none⟩ (.int .i64 zk)).setCell ⟨w.heap.size + 1, 4, none⟩ (.slice za zn zc)).setCell ⟨w.heap.size + 1, 5, none⟩ (.slice oa es.length oc)) := ((((((HBB.out.setCell (by simp) _).setCell (by simp) _).setCell (by simp) _).setCell (by simp) _).setCell (by simp) _).setCell (by simp) _)
          have hzF : W3.heap.size ≤ ((((((wr.setCell ⟨w.heap.size + 1, 0, none⟩ (.int .i64 kd)).setCell ⟨w.heap.size + 1, 1, none⟩ (.string nm)).setCell ⟨w.heap.size + 1, 2, none⟩ (.int .i64 N')).setCell ⟨w.heap.size + 1, 3, none⟩ (.int .i64 zk)).setCell ⟨w.heap.size + 1, 4, none⟩ (.slice za zn zc)).setCell ⟨w.heap.size + 1, 5, none⟩ (.slice oa es.length oc)).heap.size := by simpa using HZ3r.out
          obtain ⟨fp, hown, hfp⟩ := HRWF.tree kd nm N' ty f1 hk0 hk1 HN'.out.1 HN'.out.2 hnm hTF (base := w.heap.size) (HF1.out.mono (by simp; have := BW.out.size; omega) (by have := HZ3.out; omega)) (by omega) hzF
          have g0 := hRF.2 0
          have g1 := hRF.2 1
          have g2 := hRF.2 2
          have g3 := hRF.2 3
          have g4 := hRF.2 4
          have g5 := hRF.2 5
          clear hRF HRWF hTF
          generalize ((((((wr.setCell ⟨w.heap.size + 1, 0, none⟩ (.int .i64 kd)).setCell ⟨w.heap.size + 1, 1, none⟩ (.string nm)).setCell ⟨w.heap.size + 1, 2, none⟩ (.int .i64 N')).setCell ⟨w.heap.size + 1, 3, none⟩ (.int .i64 zk)).setCell ⟨w.heap.size + 1, 4, none⟩ (.slice za zn zc)).setCell ⟨w.heap.size + 1, 5, none⟩ (.slice oa es.length oc)) = WX at g0 g1 g2 g3 g4 g5 hown hfp hBF ⊢
          refine bodyPost_ret (v := .tuple #[.agg #[.int .i64 kd, .string nm, .int .i64 N', .int .i64 zk, .slice za zn zc, .slice oa es.length oc], .int .i64 (m1 + ((Ex.holess (es.take es.length)).length : Int))]) (by simp [results, Try.results73, go_sem, g0, g1, g2, g3, g4, g5]) rfl ?_
          unfold NumberEnd
          rw [HREN.out, ← HCNT.out, List.take_length]
          exact ⟨_, fp, rfl, hown, hfp, hBF⟩
    · have q1 : (kd == 1) = false := by simp [q]
      have q2 : (kd == 14) = true := by simp [q]
      have e4 : W4 = W3.setCell ⟨w1.heap.size, 2, none⟩ (.int .i64 m) := by rw [hW4, if_pos (Or.inr q)]
      have e1 : m1 = m + 1 := by rw [hm1, if_pos (Or.inr q)]
      clear hW4 hm1 hN' q
      go_wp2_with fail
      rw [← e4, ← e1]
      clear e4 e1 q1 q2 o2 z2 b0
      go_loopw [1, 7] (fun mm i wr => ∃ (k : Nat) (vo : Value), k ≤ es.length ∧ i = .int .i64 k ∧ mm = .int .i64 (m1 + ((Ex.holess (es.take k)).length : Int)) ∧ BoxAt wr w1.heap.size #[.int .i64 kd, .string nm, .int .i64 N', .int .i64 zk, .slice za zn zc, vo] ∧ FreeAt wr w1.heap.size ∧ RowOk wr W3.heap.size d vo (Ex.rens (es.take k) m1) ∧ (∀ j, vo.ownBlock = some j → W.heap.size ≤ j ∧ j ≠ w1.heap.size) ∧ TyOwn wr d (.agg #[.int .i64 zk, .slice za zn zc]) ty f1 ∧ W3.heap.size ≤ wr.heap.size ∧ Below W.heap.size W wr) (fun _ i _ => es.length - (intOf i).toNat)
      case atStart => exact ⟨0, _, by omega, rfl, by simp [Ex.holess], XO4.out, FO4.out, by simpa [Ex.rens] using HRW4.out, (fun j e => by simp [Value.ownBlock] at e; exact ⟨by omega, fun h => HNE.out (by omega)⟩), HY4.out, by have := HZ4.out; omega, HB4.out⟩
      case round =>
        obtain ⟨k, vo, hk, rfl, rfl, hxp, hfp, hrow, hvn, hty, hz3, hb⟩ := hrel
        obtain ⟨oa, oc, hvo⟩ := hrow.form
        rw [Ex.rens_length, List.length_take, Nat.min_eq_left hk] at hvo
        subst hvo
        have HROW := Lib.hid hrow; clear hrow
        have XP := Lib.hid hxp; clear hxp
        have XF := Lib.hid hfp; clear hfp
        have HT := Lib.hid hty; clear hty
        have HVN := Lib.hid hvn; clear hvn
        have HBW := Lib.hid hb
        have HBB := Lib.hid (BW.out.trans (hb.mono BW.out.size)); clear hb
        have HZ3r := Lib.hid hz3; clear hz3
        have b5 := (XB.out.below HBW.out).2 5
        by_cases hlt : k < es.length
        · obtain ⟨b, off, x0, x1, x2, x3, x4, x5, rfl, hbl, hc0, hc1, hc2, hc3, hc4, hc5, ht⟩ := HAT.out k hlt
          obtain ⟨xk, xnm, xn, xtk, xta, xtn, xtc, xa, xm, xc, rfl, rfl, rfl, rfl, rfl, rfl⟩ := ex_cells ht
          have hg := Ex.bulk_get es k hlt
          have hzk : es[k].bulk ≤ 1048576 := by have := HSZ.out.1; omega
          have e0 : wr.cell? ⟨b, off + k * 6, none⟩ = some (.int .i64 xk) := by rw [HBB.out.cell (p := ⟨b, off + k * 6, none⟩) hbl]; exact hc0
          have e1 : wr.cell? ⟨b, off + k * 6 + 1, none⟩ = some (.string xnm) := by rw [HBB.out.cell (p := ⟨b, off + k * 6 + 1, none⟩) hbl]; exact hc1
          have e2 : wr.cell? ⟨b, off + k * 6 + 2, none⟩ = some (.int .i64 xn) := by rw [HBB.out.cell (p := ⟨b, off + k * 6 + 2, none⟩) hbl]; exact hc2
          have e3 : wr.cell? ⟨b, off + k * 6 + 3, none⟩ = some (.int .i64 xtk) := by rw [HBB.out.cell (p := ⟨b, off + k * 6 + 3, none⟩) hbl]; exact hc3
          have e4 : wr.cell? ⟨b, off + k * 6 + 4, none⟩ = some (.slice xta xtn xtc) := by rw [HBB.out.cell (p := ⟨b, off + k * 6 + 4, none⟩) hbl]; exact hc4
          have e5 : wr.cell? ⟨b, off + k * 6 + 5, none⟩ = some (.slice xa xm xc) := by rw [HBB.out.cell (p := ⟨b, off + k * 6 + 5, none⟩) hbl]; exact hc5
          have HTE := Lib.hid (ht.below HBB.out)
          obtain ⟨mk, hmk⟩ : ∃ mk : Int, mk = m1 + ((Ex.holess (es.take k)).length : Int) := ⟨_, rfl⟩
          have hmk0 : 0 ≤ mk := by have := HM1.out.1; omega
          have hmk1 : mk + es[k].bulk ≤ 4194304 := by
            have h1 := Ex.holess_few (es.take k)
            have h2 := Ex.bulks_take es k hlt
            have h3 := Ex.bulks_le es (k + 1)
            have h4 := HSZ.out.2
            have h5 := HM1.out.2
            omega
          rw [← hmk]
          have HMK := Lib.hid hmk; clear hmk
          have HMK1 : Hid (mk ≤ 4194304) := by show _ ≤ _; omega
          clear ht hc0 hc1 hc2 hc3 hc4 hc5 hg
          go_wp2_with fail
          clear e0 e1 e2 e3 e4 e5 b5
          refine (IH.out _ es[k] mk _ hzk hmk0 hmk1 HTE.out).mono ?_
          rintro e w' ⟨v2, fp, rfl, ht, hfp, hb1⟩
          obtain ⟨yk, ynm, yn, ytk, yta, ytn, ytc, ya, ym, yc, rfl⟩ := ex_parts ht.at_
          obtain ⟨WA, hWA⟩ : ∃ WA, WA = w'.alloc (.cells #[.int .i64 yk, .string ynm, .int .i64 yn, .int .i64 ytk, .slice yta ytn ytc, .slice ya ym yc] 37) := ⟨_, rfl⟩
          have hba : Below w'.heap.size w' WA := by rw [hWA]; exact below_alloc _ _
          have hb2 : Below wr.heap.size wr WA := hb1.trans (hba.mono hb1.size)
          have HB2 := Lib.hid hb2
          have HR : Hid (∀ ty, ∃ v' w1', (Builtin.append_ #[35, 35] ty #[.slice oa k oc, .slice (some ⟨WA.heap.size, 0, none⟩) 1 1]).run Try.prog (WA.alloc (.cells #[.int .i64 yk, .string ynm, .int .i64 yn, .int .i64 ytk, .slice yta ytn ytc, .slice ya ym yc] 37)) = .ok v' w1' ∧ Pushed1 W3.heap.size d (Ex.rens (es.take k) m1) (es[k].ren mk) (WA.alloc (.cells #[.int .i64 yk, .string ynm, .int .i64 yn, .int .i64 ytk, .slice yta ytn ytc, .slice ya ym yc] 37)) v' w1') :=
            fun ty => run_ex_push wr WA W3.heap.size d ty (.slice oa k oc) _ (es[k].ren mk) fp _ _ _ _ _ _ HROW.out hb2 HZ3r.out (ht.kept hba.size fun b hb => hba.block b (hfp.2 b hb).2) (hfp.mono (Nat.le_refl _) hba.size) (by simp [Value.oneCell']) (by rw [Ex.rens_length, List.length_take]; omega)
          have y0 : WA.cell? ⟨w'.heap.size, 0, none⟩ = some (.int .i64 yk) := by rw [hWA]; exact (BoxAt.new w' #[.int .i64 yk, .string ynm, .int .i64 yn, .int .i64 ytk, .slice yta ytn ytc, .slice ya ym yc] 37).2 0
          have y1 : WA.cell? ⟨w'.heap.size, 1, none⟩ = some (.string ynm) := by rw [hWA]; exact (BoxAt.new w' #[.int .i64 yk, .string ynm, .int .i64 yn, .int .i64 ytk, .slice yta ytn ytc, .slice ya ym yc] 37).2 1
          have y2 : WA.cell? ⟨w'.heap.size, 2, none⟩ = some (.int .i64 yn) := by rw [hWA]; exact (BoxAt.new w' #[.int .i64 yk, .string ynm, .int .i64 yn, .int .i64 ytk, .slice yta ytn ytc, .slice ya ym yc] 37).2 2
          have y3 : WA.cell? ⟨w'.heap.size, 3, none⟩ = some (.int .i64 ytk) := by rw [hWA]; exact (BoxAt.new w' #[.int .i64 yk, .string ynm, .int .i64 yn, .int .i64 ytk, .slice yta ytn ytc, .slice ya ym yc] 37).2 3
          have y4 : WA.cell? ⟨w'.heap.size, 4, none⟩ = some (.slice yta ytn ytc) := by rw [hWA]; exact (BoxAt.new w' #[.int .i64 yk, .string ynm, .int .i64 yn, .int .i64 ytk, .slice yta ytn ytc, .slice ya ym yc] 37).2 4
          have y5 : WA.cell? ⟨w'.heap.size, 5, none⟩ = some (.slice ya ym yc) := by rw [hWA]; exact (BoxAt.new w' #[.int .i64 yk, .string ynm, .int .i64 yn, .int .i64 ytk, .slice yta ytn ytc, .slice ya ym yc] 37).2 5
          have o5 := (XP.out.below hb2).2 5
          clear ht hfp hb1 hba hb2
          go_upto_region 9 with fail
          rw [← hWA]
          clear hWA
          go_wp2_with (at_builtin; go_loud (refine wpList_app_by rfl (.tmp 43) (.tmp 45) 35 rfl (.slice oa k oc) (.slice (some ⟨WA.heap.size, 0, none⟩) 1 1) rfl rfl (HR.out _) ?_; rintro v5 w5 ⟨g, gc, rfl, hg5, hrow5, hb5⟩; refine Hid.out ?_))
          refine Lib.hid ?_
          rw [Ex.rens_length, List.length_take, Nat.min_eq_left hk] at *
          have hp3 := HPW.out
          have HB5 : Hid (Below W3.heap.size WA w5) := ((Below.refl _ _).alloc (by have := HB2.out.size; have := HZ3r.out; omega) _).trans hb5
          have HBR : Hid (Below W3.heap.size wr w5) := (HB2.out.mono HZ3r.out).trans HB5.out
          have hz5 := HBR.out.size
          have KP : Hid (∀ b, b < W3.heap.size → w5.heap[b]? = wr.heap[b]?) := fun b hb => HBR.out.block b hb
          have XP5 : Hid (BoxAt w5 w1.heap.size #[.int .i64 kd, .string nm, .int .i64 N', .int .i64 zk, .slice za zn zc, .slice oa k oc]) := XP.out.kept hz5 (KP.out _ hp3)
          have XF5 : Hid (FreeAt w5 w1.heap.size) := ⟨XP5.out.1, fun j => (World.frozen?_of_block (a := ⟨w1.heap.size, j, none⟩) (KP.out _ hp3)).trans (XF.out.2 j)⟩
          have HT5 : Hid (TyOwn w5 d (.agg #[.int .i64 zk, .slice za zn zc]) ty f1) := HT.out.kept hz5 fun b hb => KP.out b (by have := (HF1.out.2 b hb).2; omega)
          have HR5 := Lib.hid hrow5
          have HG5 := Lib.hid hg5
          have HBW5 : Hid (Below W.heap.size W w5) := HBW.out.trans (HBR.out.mono (by have := B1.out.size; omega))
          have k5 := XP5.out.2 5
          have z5 := XF5.out.2 5
          have HZ5 : Hid (W3.heap.size ≤ w5.heap.size) := by have := HZ3r.out; show _ ≤ _; omega
          clear hrow5 hg5 hb5 o5 y0 y1 y2 y3 y4 y5
          go_wp2_with fail
          refine ⟨⟨k + 1, .slice (some ⟨g, 0, none⟩) (k + 1) gc, by omega, by go_num, ?_, XP5.out.put (j := 5) (u := .slice (some ⟨g, 0, none⟩) (k + 1) gc) (by simp), XF5.out.put, ?_, (fun j e => by simp [Value.ownBlock] at e; have := HG5.out; have := B1.out.size; omega), HT5.out.kept (by simp) (fun b hb => heap_setCell_other _ _ _ _ (fun e => by have e2 : b = w1.heap.size := e; have := (HF1.out.2 b hb).2; omega)), by simpa using HZ5.out, HBW5.out.setCell (by have := B1.out.size; exact this) _⟩, by simp [intOf]; omega⟩
          · rw [HMK.out, Ex.holess_take es k hlt]; simp; omega
          · rw [Ex.rens_take es m1 k hlt, ← HMK.out]
            exact Or.inl (HR5.out.stored (by omega) _)
        · obtain rfl : k = es.length := by omega
          have XRr := Lib.hid (XR.out.below HBW.out)
          have FRr := Lib.hid (FR.out.below HBW.out)
          obtain ⟨o0, o1, o2, o3, o4, o5⟩ := box_six XP.out
          obtain ⟨r0, r1, r2, r3, r4, r5⟩ := box_six XRr.out
          obtain ⟨s0, s1, s2, s3, s4, s5⟩ := free_six FRr.out
          have hlw : w.heap.size + 1 < W.heap.size := by have := HWS.out; omega
          have hlw3 : w.heap.size + 1 < W3.heap.size := by have := HZ3.out; have := HZW1.out; omega
          have HVN2 : Hid ((Value.slice oa es.length oc).ownBlock ≠ some (w.heap.size + 1)) := fun e => by
            have := (HVN.out _ e).1; omega
          go_wp2_with fail
          have hRF : BoxAt ((((((wr.setCell ⟨w.heap.size + 1, 0, none⟩ (.int .i64 kd)).setCell ⟨w.heap.size + 1, 1, none⟩ (.string nm)).setCell ⟨w.heap.size + 1, 2, none⟩ (.int .i64 N')).setCell ⟨w.heap.size + 1, 3, none⟩ (.int .i64 zk)).setCell ⟨w.heap.size + 1, 4, none⟩ (.slice za zn zc)).setCell ⟨w.heap.size + 1, 5, none⟩ (.slice oa es.length oc)) (w.heap.size + 1) #[.int .i64 kd, .string nm, .int .i64 N', .int .i64 zk, .slice za zn zc, .slice oa es.length oc] := by
            have := ((((((XRr.out.put (j := 0) (u := .int .i64 kd) (by simp)).put (j := 1) (u := .string nm) (by simp)).put (j := 2) (u := .int .i64 N') (by simp)).put (j := 3) (u := .int .i64 zk) (by simp)).put (j := 4) (u := .slice za zn zc) (by simp)).put (j := 5) (u := .slice oa es.length oc) (by simp))
            exact this
          have HRWF : RowOk ((((((wr.setCell ⟨w.heap.size + 1, 0, none⟩ (.int .i64 kd)).setCell ⟨w.heap.size + 1, 1, none⟩ (.string nm)).setCell ⟨w.heap.size + 1, 2, none⟩ (.int .i64 N')).setCell ⟨w.heap.size + 1, 3, none⟩ (.int .i64 zk)).setCell ⟨w.heap.size + 1, 4, none⟩ (.slice za zn zc)).setCell ⟨w.heap.size + 1, 5, none⟩ (.slice oa es.length oc)) W3.heap.size d (.slice oa es.length oc) (Ex.rens es m1) := by
            have := ((((((HROW.out.stored (p := w.heap.size + 1) (o := 0) hlw3 HVN2.out (.int .i64 kd)).stored (p := w.heap.size + 1) (o := 1) hlw3 HVN2.out (.string nm)).stored (p := w.heap.size + 1) (o := 2) hlw3 HVN2.out (.int .i64 N')).stored (p := w.heap.size + 1) (o := 3) hlw3 HVN2.out (.int .i64 zk)).stored (p := w.heap.size + 1) (o := 4) hlw3 HVN2.out (.slice za zn zc)).stored (p := w.heap.size + 1) (o := 5) hlw3 HVN2.out (.slice oa es.length oc))
            rw [List.take_length] at this
            exact this
          have hTF : TyOwn ((((((wr.setCell ⟨w.heap.size + 1, 0, none⟩ (.int .i64 kd)).setCell ⟨w.heap.size + 1, 1, none⟩ (.string nm)).setCell ⟨w.heap.size + 1, 2, none⟩ (.int .i64 N')).setCell ⟨w.heap.size + 1, 3, none⟩ (.int .i64 zk)).setCell ⟨w.heap.size + 1, 4, none⟩ (.slice za zn zc)).setCell ⟨w.heap.size + 1, 5, none⟩ (.slice oa es.length oc)) d (.agg #[.int .i64 zk, .slice za zn zc]) ty f1 := HT.out.kept (by simp) fun b hb => by
            have h1 := (HF1.out.2 b hb).1
            rw [World.size_alloc] at h1
            rw [heap_setCell_other _ _ _ _ (by simp; omega), heap_setCell_other _ _ _ _ (by simp; omega), heap_setCell_other _ _ _ _ (by simp; omega), heap_setCell_other _ _ _ _ (by simp; omega), heap_setCell_other _ _ _ _ (by simp; omega), heap_setCell_other _ _ _ _ (by simp; omega)]
          have hBF : Below w.heap.size w ((((((wr.setCell ⟨w.heap.size + 1, 0, none⟩ (.int .i64 kd)).setCell ⟨w.heap.size + 1, 1, none⟩ (.string nm)).setCell ⟨w.heap.size + 1, 2, none⟩ (.int .i64 N')).setCell ⟨w.heap.size + 1, 3, none⟩ (.int .i64 zk)).setCell ⟨w.heap.size + 1, 4, none⟩ (.slice za zn zc)).setCell ⟨w.heap.size + 1, 5, none⟩ (.slice oa es.length oc)) := ((((((HBB.out.setCell (by simp) _).setCell (by simp) _).setCell (by simp) _).setCell (by simp) _).setCell (by simp) _).setCell (by simp) _)
          have hzF : W3.heap.size ≤ ((((((wr.setCell ⟨w.heap.size + 1, 0, none⟩ (.int .i64 kd)).setCell ⟨w.heap.size + 1, 1, none⟩ (.string nm)).setCell ⟨w.heap.size + 1, 2, none⟩ (.int .i64 N')).setCell ⟨w.heap.size + 1, 3, none⟩ (.int .i64 zk)).setCell ⟨w.heap.size + 1, 4, none⟩ (.slice za zn zc)).setCell ⟨w.heap.size + 1, 5, none⟩ (.slice oa es.length oc)).heap.size := by simpa using HZ3r.out
          obtain ⟨fp, hown, hfp⟩ := HRWF.tree kd nm N' ty f1 hk0 hk1 HN'.out.1 HN'.out.2 hnm hTF (base := w.heap.size) (HF1.out.mono (by simp; have := BW.out.size; omega) (by have := HZ3.out; omega)) (by omega) hzF
          have g0 := hRF.2 0
          have g1 := hRF.2 1
          have g2 := hRF.2 2
          have g3 := hRF.2 3
          have g4 := hRF.2 4
          have g5 := hRF.2 5
          clear hRF HRWF hTF
          generalize ((((((wr.setCell ⟨w.heap.size + 1, 0, none⟩ (.int .i64 kd)).setCell ⟨w.heap.size + 1, 1, none⟩ (.string nm)).setCell ⟨w.heap.size + 1, 2, none⟩ (.int .i64 N')).setCell ⟨w.heap.size + 1, 3, none⟩ (.int .i64 zk)).setCell ⟨w.heap.size + 1, 4, none⟩ (.slice za zn zc)).setCell ⟨w.heap.size + 1, 5, none⟩ (.slice oa es.length oc)) = WX at g0 g1 g2 g3 g4 g5 hown hfp hBF ⊢
          refine bodyPost_ret (v := .tuple #[.agg #[.int .i64 kd, .string nm, .int .i64 N', .int .i64 zk, .slice za zn zc, .slice oa es.length oc], .int .i64 (m1 + ((Ex.holess (es.take es.length)).length : Int))]) (by simp [results, Try.results73, go_sem, g0, g1, g2, g3, g4, g5]) rfl ?_
          unfold NumberEnd
          rw [HREN.out, ← HCNT.out, List.take_length]
          exact ⟨_, fp, rfl, hown, hfp, hBF⟩
    · have q1 : (kd == 1) = false := by simp [q.1]
      have q2 : (kd == 14) = false := by simp [q.2]
      have e4 : W4 = W3 := by rw [hW4, if_neg (by omega)]
      have e1 : m1 = m := by rw [hm1, if_neg (by omega)]
      clear hW4 hm1 hN' q
      subst e1
      go_wp2_with fail
      rw [show W3 = W4 from e4.symm]
      clear e4 q1 q2 o2 z2 b0
      go_loopw [1, 7] (fun mm i wr => ∃ (k : Nat) (vo : Value), k ≤ es.length ∧ i = .int .i64 k ∧ mm = .int .i64 (m1 + ((Ex.holess (es.take k)).length : Int)) ∧ BoxAt wr w1.heap.size #[.int .i64 kd, .string nm, .int .i64 N', .int .i64 zk, .slice za zn zc, vo] ∧ FreeAt wr w1.heap.size ∧ RowOk wr W3.heap.size d vo (Ex.rens (es.take k) m1) ∧ (∀ j, vo.ownBlock = some j → W.heap.size ≤ j ∧ j ≠ w1.heap.size) ∧ TyOwn wr d (.agg #[.int .i64 zk, .slice za zn zc]) ty f1 ∧ W3.heap.size ≤ wr.heap.size ∧ Below W.heap.size W wr) (fun _ i _ => es.length - (intOf i).toNat)
      case atStart => exact ⟨0, _, by omega, rfl, by simp [Ex.holess], XO4.out, FO4.out, by simpa [Ex.rens] using HRW4.out, (fun j e => by simp [Value.ownBlock] at e; exact ⟨by omega, fun h => HNE.out (by omega)⟩), HY4.out, by have := HZ4.out; omega, HB4.out⟩
      case round =>
        obtain ⟨k, vo, hk, rfl, rfl, hxp, hfp, hrow, hvn, hty, hz3, hb⟩ := hrel
        obtain ⟨oa, oc, hvo⟩ := hrow.form
        rw [Ex.rens_length, List.length_take, Nat.min_eq_left hk] at hvo
        subst hvo
        have HROW := Lib.hid hrow; clear hrow
        have XP := Lib.hid hxp; clear hxp
        have XF := Lib.hid hfp; clear hfp
        have HT := Lib.hid hty; clear hty
        have HVN := Lib.hid hvn; clear hvn
        have HBW := Lib.hid hb
        have HBB := Lib.hid (BW.out.trans (hb.mono BW.out.size)); clear hb
        have HZ3r := Lib.hid hz3; clear hz3
        have b5 := (XB.out.below HBW.out).2 5
        by_cases hlt : k < es.length
        · obtain ⟨b, off, x0, x1, x2, x3, x4, x5, rfl, hbl, hc0, hc1, hc2, hc3, hc4, hc5, ht⟩ := HAT.out k hlt
          obtain ⟨xk, xnm, xn, xtk, xta, xtn, xtc, xa, xm, xc, rfl, rfl, rfl, rfl, rfl, rfl⟩ := ex_cells ht
          have hg := Ex.bulk_get es k hlt
          have hzk : es[k].bulk ≤ 1048576 := by have := HSZ.out.1; omega
          have e0 : wr.cell? ⟨b, off + k * 6, none⟩ = some (.int .i64 xk) := by rw [HBB.out.cell (p := ⟨b, off + k * 6, none⟩) hbl]; exact hc0
          have e1 : wr.cell? ⟨b, off + k * 6 + 1, none⟩ = some (.string xnm) := by rw [HBB.out.cell (p := ⟨b, off + k * 6 + 1, none⟩) hbl]; exact hc1
          have e2 : wr.cell? ⟨b, off + k * 6 + 2, none⟩ = some (.int .i64 xn) := by rw [HBB.out.cell (p := ⟨b, off + k * 6 + 2, none⟩) hbl]; exact hc2
          have e3 : wr.cell? ⟨b, off + k * 6 + 3, none⟩ = some (.int .i64 xtk) := by rw [HBB.out.cell (p := ⟨b, off + k * 6 + 3, none⟩) hbl]; exact hc3
          have e4 : wr.cell? ⟨b, off + k * 6 + 4, none⟩ = some (.slice xta xtn xtc) := by rw [HBB.out.cell (p := ⟨b, off + k * 6 + 4, none⟩) hbl]; exact hc4
          have e5 : wr.cell? ⟨b, off + k * 6 + 5, none⟩ = some (.slice xa xm xc) := by rw [HBB.out.cell (p := ⟨b, off + k * 6 + 5, none⟩) hbl]; exact hc5
          have HTE := Lib.hid (ht.below HBB.out)
          obtain ⟨mk, hmk⟩ : ∃ mk : Int, mk = m1 + ((Ex.holess (es.take k)).length : Int) := ⟨_, rfl⟩
          have hmk0 : 0 ≤ mk := by have := HM1.out.1; omega
          have hmk1 : mk + es[k].bulk ≤ 4194304 := by
            have h1 := Ex.holess_few (es.take k)
            have h2 := Ex.bulks_take es k hlt
            have h3 := Ex.bulks_le es (k + 1)
            have h4 := HSZ.out.2
            have h5 := HM1.out.2
            omega
          rw [← hmk]
          have HMK := Lib.hid hmk; clear hmk
          have HMK1 : Hid (mk ≤ 4194304) := by show _ ≤ _; omega
          clear ht hc0 hc1 hc2 hc3 hc4 hc5 hg
          go_wp2_with fail
          clear e0 e1 e2 e3 e4 e5 b5
          refine (IH.out _ es[k] mk _ hzk hmk0 hmk1 HTE.out).mono ?_
          rintro e w' ⟨v2, fp, rfl, ht, hfp, hb1⟩
          obtain ⟨yk, ynm, yn, ytk, yta, ytn, ytc, ya, ym, yc, rfl⟩ := ex_parts ht.at_
          obtain ⟨WA, hWA⟩ : ∃ WA, WA = w'.alloc (.cells #[.int .i64 yk, .string ynm, .int .i64 yn, .int .i64 ytk, .slice yta ytn ytc, .slice ya ym yc] 37) := ⟨_, rfl⟩
          have hba : Below w'.heap.size w' WA := by rw [hWA]; exact below_alloc _ _
          have hb2 : Below wr.heap.size wr WA := hb1.trans (hba.mono hb1.size)
          have HB2 := Lib.hid hb2
          have HR : Hid (∀ ty, ∃ v' w1', (Builtin.append_ #[35, 35] ty #[.slice oa k oc, .slice (some ⟨WA.heap.size, 0, none⟩) 1 1]).run Try.prog (WA.alloc (.cells #[.int .i64 yk, .string ynm, .int .i64 yn, .int .i64 ytk, .slice yta ytn ytc, .slice ya ym yc] 37)) = .ok v' w1' ∧ Pushed1 W3.heap.size d (Ex.rens (es.take k) m1) (es[k].ren mk) (WA.alloc (.cells #[.int .i64 yk, .string ynm, .int .i64 yn, .int .i64 ytk, .slice yta ytn ytc, .slice ya ym yc] 37)) v' w1') :=
            fun ty => run_ex_push wr WA W3.heap.size d ty (.slice oa k oc) _ (es[k].ren mk) fp _ _ _ _ _ _ HROW.out hb2 HZ3r.out (ht.kept hba.size fun b hb => hba.block b (hfp.2 b hb).2) (hfp.mono (Nat.le_refl _) hba.size) (by simp [Value.oneCell']) (by rw [Ex.rens_length, List.length_take]; omega)
          have y0 : WA.cell? ⟨w'.heap.size, 0, none⟩ = some (.int .i64 yk) := by rw [hWA]; exact (BoxAt.new w' #[.int .i64 yk, .string ynm, .int .i64 yn, .int .i64 ytk, .slice yta ytn ytc, .slice ya ym yc] 37).2 0
          have y1 : WA.cell? ⟨w'.heap.size, 1, none⟩ = some (.string ynm) := by rw [hWA]; exact (BoxAt.new w' #[.int .i64 yk, .string ynm, .int .i64 yn, .int .i64 ytk, .slice yta ytn ytc, .slice ya ym yc] 37).2 1
          have y2 : WA.cell? ⟨w'.heap.size, 2, none⟩ = some (.int .i64 yn) := by rw [hWA]; exact (BoxAt.new w' #[.int .i64 yk, .string ynm, .int .i64 yn, .int .i64 ytk, .slice yta ytn ytc, .slice ya ym yc] 37).2 2
          have y3 : WA.cell? ⟨w'.heap.size, 3, none⟩ = some (.int .i64 ytk) := by rw [hWA]; exact (BoxAt.new w' #[.int .i64 yk, .string ynm, .int .i64 yn, .int .i64 ytk, .slice yta ytn ytc, .slice ya ym yc] 37).2 3
          have y4 : WA.cell? ⟨w'.heap.size, 4, none⟩ = some (.slice yta ytn ytc) := by rw [hWA]; exact (BoxAt.new w' #[.int .i64 yk, .string ynm, .int .i64 yn, .int .i64 ytk, .slice yta ytn ytc, .slice ya ym yc] 37).2 4
          have y5 : WA.cell? ⟨w'.heap.size, 5, none⟩ = some (.slice ya ym yc) := by rw [hWA]; exact (BoxAt.new w' #[.int .i64 yk, .string ynm, .int .i64 yn, .int .i64 ytk, .slice yta ytn ytc, .slice ya ym yc] 37).2 5
          have o5 := (XP.out.below hb2).2 5
          clear ht hfp hb1 hba hb2
          go_upto_region 9 with fail
          rw [← hWA]
          clear hWA
          go_wp2_with (at_builtin; go_loud (refine wpList_app_by rfl (.tmp 43) (.tmp 45) 35 rfl (.slice oa k oc) (.slice (some ⟨WA.heap.size, 0, none⟩) 1 1) rfl rfl (HR.out _) ?_; rintro v5 w5 ⟨g, gc, rfl, hg5, hrow5, hb5⟩; refine Hid.out ?_))
          refine Lib.hid ?_
          rw [Ex.rens_length, List.length_take, Nat.min_eq_left hk] at *
          have hp3 := HPW.out
          have HB5 : Hid (Below W3.heap.size WA w5) := ((Below.refl _ _).alloc (by have := HB2.out.size; have := HZ3r.out; omega) _).trans hb5
          have HBR : Hid (Below W3.heap.size wr w5) := (HB2.out.mono HZ3r.out).trans HB5.out
          have hz5 := HBR.out.size
          have KP : Hid (∀ b, b < W3.heap.size → w5.heap[b]? = wr.heap[b]?) := fun b hb => HBR.out.block b hb
          have XP5 : Hid (BoxAt w5 w1.heap.size #[.int .i64 kd, .string nm, .int .i64 N', .int .i64 zk, .slice za zn zc, .slice oa k oc]) := XP.out.kept hz5 (KP.out _ hp3)
          have XF5 : Hid (FreeAt w5 w1.heap.size) := ⟨XP5.out.1, fun j => (World.frozen?_of_block (a := ⟨w1.heap.size, j, none⟩) (KP.out _ hp3)).trans (XF.out.2 j)⟩
          have HT5 : Hid (TyOwn w5 d (.agg #[.int .i64 zk, .slice za zn zc]) ty f1) := HT.out.kept hz5 fun b hb => KP.out b (by have := (HF1.out.2 b hb).2; omega)
          have HR5 := Lib.hid hrow5
          have HG5 := Lib.hid hg5
          have HBW5 : Hid (Below W.heap.size W w5) := HBW.out.trans (HBR.out.mono (by have := B1.out.size; omega))
          have k5 := XP5.out.2 5
          have z5 := XF5.out.2 5
          have HZ5 : Hid (W3.heap.size ≤ w5.heap.size) := by have := HZ3r.out; show _ ≤ _; omega
          clear hrow5 hg5 hb5 o5 y0 y1 y2 y3 y4 y5
          go_wp2_with fail
          refine ⟨⟨k + 1, .slice (some ⟨g, 0, none⟩) (k + 1) gc, by omega, by go_num, ?_, XP5.out.put (j := 5) (u := .slice (some ⟨g, 0, none⟩) (k + 1) gc) (by simp), XF5.out.put, ?_, (fun j e => by simp [Value.ownBlock] at e; have := HG5.out; have := B1.out.size; omega), HT5.out.kept (by simp) (fun b hb => heap_setCell_other _ _ _ _ (fun e => by have e2 : b = w1.heap.size := e; have := (HF1.out.2 b hb).2; omega)), by simpa using HZ5.out, HBW5.out.setCell (by have := B1.out.size; exact this) _⟩, by simp [intOf]; omega⟩
          · rw [HMK.out, Ex.holess_take es k hlt]; simp; omega
          · rw [Ex.rens_take es m1 k hlt, ← HMK.out]
            exact Or.inl (HR5.out.stored (by omega) _)
        · obtain rfl : k = es.length := by omega
          have XRr := Lib.hid (XR.out.below HBW.out)
          have FRr := Lib.hid (FR.out.below HBW.out)
          obtain ⟨o0, o1, o2, o3, o4, o5⟩ := box_six XP.out
          obtain ⟨r0, r1, r2, r3, r4, r5⟩ := box_six XRr.out
          obtain ⟨s0, s1, s2, s3, s4, s5⟩ := free_six FRr.out
          have hlw : w.heap.size + 1 < W.heap.size := by have := HWS.out; omega
          have hlw3 : w.heap.size + 1 < W3.heap.size := by have := HZ3.out; have := HZW1.out; omega
          have HVN2 : Hid ((Value.slice oa es.length oc).ownBlock ≠ some (w.heap.size + 1)) := fun e => by
            have := (HVN.out _ e).1; omega
          go_wp2_with fail
          have hRF : BoxAt ((((((wr.setCell ⟨w.heap.size + 1, 0, none⟩ (.int .i64 kd)).setCell ⟨w.heap.size + 1, 1, none⟩ (.string nm)).setCell ⟨w.heap.size + 1, 2, none⟩ (.int .i64 N')).setCell ⟨w.heap.size + 1, 3, none⟩ (.int .i64 zk)).setCell ⟨w.heap.size + 1, 4, none⟩ (.slice za zn zc)).setCell ⟨w.heap.size + 1, 5, none⟩ (.slice oa es.length oc)) (w.heap.size + 1) #[.int .i64 kd, .string nm, .int .i64 N', .int .i64 zk, .slice za zn zc, .slice oa es.length oc] := by
            have := ((((((XRr.out.put (j := 0) (u := .int .i64 kd) (by simp)).put (j := 1) (u := .string nm) (by simp)).put (j := 2) (u := .int .i64 N') (by simp)).put (j := 3) (u := .int .i64 zk) (by simp)).put (j := 4) (u := .slice za zn zc) (by simp)).put (j := 5) (u := .slice oa es.length oc) (by simp))
            exact this
          have HRWF : RowOk ((((((wr.setCell ⟨w.heap.size + 1, 0, none⟩ (.int .i64 kd)).setCell ⟨w.heap.size + 1, 1, none⟩ (.string nm)).setCell ⟨w.heap.size + 1, 2, none⟩ (.int .i64 N')).setCell ⟨w.heap.size + 1, 3, none⟩ (.int .i64 zk)).setCell ⟨w.heap.size + 1, 4, none⟩ (.slice za zn zc)).setCell ⟨w.heap.size + 1, 5, none⟩ (.slice oa es.length oc)) W3.heap.size d (.slice oa es.length oc) (Ex.rens es m1) := by
            have := ((((((HROW.out.stored (p := w.heap.size + 1) (o := 0) hlw3 HVN2.out (.int .i64 kd)).stored (p := w.heap.size + 1) (o := 1) hlw3 HVN2.out (.string nm)).stored (p := w.heap.size + 1) (o := 2) hlw3 HVN2.out (.int .i64 N')).stored (p := w.heap.size + 1) (o := 3) hlw3 HVN2.out (.int .i64 zk)).stored (p := w.heap.size + 1) (o := 4) hlw3 HVN2.out (.slice za zn zc)).stored (p := w.heap.size + 1) (o := 5) hlw3 HVN2.out (.slice oa es.length oc))
            rw [List.take_length] at this
            exact this
          have hTF : TyOwn ((((((wr.setCell ⟨w.heap.size + 1, 0, none⟩ (.int .i64 kd)).setCell ⟨w.heap.size + 1, 1, none⟩ (.string nm)).setCell ⟨w.heap.size + 1, 2, none⟩ (.int .i64 N')).setCell ⟨w.heap.size + 1, 3, none⟩ (.int .i64 zk)).setCell ⟨w.heap.size + 1, 4, none⟩ (.slice za zn zc)).setCell ⟨w.heap.size + 1, 5, none⟩ (.slice oa es.length oc)) d (.agg #[.int .i64 zk, .slice za zn zc]) ty f1 := HT.out.kept (by simp) fun b hb => by
            have h1 := (HF1.out.2 b hb).1
            rw [World.size_alloc] at h1
            rw [heap_setCell_other _ _ _ _ (by simp; omega), heap_setCell_other _ _ _ _ (by simp; omega), heap_setCell_other _ _ _ _ (by simp; omega), heap_setCell_other _ _ _ _ (by simp; omega), heap_setCell_other _ _ _ _ (by simp; omega), heap_setCell_other _ _ _ _ (by simp; omega)]
          have hBF : Below w.heap.size w ((((((wr.setCell ⟨w.heap.size + 1, 0, none⟩ (.int .i64 kd)).setCell ⟨w.heap.size + 1, 1, none⟩ (.string nm)).setCell ⟨w.heap.size + 1, 2, none⟩ (.int .i64 N')).setCell ⟨w.heap.size + 1, 3, none⟩ (.int .i64 zk)).setCell ⟨w.heap.size + 1, 4, none⟩ (.slice za zn zc)).setCell ⟨w.heap.size + 1, 5, none⟩ (.slice oa es.length oc)) := ((((((HBB.out.setCell (by simp) _).setCell (by simp) _).setCell (by simp) _).setCell (by simp) _).setCell (by simp) _).setCell (by simp) _)
          have hzF : W3.heap.size ≤ ((((((wr.setCell ⟨w.heap.size + 1, 0, none⟩ (.int .i64 kd)).setCell ⟨w.heap.size + 1, 1, none⟩ (.string nm)).setCell ⟨w.heap.size + 1, 2, none⟩ (.int .i64 N')).setCell ⟨w.heap.size + 1, 3, none⟩ (.int .i64 zk)).setCell ⟨w.heap.size + 1, 4, none⟩ (.slice za zn zc)).setCell ⟨w.heap.size + 1, 5, none⟩ (.slice oa es.length oc)).heap.size := by simpa using HZ3r.out
          obtain ⟨fp, hown, hfp⟩ := HRWF.tree kd nm N' ty f1 hk0 hk1 HN'.out.1 HN'.out.2 hnm hTF (base := w.heap.size) (HF1.out.mono (by simp; have := BW.out.size; omega) (by have := HZ3.out; omega)) (by omega) hzF
          have g0 := hRF.2 0
          have g1 := hRF.2 1
          have g2 := hRF.2 2
          have g3 := hRF.2 3
          have g4 := hRF.2 4
          have g5 := hRF.2 5
          clear hRF HRWF hTF
          generalize ((((((wr.setCell ⟨w.heap.size + 1, 0, none⟩ (.int .i64 kd)).setCell ⟨w.heap.size + 1, 1, none⟩ (.string nm)).setCell ⟨w.heap.size + 1, 2, none⟩ (.int .i64 N')).setCell ⟨w.heap.size + 1, 3, none⟩ (.int .i64 zk)).setCell ⟨w.heap.size + 1, 4, none⟩ (.slice za zn zc)).setCell ⟨w.heap.size + 1, 5, none⟩ (.slice oa es.length oc)) = WX at g0 g1 g2 g3 g4 g5 hown hfp hBF ⊢
          refine bodyPost_ret (v := .tuple #[.agg #[.int .i64 kd, .string nm, .int .i64 N', .int .i64 zk, .slice za zn zc, .slice oa es.length oc], .int .i64 (m1 + ((Ex.holess (es.take es.length)).length : Int))]) (by simp [results, Try.results73, go_sem, g0, g1, g2, g3, g4, g5]) rfl ?_
          unfold NumberEnd
          rw [HREN.out, ← HCNT.out, List.take_length]
          exact ⟨_, fp, rfl, hown, hfp, hBF⟩
end Go.Proofs.Ytimigpdbegfjaaa
