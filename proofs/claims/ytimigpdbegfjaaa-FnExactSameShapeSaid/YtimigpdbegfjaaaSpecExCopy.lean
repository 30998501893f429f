/-
  Proved: spec.l6Copy copies an expression into new memory; it leaves the memory that was there as it was.
-/
import Derived.Test.YtimigpdbegfjaaaExRow
import Derived.Test.YtimigpdbegfjaaaSpecCopy
import Derived.Deep.DeepCutAuto
import Derived.Deep.RegionHeld3
namespace Go.Proofs.Ytimigpdbegfjaaa
open Go.RowKit

theorem box_five {w : World} {p : Nat} {c0 c1 c2 c3 c4 c5 : Value} (h : BoxAt w p #[c0, c1, c2, c3, c4, c5]) : w.cell? ⟨p, 0, none⟩ = some c0 ∧ w.cell? ⟨p, 1, none⟩ = some c1 ∧ w.cell? ⟨p, 2, none⟩ = some c2 ∧ w.cell? ⟨p, 3, none⟩ = some c3 ∧ w.cell? ⟨p, 4, none⟩ = some c4 := ⟨h.2 0, h.2 1, h.2 2, h.2 3, h.2 4⟩
theorem box_six {w : World} {p : Nat} {c0 c1 c2 c3 c4 c5 : Value} (h : BoxAt w p #[c0, c1, c2, c3, c4, c5]) : w.cell? ⟨p, 0, none⟩ = some c0 ∧ w.cell? ⟨p, 1, none⟩ = some c1 ∧ w.cell? ⟨p, 2, none⟩ = some c2 ∧ w.cell? ⟨p, 3, none⟩ = some c3 ∧ w.cell? ⟨p, 4, none⟩ = some c4 ∧ w.cell? ⟨p, 5, none⟩ = some c5 := ⟨h.2 0, h.2 1, h.2 2, h.2 3, h.2 4, h.2 5⟩
theorem free_six {w : World} {p : Nat} (h : FreeAt w p) : w.frozen? ⟨p, 0, none⟩ = false ∧ w.frozen? ⟨p, 1, none⟩ = false ∧ w.frozen? ⟨p, 2, none⟩ = false ∧ w.frozen? ⟨p, 3, none⟩ = false ∧ w.frozen? ⟨p, 4, none⟩ = false ∧ w.frozen? ⟨p, 5, none⟩ = false := ⟨h.2 0, h.2 1, h.2 2, h.2 3, h.2 4, h.2 5⟩
/-- The new node, without its parts, all of it made since W. -/
def OutAt (W : World) (d : Nat) (kd : Int) (nm : ByteArray) (n : Int) (ty : Ty) (s : Value) (wx : World) : Prop :=
  ∃ p zk za zn zc f1, s = .pointer (some ⟨p, 0, none⟩) ∧ W.heap.size ≤ p ∧ BoxAt wx p #[.int .i64 kd, .string nm, .int .i64 n, .int .i64 zk, .slice za zn zc, .slice none 0 0] ∧ FreeAt wx p ∧ TyOwn wx d (.agg #[.int .i64 zk, .slice za zn zc]) ty f1 ∧ Fp W.heap.size wx.heap.size f1 ∧ p ∉ f1 ∧ Below W.heap.size W wx
theorem out_new {W w8 : World} {d : Nat} {kd : Int} {nm : ByteArray} {n : Int} {ty : Ty} {zk : Int} {za : Option Addr} {zn zc lo : Nat} {f1 : List Nat} {T : TypeId} (G : Below W.heap.size W w8) (Ht : TyOwn w8 d (.agg #[.int .i64 zk, .slice za zn zc]) ty f1) (Hf : Fp lo w8.heap.size f1) (hlo : W.heap.size ≤ lo) :
    OutAt W d kd nm n ty (.pointer (some ⟨w8.heap.size, 0, none⟩)) (w8.alloc (.cells #[.int .i64 kd, .string nm, .int .i64 n, .int .i64 zk, .slice za zn zc, .slice none 0 0] T)) :=
  ⟨w8.heap.size, zk, za, zn, zc, f1, rfl, G.size, BoxAt.new _ _ _, FreeAt.new _ _ _, Ht.below (below_alloc _ _), Hf.mono hlo (by simp), fun h => Nat.lt_irrefl _ (Hf.2 _ h).2, G.alloc G.size _⟩
theorem out_old {W w8 : World} {d : Nat} {kd : Int} {nm : ByteArray} {n : Int} {ty : Ty} {zk : Int} {za : Option Addr} {zn zc lo p : Nat} {f1 : List Nat} (G : Below W.heap.size W w8) (Ht : TyOwn w8 d (.agg #[.int .i64 zk, .slice za zn zc]) ty f1) (Hf : Fp lo w8.heap.size f1) (hlo : W.heap.size ≤ lo)
    (hP : W.heap.size ≤ p) (hp : p < lo) (X : BoxAt w8 p #[.int .i64 0, .string ⟨#[]⟩, .int .i64 0, .int .i64 0, .slice none 0 0, .slice none 0 0]) (F : FreeAt w8 p) :
    OutAt W d kd nm n ty (.pointer (some ⟨p, 0, none⟩)) ((((((w8.setCell ⟨p, 0, none⟩ (.int .i64 kd)).setCell ⟨p, 1, none⟩ (.string nm)).setCell ⟨p, 2, none⟩ (.int .i64 n)).setCell ⟨p, 3, none⟩ (.int .i64 zk)).setCell ⟨p, 4, none⟩ (.slice za zn zc)).setCell ⟨p, 5, none⟩ (.slice none 0 0)) := by
  refine ⟨p, zk, za, zn, zc, f1, rfl, hP, ?_, F.put.put.put.put.put.put, ?_, Hf.mono hlo (by simp), fun h => by have := (Hf.2 _ h).1; omega, (((((G.setCell hP _).setCell hP _).setCell hP _).setCell hP _).setCell hP _).setCell hP _⟩
  · have h1 := X.put (j := 0) (u := .int .i64 kd) (by simp)
    have h2 := h1.put (j := 1) (u := .string nm) (by simp)
    have h3 := h2.put (j := 2) (u := .int .i64 n) (by simp)
    have h4 := h3.put (j := 3) (u := .int .i64 zk) (by simp)
    have h5 := h4.put (j := 4) (u := .slice za zn zc) (by simp)
    have h6 := h5.put (j := 5) (u := .slice none 0 0) (by simp)
    simpa using h6
  · exact Ht.kept (by simp) fun b hb => by
      have := (Hf.2 b hb).1
      rw [heap_setCell_other _ _ _ _ (by simp; omega), heap_setCell_other _ _ _ _ (by simp; omega), heap_setCell_other _ _ _ _ (by simp; omega), heap_setCell_other _ _ _ _ (by simp; omega), heap_setCell_other _ _ _ _ (by simp; omega), heap_setCell_other _ _ _ _ (by simp; omega)]

set_option maxRecDepth 100000 in
set_option maxHeartbeats 4000000 in
theorem specExCopy : ∀ (d : Nat) (v : Value) (t : Ex) (w : World), t.bulk ≤ 1048576 → ExAt w d v t →
    Calls Try.prog 104 #[v] w (ToExEnd d t w)
  | 0, _, _, _, _, h => h.elim
  | d + 1, v, .node kd nm n ty es, w, hsz, h => by
    have IH : Hid (∀ (v : Value) (t : Ex) (w : World), t.bulk ≤ 1048576 → ExAt w d v t → Calls Try.prog 104 #[v] w (ToExEnd d t w)) := specExCopy d
    obtain ⟨i0, hi, hz0, hz1, hz2⟩ := info_parts info_ex
    have HI := Lib.hid hi
    have HZ0 := Lib.hid hz0
    have HZ1 := Lib.hid hz1
    have HZ2 := Lib.hid hz2
    clear hi hz0 hz1 hz2
    have HV := ex_parts h
    obtain ⟨c3, c4, sl, rfl, hk0, hk1, hn0, hn1, hnm, hty, a, cap, rfl, hcap, hcap2, hat⟩ := h
    obtain ⟨k', nm', n', tk, ta, tn, tc, sa, sn, sc, hv⟩ := HV
    injection hv with hv
    injection hv with hv
    simp at hv
    obtain ⟨rfl, rfl, rfl, rfl, rfl, rfl, rfl, rfl⟩ := hv
    have HAT := Lib.hid hat; clear hat
    have HTY := Lib.hid hty; clear hty
    have hbk : (Ex.node kd nm n ty es).bulk = nm.size + (ty.size - 1) + Ex.bulks es := rfl
    have HSZ : Hid (Ex.bulks es ≤ 1048576) := by show _ ≤ _; omega
    have HTZ : Hid (ty.size ≤ 1048577) := by show _ ≤ _; omega
    have hn2 : es.length ≤ 1048576 := by have := Ex.length_le es; omega
    clear hsz hbk
    obtain ⟨W, hW⟩ : ∃ W, W = (w.alloc (.cells #[.int .i64 kd, .string nm, .int .i64 n, .int .i64 tk, .slice ta tn tc, .slice a es.length cap] 37)).alloc (.cells #[.int .i64 0, .string ⟨#[]⟩, .int .i64 0, .int .i64 0, .slice none 0 0, .slice none 0 0] 37) := ⟨_, rfl⟩
    have XB : Hid (BoxAt W w.heap.size #[.int .i64 kd, .string nm, .int .i64 n, .int .i64 tk, .slice ta tn tc, .slice a es.length cap]) := by
      rw [hW]; exact (BoxAt.new _ _ _).below (below_alloc _ _)
    have BW : Hid (Below w.heap.size w W) := by
      rw [hW]; exact ((Below.refl _ _).alloc (Nat.le_refl _) _).alloc (by simp) _
    have HTW := Lib.hid (HTY.out.below BW.out)
    have hWs : W.heap.size = w.heap.size + 1 + 1 := by rw [hW]; simp
    go_enter Try.func104, Try.ntmps104
    go_upto_region 1 with fail
    go_cut [3] (fun s wx => OutAt W d kd nm n ty s wx)
    case first =>
      rw [← hW]
      have HWS := Lib.hid hWs
      clear hW hWs
      have G := Lib.hid (below_drew W)
      go_region_held3 (fun w' => w'.cell? ⟨w.heap.size, 0, none⟩ = some (.int .i64 kd) ∧ w'.cell? ⟨w.heap.size, 1, none⟩ = some (.string nm) ∧ w'.cell? ⟨w.heap.size, 2, none⟩ = some (.int .i64 n) ∧ w'.cell? ⟨w.heap.size, 3, none⟩ = some (.int .i64 tk) ∧ w'.cell? ⟨w.heap.size, 4, none⟩ = some (.slice ta tn tc)) (refine ⟨(by (repeat (rw [World.cell?_setCell_other _ _ _ _ (by first | (simp; have hws := HWS.out; omega) | simp)])); first | with_reducible exact (box_five (XB.out.below G.out)).1 | with_reducible exact (box_five (XB.out.below (G.out.alloc G.out.size _))).1 | with_reducible exact (box_five (XB.out.below (below_alloc _ _).drew)).1), (by (repeat (rw [World.cell?_setCell_other _ _ _ _ (by first | (simp; have hws := HWS.out; omega) | simp)])); first | with_reducible exact (box_five (XB.out.below G.out)).2.1 | with_reducible exact (box_five (XB.out.below (G.out.alloc G.out.size _))).2.1 | with_reducible exact (box_five (XB.out.below (below_alloc _ _).drew)).2.1), (by (repeat (rw [World.cell?_setCell_other _ _ _ _ (by first | (simp; have hws := HWS.out; omega) | simp)])); first | with_reducible exact (box_five (XB.out.below G.out)).2.2.1 | with_reducible exact (box_five (XB.out.below (G.out.alloc G.out.size _))).2.2.1 | with_reducible exact (box_five (XB.out.below (below_alloc _ _).drew)).2.2.1), (by (repeat (rw [World.cell?_setCell_other _ _ _ _ (by first | (simp; have hws := HWS.out; omega) | simp)])); first | with_reducible exact (box_five (XB.out.below G.out)).2.2.2.1 | with_reducible exact (box_five (XB.out.below (G.out.alloc G.out.size _))).2.2.2.1 | with_reducible exact (box_five (XB.out.below (below_alloc _ _).drew)).2.2.2.1), (by (repeat (rw [World.cell?_setCell_other _ _ _ _ (by first | (simp; have hws := HWS.out; omega) | simp)])); first | with_reducible exact (box_five (XB.out.below G.out)).2.2.2.2 | with_reducible exact (box_five (XB.out.below (G.out.alloc G.out.size _))).2.2.2.2 | with_reducible exact (box_five (XB.out.below (below_alloc _ _).drew)).2.2.2.2)⟩)
        (first
         | (go_at_call 110
            refine (specCopy d _ ty _ HTZ.out ?_).mono ?_
            · first | exact HTW.out.below G.out | exact HTW.out.below (G.out.alloc G.out.size _) | exact HTW.out.below (below_alloc _ _).drew
            rintro e wo ⟨o, fp, rfl, ht, hf, hb⟩
            obtain ⟨zk, za, zn, zc, rfl, HY⟩ := ty_parts ht
            have HF := Lib.hid hf
            clear ht hf
            have hzo := hb.size
            try simp only [World.size_drew] at hzo
            try simp only [World.size_alloc] at hzo
            try simp only [World.size_drew] at hzo
            first
              | (have XO : Hid (BoxAt wo W.heap.size #[.int .i64 0, .string ⟨#[]⟩, .int .i64 0, .int .i64 0, .slice none 0 0, .slice none 0 0]) := Lib.hid ((BoxAt.new _ _ _).below hb)
                 have XF : Hid (FreeAt wo W.heap.size) := Lib.hid ((FreeAt.new _ #[.int .i64 0, .string ⟨#[]⟩, .int .i64 0, .int .i64 0, .slice none 0 0, .slice none 0 0] _).below hb)
                 have G2 := Lib.hid (below_on (G.out.alloc G.out.size _) hb (G.out.alloc G.out.size _).size)
                 clear G
                 have G := G2
                 clear G2
                 obtain ⟨r0, r1, r2, r3, r4, r5⟩ := box_six XO.out
                 obtain ⟨q0, q1, q2, q3, q4, q5⟩ := free_six XF.out)
              | (have XO : Hid (BoxAt wo W.heap.size #[.int .i64 0, .string ⟨#[]⟩, .int .i64 0, .int .i64 0, .slice none 0 0, .slice none 0 0]) := Lib.hid (((BoxAt.new _ _ _).below (below_drew _)).below hb)
                 have XF : Hid (FreeAt wo W.heap.size) := Lib.hid (((FreeAt.new _ #[.int .i64 0, .string ⟨#[]⟩, .int .i64 0, .int .i64 0, .slice none 0 0, .slice none 0 0] _).below (below_drew _)).below hb)
                 have G2 := Lib.hid (below_on (below_alloc W _).drew hb (below_alloc W _).drew.size)
                 clear G
                 have G := G2
                 clear G2
                 obtain ⟨r0, r1, r2, r3, r4, r5⟩ := box_six XO.out
                 obtain ⟨q0, q1, q2, q3, q4, q5⟩ := free_six XF.out)
              | (replace G := Lib.hid (below_on G.out hb G.out.size))
            clear hb))
      all_goals go_wp2_with fail
      all_goals go_meet
      all_goals first | with_reducible refine out_new G.out HY.out HF.out ?_ | with_reducible refine out_old G.out HY.out HF.out ?_ ?_ ?_ XO.out XF.out | trace_state
      all_goals ((try simp only [World.size_drew]); (try simp only [World.size_alloc]); (try simp only [World.size_drew]); omega)
    case rest =>
      obtain ⟨w3, hwc⟩ : ∃ u, u = wc := ⟨_, rfl⟩
      subst hwc
      obtain ⟨p, zk, za, zn, zc, f1, rfl, hp, hX, hF, hT, hFp, hpf, hb⟩ := hcut
      have XR0 : Hid (BoxAt W (w.heap.size + 1) #[.int .i64 0, .string ⟨#[]⟩, .int .i64 0, .int .i64 0, .slice none 0 0, .slice none 0 0]) := by rw [hW]; exact box_at (BoxAt.new _ _ _) (by simp)
      have FR0 : Hid (FreeAt W (w.heap.size + 1)) := by rw [hW]; exact free_at (FreeAt.new _ _ _) (by simp)
      have HFP := Lib.hid hFp
      have HPF := Lib.hid hpf
      have HX3 := Lib.hid hX
      have HF3 := Lib.hid hF
      have HT3 := Lib.hid hT
      have HB3 := Lib.hid hb
      have HWS := Lib.hid hWs
      have HPW := Lib.hid hp
      have HP3 : Hid (p < w3.heap.size) := hX.1
      have HW3 : Hid (W.heap.size ≤ w3.heap.size) := hb.size
      clear hX hF hT hFp hpf hb hW hWs hp
      go_wp2_with fail
      go_loopw [4] (fun i wr => ∃ (k : Nat) (vo : Value), k ≤ es.length ∧ i = .int .i64 k ∧ BoxAt wr p #[.int .i64 kd, .string nm, .int .i64 n, .int .i64 zk, .slice za zn zc, vo] ∧ FreeAt wr p ∧ ExRow wr w3.heap.size d vo (es.take k) ∧ TyOwn wr d (.agg #[.int .i64 zk, .slice za zn zc]) ty f1 ∧ w3.heap.size ≤ wr.heap.size ∧ Below W.heap.size W wr) (fun i _ => es.length - (intOf i).toNat)
      case atStart => exact ⟨0, _, by omega, rfl, HX3.out, HF3.out, ExRow.nil _ _ _, HT3.out, Nat.le_refl _, HB3.out⟩
      case round =>
        obtain ⟨k, vo, hk, rfl, hxp, hfp, hrow, hty, hz3, hb⟩ := hrel
        obtain ⟨oa, oc, hvo⟩ := hrow.form
        rw [List.length_take, Nat.min_eq_left hk] at hvo
        subst hvo
        have HROW := Lib.hid hrow; clear hrow
        have XP := Lib.hid hxp; clear hxp
        have XF := Lib.hid hfp; clear hfp
        have HT := Lib.hid hty; clear hty
        have HBW := Lib.hid hb
        have HBB := Lib.hid (below_thru BW.out (Nat.le_refl _) hb); clear hb
        have HZ3 := Lib.hid hz3; clear hz3
        have b5 := (XB.out.below HBW.out).2 5
        by_cases hlt : k < es.length
        · obtain ⟨b, off, x0, x1, x2, x3, x4, x5, rfl, hbl, hc0, hc1, hc2, hc3, hc4, hc5, ht⟩ := HAT.out k hlt
          have hg := Ex.bulk_get es k hlt
          have hzk : es[k].bulk ≤ 1048576 := by have := HSZ.out; omega
          have e0 : wr.cell? ⟨b, off + k * 6, none⟩ = some x0 := by rw [HBB.out.cell (p := ⟨b, off + k * 6, none⟩) hbl]; exact hc0
          have e1 : wr.cell? ⟨b, off + k * 6 + 1, none⟩ = some x1 := by rw [HBB.out.cell (p := ⟨b, off + k * 6 + 1, none⟩) hbl]; exact hc1
          have e2 : wr.cell? ⟨b, off + k * 6 + 2, none⟩ = some x2 := by rw [HBB.out.cell (p := ⟨b, off + k * 6 + 2, none⟩) hbl]; exact hc2
          have e3 : wr.cell? ⟨b, off + k * 6 + 3, none⟩ = some x3 := by rw [HBB.out.cell (p := ⟨b, off + k * 6 + 3, none⟩) hbl]; exact hc3
          have e4 : wr.cell? ⟨b, off + k * 6 + 4, none⟩ = some x4 := by rw [HBB.out.cell (p := ⟨b, off + k * 6 + 4, none⟩) hbl]; exact hc4
          have e5 : wr.cell? ⟨b, off + k * 6 + 5, none⟩ = some x5 := by rw [HBB.out.cell (p := ⟨b, off + k * 6 + 5, none⟩) hbl]; exact hc5
          have HTE := Lib.hid ((ht.below HBB.out).below (below_drew wr))
          have o5 := XP.out.2 5
          have z5 := XF.out.2 5
          clear ht hc0 hc1 hc2 hc3 hc4 hc5 hg
          go_wp2_with fail
          go_region_law (first
            | (refine step_append_lies _ (by rfl) (.tmp 23) (.tmp 30) 35 (by rfl) w3.heap.size 37 i0 (.agg #[.int .i64 0, .string ⟨#[]⟩, .int .i64 0, .int .i64 0, .slice none 0 0, .slice none 0 0]) 6 88 Try.underlying35 HI.out HZ0.out HZ1.out HZ2.out rfl (by omega) (.slice oa k oc) k cs (by simp [Act.eval]) (HOWN.out.alloc _) ⟨w'.heap.size, 0, none⟩ 1 1 [.int .i64 yk, .string ynm, .int .i64 yn, .int .i64 ytk, .slice yta ytn ytc, .slice ya ym yc] (by simp [Act.eval]) rfl (World.news_of_block (cs := #[.int .i64 yk, .string ynm, .int .i64 yn, .int .i64 ytk, .slice yta ytn ytc, .slice ya ym yc]) (t := 37) (fr := (0, 0)) (heap_alloc_new w' _)) (by simp [Value.oneCell']) (by omega) (by unfold maxLen; omega) (by omega) (by simp; have h1 := HZ3.out; omega) (w'.heap.size + 1) (by simp) ?_
               intro g gc w1 hown1 hgrow hat1 hlt1
               have hz2 := hgrow.size
               have hz3 := HZ3.out
               have hp3 := HP3.out
               simp only [World.size_alloc] at hz2
               have KP : Hid (∀ b, b < w3.heap.size → w1.heap[b]? = w'.heap[b]?) := fun b hb => by
                 rw [hgrow.block b (by simp; omega) (fun e => by have := (HOWN.out.lt _ e.symm).1; omega), heap_alloc_old _ _ (by omega)]
               have XP1 : Hid (BoxAt w1 p #[.int .i64 kd, .string nm, .int .i64 n, .int .i64 zk, .slice za zn zc, .slice oa k oc]) := XP2.out.kept (by omega) (KP.out p hp3)
               have XF1 : Hid (FreeAt w1 p) := ⟨by omega, fun j => (World.frozen?_of_block (a := ⟨p, j, none⟩) (KP.out p hp3)).trans (XF2.out.2 j)⟩
               have HT1 : Hid (TyOwn w1 d (.agg #[.int .i64 zk, .slice za zn zc]) ty f1) := HT2.out.kept (by omega) fun b hb => KP.out b (HFP.out.2 b hb).2
               have HR1 := Lib.hid (HAPP.out _ g gc w1 hown1 hgrow hat1)
               have HB4 : Hid (Below W.heap.size W w1) := ((HBW.out.trans (HB2.out.mono (by have := HBW.out.size; omega))).alloc (by have := HW3.out; omega) _).grown hgrow (by simp; have := HW3.out; omega) (fun k hk => by have := (HOWN.out.lt _ hk).1; have := HW3.out; omega)
               have k5 := XP1.out.2 5
               have f5 := XF1.out.2 5
               have hz4 : w3.heap.size ≤ w1.heap.size := by omega
               clear hown1 hgrow hat1 hlt1 hz2)
            | (go_simp
               go_at_call 104
               refine (IH.out _ _ _ hzk HTE.out).mono ?_
               rintro e w' ⟨v2, fp, rfl, ht, hfp, hb1⟩
               obtain ⟨yk, ynm, yn, ytk, yta, ytn, ytc, ya, ym, yc, rfl⟩ := ex_parts ht.at_
               have hb2 := below_thru (below_drew wr) (Nat.le_refl _) hb1
               have hz1 := hb2.size
               obtain ⟨cs, hown, happ⟩ := HROW.out.append hb2 HZ3.out ht hfp
               rw [List.length_take, Nat.min_eq_left hk] at hown happ
               have HOWN := Lib.hid hown
               have HAPP := Lib.hid happ
               have HB2 := Lib.hid hb2
               have XP2 := Lib.hid (XP.out.below hb2)
               have XF2 := Lib.hid (XF.out.below hb2)
               have HT2 : Hid (TyOwn w' d (.agg #[.int .i64 zk, .slice za zn zc]) ty f1) := HT.out.kept hz1 fun b hb => hb2.block b (Nat.lt_of_lt_of_le (HFP.out.2 b hb).2 HZ3.out)
               have o5' := XP2.out.2 5
               have o5'' := (XP2.out.below (below_alloc w' (.cells #[.int .i64 yk, .string ynm, .int .i64 yn, .int .i64 ytk, .slice yta ytn ytc, .slice ya ym yc] 37))).2 5
               have z5' := XF2.out.2 5
               have b5' := ((XB.out.below HBW.out).below hb2).2 5
               clear hown happ hb1 hb2 ht hfp))
          all_goals go_wp2_with fail
          all_goals
            exact ⟨⟨k + 1, .slice (some ⟨g, 0, none⟩) (k + 1) gc, by omega, by go_num, XP1.out.put (j := 5) (u := .slice (some ⟨g, 0, none⟩) (k + 1) gc) (by simp), XF1.out.put, by rw [List.take_succ_eq_append_getElem hlt]; exact HR1.out.stored HP3.out _, HT1.out.kept (by simp) (fun b hb => heap_setCell_other _ _ _ _ (fun e => HPF.out (by have e2 : b = p := e; rw [← e2]; exact hb))), by simpa using hz4, HB4.out.setCell HPW.out _⟩, by simp [intOf]; omega⟩
        · obtain rfl : k = es.length := by omega
          have hlw : w.heap.size + 1 < w3.heap.size := by have := HWS.out; have := HW3.out; omega
          have XR := Lib.hid (XR0.out.below HBW.out)
          have FR := Lib.hid (FR0.out.below HBW.out)
          have o0 := XP.out.2 0
          have r0 := XR.out.2 0
          have s0 := FR.out.2 0
          have o1 := XP.out.2 1
          have r1 := XR.out.2 1
          have s1 := FR.out.2 1
          have o2 := XP.out.2 2
          have r2 := XR.out.2 2
          have s2 := FR.out.2 2
          have o3 := XP.out.2 3
          have r3 := XR.out.2 3
          have s3 := FR.out.2 3
          have o4 := XP.out.2 4
          have r4 := XR.out.2 4
          have s4 := FR.out.2 4
          have o5 := XP.out.2 5
          have r5 := XR.out.2 5
          have s5 := FR.out.2 5
          go_wp2_with fail
          have hRF : BoxAt ((((((wr.setCell ⟨w.heap.size + 1, 0, none⟩ (.int .i64 kd)).setCell ⟨w.heap.size + 1, 1, none⟩ (.string nm)).setCell ⟨w.heap.size + 1, 2, none⟩ (.int .i64 n)).setCell ⟨w.heap.size + 1, 3, none⟩ (.int .i64 zk)).setCell ⟨w.heap.size + 1, 4, none⟩ (.slice za zn zc)).setCell ⟨w.heap.size + 1, 5, none⟩ (.slice oa es.length oc)) (w.heap.size + 1) #[.int .i64 kd, .string nm, .int .i64 n, .int .i64 zk, .slice za zn zc, .slice oa es.length oc] := by
            have := ((((((XR.out.put (j := 0) (u := .int .i64 kd) (by simp)).put (j := 1) (u := .string nm) (by simp)).put (j := 2) (u := .int .i64 n) (by simp)).put (j := 3) (u := .int .i64 zk) (by simp)).put (j := 4) (u := .slice za zn zc) (by simp)).put (j := 5) (u := .slice oa es.length oc) (by simp))
            exact this
          have HRW : ExRow ((((((wr.setCell ⟨w.heap.size + 1, 0, none⟩ (.int .i64 kd)).setCell ⟨w.heap.size + 1, 1, none⟩ (.string nm)).setCell ⟨w.heap.size + 1, 2, none⟩ (.int .i64 n)).setCell ⟨w.heap.size + 1, 3, none⟩ (.int .i64 zk)).setCell ⟨w.heap.size + 1, 4, none⟩ (.slice za zn zc)).setCell ⟨w.heap.size + 1, 5, none⟩ (.slice oa es.length oc)) w3.heap.size d (.slice oa es.length oc) es := by
            have := ((((((HROW.out.stored (p := w.heap.size + 1) (o := 0) hlw (.int .i64 kd)).stored (p := w.heap.size + 1) (o := 1) hlw (.string nm)).stored (p := w.heap.size + 1) (o := 2) hlw (.int .i64 n)).stored (p := w.heap.size + 1) (o := 3) hlw (.int .i64 zk)).stored (p := w.heap.size + 1) (o := 4) hlw (.slice za zn zc)).stored (p := w.heap.size + 1) (o := 5) hlw (.slice oa es.length oc))
            rw [List.take_length] at this
            exact this
          have hTF : TyOwn ((((((wr.setCell ⟨w.heap.size + 1, 0, none⟩ (.int .i64 kd)).setCell ⟨w.heap.size + 1, 1, none⟩ (.string nm)).setCell ⟨w.heap.size + 1, 2, none⟩ (.int .i64 n)).setCell ⟨w.heap.size + 1, 3, none⟩ (.int .i64 zk)).setCell ⟨w.heap.size + 1, 4, none⟩ (.slice za zn zc)).setCell ⟨w.heap.size + 1, 5, none⟩ (.slice oa es.length oc)) d (.agg #[.int .i64 zk, .slice za zn zc]) ty f1 := HT.out.kept (by simp) fun b hb => by
            have h1 := (HFP.out.2 b hb).1
            have h2 := HWS.out
            rw [heap_setCell_other _ _ _ _ (by simp; omega), heap_setCell_other _ _ _ _ (by simp; omega), heap_setCell_other _ _ _ _ (by simp; omega), heap_setCell_other _ _ _ _ (by simp; omega), heap_setCell_other _ _ _ _ (by simp; omega), heap_setCell_other _ _ _ _ (by simp; omega)]
          have hBF : Below w.heap.size w ((((((wr.setCell ⟨w.heap.size + 1, 0, none⟩ (.int .i64 kd)).setCell ⟨w.heap.size + 1, 1, none⟩ (.string nm)).setCell ⟨w.heap.size + 1, 2, none⟩ (.int .i64 n)).setCell ⟨w.heap.size + 1, 3, none⟩ (.int .i64 zk)).setCell ⟨w.heap.size + 1, 4, none⟩ (.slice za zn zc)).setCell ⟨w.heap.size + 1, 5, none⟩ (.slice oa es.length oc)) := ((((((HBB.out.setCell (by simp) _).setCell (by simp) _).setCell (by simp) _).setCell (by simp) _).setCell (by simp) _).setCell (by simp) _)
          have hzF : w3.heap.size ≤ ((((((wr.setCell ⟨w.heap.size + 1, 0, none⟩ (.int .i64 kd)).setCell ⟨w.heap.size + 1, 1, none⟩ (.string nm)).setCell ⟨w.heap.size + 1, 2, none⟩ (.int .i64 n)).setCell ⟨w.heap.size + 1, 3, none⟩ (.int .i64 zk)).setCell ⟨w.heap.size + 1, 4, none⟩ (.slice za zn zc)).setCell ⟨w.heap.size + 1, 5, none⟩ (.slice oa es.length oc)).heap.size := by simpa using HZ3.out
          obtain ⟨fp, hown, hfp⟩ := HRW.tree kd nm n ty f1 hk0 hk1 hn0 hn1 hnm hTF HFP.out HW3.out hzF
          have hwW : w.heap.size ≤ W.heap.size := by have := HWS.out; omega
          have g0 := hRF.2 0
          have g1 := hRF.2 1
          have g2 := hRF.2 2
          have g3 := hRF.2 3
          have g4 := hRF.2 4
          have g5 := hRF.2 5
          clear hRF HRW hTF
          generalize ((((((wr.setCell ⟨w.heap.size + 1, 0, none⟩ (.int .i64 kd)).setCell ⟨w.heap.size + 1, 1, none⟩ (.string nm)).setCell ⟨w.heap.size + 1, 2, none⟩ (.int .i64 n)).setCell ⟨w.heap.size + 1, 3, none⟩ (.int .i64 zk)).setCell ⟨w.heap.size + 1, 4, none⟩ (.slice za zn zc)).setCell ⟨w.heap.size + 1, 5, none⟩ (.slice oa es.length oc)) = WX at g0 g1 g2 g3 g4 g5 hown hfp hBF ⊢
          refine bodyPost_ret (v := .agg #[.int .i64 kd, .string nm, .int .i64 n, .int .i64 zk, .slice za zn zc, .slice oa es.length oc]) (by simp [results, Try.results104, go_sem, g0, g1, g2, g3, g4, g5]) rfl ?_
          exact ⟨_, fp, rfl, hown, hfp.mono hwW (Nat.le_refl _), hBF⟩
end Go.Proofs.Ytimigpdbegfjaaa
