/-
  Proved: impl.meetOf gives the meet of two types; the memory that was there stays as it was.
-/
import Derived.Test.YteffjeejbdjjpaaGreatDoorWellG5
import Derived.Test.YteffjeejbdjjpaaGreatDoorWellG7
import Derived.Test.YteffjeejbdjjpaaGreatDoorWellG15
import Derived.Laws.Rows
import Derived.Test.YteffjeejbdjjpaaGreatDoorWellG4
import Derived.Deep.RegionHeld3
import Derived.Laws.StructEq
import Derived.Laws.Tables
import Derived.Laws.Cover2
namespace Go.Proofs.YteffjeejbdjjpaaGreatDoor
open Go.RowKit

/-- What a meet ends in: whether the two agree, and where they do, their meet in new memory. -/
def MeetEnd (d : Nat) (t1 t2 : Ty) (w : World) (e : Ending) (w' : World) : Prop :=
  ∃ k a n c fp, e = .returned (.tuple #[.agg #[.int .i64 k, .slice a n c], .bool (t1.cons t2)]) ∧ (t1.cons t2 = true → TyOwn w' d (.agg #[.int .i64 k, .slice a n c]) (t1.meet t2) fp ∧ Fp w.heap.size w'.heap.size fp) ∧ (t1.cons t2 = false → k = 0 ∧ a = none ∧ n = 0 ∧ c = 0) ∧ Below w.heap.size w w'
theorem meet_no {d : Nat} {t1 t2 : Ty} {w w' : World} (h : t1.cons t2 = false) (hb : Below w.heap.size w w') : MeetEnd d t1 t2 w (.returned (.tuple #[.agg #[.int .i64 0, .slice none 0 0], .bool false])) w' :=
  ⟨0, none, 0, 0, [], by rw [h], fun h' => (by rw [h] at h'; cases h'), fun _ => ⟨rfl, rfl, rfl, rfl⟩, hb⟩
theorem meet_yes {d : Nat} {t1 t2 t : Ty} {w w' : World} {k : Int} {a : Option Addr} {n c : Nat} {fp : List Nat} (h : t1.cons t2 = true ∧ t1.meet t2 = t) (ht : TyOwn w' d (.agg #[.int .i64 k, .slice a n c]) t fp) (hf : Fp w.heap.size w'.heap.size fp) (hb : Below w.heap.size w w') :
    MeetEnd d t1 t2 w (.returned (.tuple #[.agg #[.int .i64 k, .slice a n c], .bool true])) w' :=
  ⟨k, a, n, c, fp, by rw [h.1], fun _ => ⟨by rw [h.2]; exact ht, hf⟩, fun h' => (by rw [h.1] at h'; cases h'), hb⟩
theorem own_put {w : World} {d : Nat} {v : Value} {t : Ty} {fp : List Nat} {lo hi p j : Nat} {u : Value} (h : TyOwn w d v t fp) (hf : Fp lo hi fp) (hp : p < lo) : TyOwn (w.setCell ⟨p, j, none⟩ u) d v t fp :=
  h.kept (by simp) fun b hb => by have := (hf.2 b hb).1; exact heap_setCell_other _ _ _ _ (by simp; omega)
theorem eq_two (a b c d : Int) (w : World) : (Op.equalIn 10000 137 (.agg #[.int .i64 a, .int .i64 b]) (.agg #[.int .i64 c, .int .i64 d])).run Tryz.prog w = .ok (a == c && b == d) w := by
  have u3 := Tryz.underlying3
  have a3 := Tryz.isAgg3
  have z3 := Tryz.sizeOf3
  rw [show (10000 : Nat) = 9999 + 1 from rfl, Op.equalIn]
  simp only [Sem.run_bind, run_underlying und_two, Result.andThen_ok]
  simp only [Std.Legacy.Range.forIn_eq_forIn_range', Std.Legacy.Range.size, Nat.sub_zero, Nat.add_sub_cancel, Nat.div_one, List.range'_succ, List.range'_zero, List.forIn_cons, List.forIn_nil]
  go_simp
  by_cases h1 : a = c <;> by_cases h2 : b = d <;> simp [h1, h2]
def meetRow (k : Nat) : Int × Int × Int := [(1, 1, 0), (1, 2, 1), (1, 3, 1), (1, 4, 1), (1, 5, 1), (2, 1, 0), (3, 1, 0), (4, 1, 0), (5, 1, 0), (2, 2, 0), (3, 3, 0), (4, 4, 2), (5, 5, 2)].getD k (0, 0, 0)
theorem meet_index : ∀ k : Nat, k < 13 → ∀ w : World, (Instr.index 140 (.agg meetCells) (.int .i64 k)).run Tryz.prog w = .ok (.agg #[.int .i64 (meetRow k).1, .int .i64 (meetRow k).2.1, .int .i64 (meetRow k).2.2]) w
  | 0, _ => fun _ => by kernel_rfl
  | 1, _ => fun _ => by kernel_rfl
  | 2, _ => fun _ => by kernel_rfl
  | 3, _ => fun _ => by kernel_rfl
  | 4, _ => fun _ => by kernel_rfl
  | 5, _ => fun _ => by kernel_rfl
  | 6, _ => fun _ => by kernel_rfl
  | 7, _ => fun _ => by kernel_rfl
  | 8, _ => fun _ => by kernel_rfl
  | 9, _ => fun _ => by kernel_rfl
  | 10, _ => fun _ => by kernel_rfl
  | 11, _ => fun _ => by kernel_rfl
  | 12, _ => fun _ => by kernel_rfl
  | _ + 13, h => absurd h (by omega)
theorem meet_said : ∀ k : Nat, k < 13 → ((meetRow k).2.2 = 0 ∧ ((meetRow k).2.1 = 1 ∨ (meetRow k).1 = (meetRow k).2.1 ∧ ((meetRow k).1 = 2 ∨ (meetRow k).1 = 3))) ∨ ((meetRow k).2.2 = 1 ∧ (meetRow k).1 = 1) ∨ ((meetRow k).2.2 = 2 ∧ (meetRow k).1 = (meetRow k).2.1 ∧ ((meetRow k).1 = 4 ∨ (meetRow k).1 = 5))
  | 0, _ => by decide
  | 1, _ => by decide
  | 2, _ => by decide
  | 3, _ => by decide
  | 4, _ => by decide
  | 5, _ => by decide
  | 6, _ => by decide
  | 7, _ => by decide
  | 8, _ => by decide
  | 9, _ => by decide
  | 10, _ => by decide
  | 11, _ => by decide
  | 12, _ => by decide
  | _ + 13, h => absurd h (by omega)
theorem meet_none {k l : Int} (hk : 1 ≤ k ∧ k ≤ 5) (hl : 1 ≤ l ∧ l ≤ 5) (h : ∀ j : Nat, j < 13 → ¬ ((meetRow j).1 = k ∧ (meetRow j).2.1 = l)) : k ≠ 1 ∧ l ≠ 1 ∧ k ≠ l := by
  have h0 : ¬ ((1 : Int) = k ∧ (1 : Int) = l) := h 0 (by omega)
  have h1 : ¬ ((1 : Int) = k ∧ (2 : Int) = l) := h 1 (by omega)
  have h2 : ¬ ((1 : Int) = k ∧ (3 : Int) = l) := h 2 (by omega)
  have h3 : ¬ ((1 : Int) = k ∧ (4 : Int) = l) := h 3 (by omega)
  have h4 : ¬ ((1 : Int) = k ∧ (5 : Int) = l) := h 4 (by omega)
  have h5 : ¬ ((2 : Int) = k ∧ (1 : Int) = l) := h 5 (by omega)
  have h6 : ¬ ((3 : Int) = k ∧ (1 : Int) = l) := h 6 (by omega)
  have h7 : ¬ ((4 : Int) = k ∧ (1 : Int) = l) := h 7 (by omega)
  have h8 : ¬ ((5 : Int) = k ∧ (1 : Int) = l) := h 8 (by omega)
  have h9 : ¬ ((2 : Int) = k ∧ (2 : Int) = l) := h 9 (by omega)
  have h10 : ¬ ((3 : Int) = k ∧ (3 : Int) = l) := h 10 (by omega)
  have h11 : ¬ ((4 : Int) = k ∧ (4 : Int) = l) := h 11 (by omega)
  have h12 : ¬ ((5 : Int) = k ∧ (5 : Int) = l) := h 12 (by omega)
  omega
theorem meet_first {k l : Int} {cs bs : List Ty} (hf1 : (Ty.node k cs).form = true) (hf2 : (Ty.node l bs).form = true) (h : l = 1 ∨ (k = l ∧ (k = 2 ∨ k = 3))) : (Ty.node k cs).cons (.node l bs) = true ∧ (Ty.node k cs).meet (.node l bs) = .node k cs := by
  rcases h with rfl | ⟨rfl, h⟩
  · refine ⟨by simp [Ty.cons], ?_⟩
    rcases kinds_of hf2 with ⟨_, rfl⟩ | ⟨h2, _⟩
    · by_cases q : k = 1
      · subst q
        rcases kinds_of hf1 with ⟨_, rfl⟩ | ⟨h1, _⟩
        · simp [Ty.meet]
        · omega
      · simp [Ty.meet, q]
    · omega
  · rcases kinds_of hf1 with ⟨_, rfl⟩ | ⟨h1, _⟩
    · rcases kinds_of hf2 with ⟨_, rfl⟩ | ⟨h2, _⟩
      · refine ⟨by simp [Ty.cons, Ty.conss], ?_⟩
        rcases h with rfl | rfl <;> simp [Ty.meet, Ty.meets]
      · omega
    · omega
theorem meet_second {l : Int} {cs bs : List Ty} : (Ty.node 1 cs).cons (.node l bs) = true ∧ (Ty.node 1 cs).meet (.node l bs) = .node l bs := ⟨by simp [Ty.cons], by simp [Ty.meet]⟩
theorem meet_never {k l : Int} {cs bs : List Ty} (h : k ≠ 1 ∧ l ≠ 1 ∧ k ≠ l) : (Ty.node k cs).cons (.node l bs) = false := by
  simp [Ty.cons, h.1, h.2.1, h.2.2]
theorem kind_range {k : Int} {ts : List Ty} (h : (Ty.node k ts).form = true) : 1 ≤ k ∧ k ≤ 5 := by
  rcases kinds_of h with ⟨h, _⟩ | ⟨h, _⟩ <;> omega
set_option maxRecDepth 100000 in
set_option maxHeartbeats 4000000 in
theorem implMeet (d : Nat) (v1 v2 : Value) (t1 t2 : Ty) (w : World) (h1 : TyAt w d v1 t1) (h2 : TyAt w d v2 t2) (hf1 : t1.form = true) (hf2 : t2.form = true) (hz1 : t1.size ≤ 1048577) (hz2 : t2.size ≤ 1048577) (htab : MeetTab w)
    (HP : ∀ (k : Int) (cs bs : List Ty) (v1 v2 : Value) (w : World), t1 = .node k cs → t2 = .node k bs → k = 4 ∨ k = 5 → TyAt w d v1 t1 → TyAt w d v2 t2 → MeetTab w → Calls Tryz.prog 119 #[v1, v2] w (MeetEnd d t1 t2 w)) :
    Calls Tryz.prog 117 #[v1, v2] w (MeetEnd d t1 t2 w) := by
  cases d with
  | zero => exact h1.elim
  | succ d =>
  cases t1 with
  | node k1 cs =>
  cases t2 with
  | node k2 bs =>
  have HA := Lib.hid h1
  have HB := Lib.hid h2
  obtain ⟨s1, rfl, hk0, hk1, a1, cap1, rfl, hcap1, hm1, hat1⟩ := h1
  obtain ⟨s2, rfl, hk2, hk3, a2, cap2, rfl, hcap2, hm2, hat2⟩ := h2
  clear hat1 hat2 hcap1 hm1 hcap2 hm2
  have HG := Lib.hid htab
  clear htab
  go_enter Tryz.func117, Tryz.ntmps117
  obtain ⟨tt, fr, hg⟩ := HG.out.2
  have hg6 : (((((w.alloc (.cells #[.int .i64 k1, .slice a1 cs.length cap1] 33)).alloc (.cells #[.int .i64 k2, .slice a2 bs.length cap2] 33)).alloc (.cells #[.int .i64 0, .slice none 0 0] 33)).alloc (.cells #[.int .i64 k1, .int .i64 k2] 137)).heap[2]? = some (.cells meetCells tt fr)) := by
    have hb : Below w.heap.size w ((((w.alloc (.cells #[.int .i64 k1, .slice a1 cs.length cap1] 33)).alloc (.cells #[.int .i64 k2, .slice a2 bs.length cap2] 33)).alloc (.cells #[.int .i64 0, .slice none 0 0] 33)).alloc (.cells #[.int .i64 k1, .int .i64 k2] 137)) := ((((Below.refl _ _).alloc (Nat.le_refl _) _).alloc (by simp) _).alloc (by simp; omega) _).alloc (by simp; omega) _
    rw [hb.block _ HG.out.1]; exact hg
  go_wp2_with (refine wpList_load_row rfl 140 _ rfl 2 rfl tt _ fr _ hg6 und_meets rfl (by kernel_rfl) ?_)
  obtain ⟨W0, hW0⟩ : ∃ W0, W0 = ((((w.alloc (.cells #[.int .i64 k1, .slice a1 cs.length cap1] 33)).alloc (.cells #[.int .i64 k2, .slice a2 bs.length cap2] 33)).alloc (.cells #[.int .i64 0, .slice none 0 0] 33)).alloc (.cells #[.int .i64 k1, .int .i64 k2] 137)) := ⟨_, rfl⟩
  have hz0 : W0.heap.size = w.heap.size + 4 := by rw [hW0]; simp
  have HBW : Hid (Below w.heap.size w W0) := by show Below _ _ _; rw [hW0]; exact ((((Below.refl _ _).alloc (Nat.le_refl _) _).alloc (by simp) _).alloc (by simp; omega) _).alloc (by simp; omega) _
  have XA : Hid (BoxAt W0 w.heap.size #[.int .i64 k1, .slice a1 cs.length cap1]) := by show BoxAt _ _ _; rw [hW0]; exact (((BoxAt.new _ _ _).below (below_alloc _ _)).below (below_alloc _ _)).below (below_alloc _ _)
  have XB : Hid (BoxAt W0 (w.heap.size + 1) #[.int .i64 k2, .slice a2 bs.length cap2]) := by show BoxAt _ _ _; rw [hW0]; exact ((box_at (BoxAt.new _ _ _) (by simp)).below (below_alloc _ _)).below (below_alloc _ _)
  have XR : Hid (BoxAt W0 (w.heap.size + 1 + 1) #[.int .i64 0, .slice none 0 0]) := by show BoxAt _ _ _; rw [hW0]; exact (box_at (BoxAt.new _ _ _) (by simp)).below (below_alloc _ _)
  have XF : Hid (FreeAt W0 (w.heap.size + 1 + 1)) := by show FreeAt _ _; rw [hW0]; exact (free_at (FreeAt.new _ _ _) (by simp)).below (below_alloc _ _)
  have XK : Hid (BoxAt W0 (w.heap.size + 1 + 1 + 1) #[.int .i64 k1, .int .i64 k2]) := by show BoxAt _ _ _; rw [hW0]; exact box_at (BoxAt.new _ _ _) (by simp)
  rw [← hW0]
  clear hW0 hg6 hg
  go_loopw [15] (fun i wr => ∃ k : Nat, k ≤ 13 ∧ i = .int .i64 k ∧ (∀ j : Nat, j < k → ¬ ((meetRow j).1 = k1 ∧ (meetRow j).2.1 = k2)) ∧ Below W0.heap.size W0 wr) (fun i _ => 13 - (intOf i).toNat)
  case atStart => exact ⟨0, by omega, rfl, fun j hj => by omega, Below.refl _ _⟩
  case round =>
    obtain ⟨k, hk, rfl, hno, hb⟩ := hrel
    have HNO := Lib.hid hno; clear hno
    have HBB := Lib.hid hb; clear hb
    have hzr : w.heap.size + 4 ≤ wr.heap.size := by have := HBB.out.size; omega
    by_cases hlt : k < 13
    · have hix := meet_index k hlt
      have HSAID := Lib.hid (meet_said k hlt)
      obtain ⟨⟨a, b, c⟩, hrow⟩ : ∃ r, r = meetRow k := ⟨_, rfl⟩
      rw [← hrow] at hix HSAID
      have HROW := Lib.hid hrow; clear hrow
      simp only at hix
      have HB1 := Lib.hid (HBB.out.alloc HBB.out.size (.cells #[.int .i64 a, .int .i64 b, .int .i64 c] 139))
      have xa0 := (XA.out.below HB1.out).2 0
      have xa1 := (XA.out.below HB1.out).2 1
      have xb0 := (XB.out.below HB1.out).2 0
      have xb1 := (XB.out.below HB1.out).2 1
      have xk0 := (XK.out.below HB1.out).2 0
      have xk1 := (XK.out.below HB1.out).2 1
      have xr0 := (XR.out.below HB1.out).2 0
      have xr1 := (XR.out.below HB1.out).2 1
      have xf0 := (XF.out.below HB1.out).2 0
      have xf1 := (XF.out.below HB1.out).2 1
      by_cases qa : a = k1
      · by_cases qb : b = k2
        · subst qa
          subst qb
          have heq : ∀ w, (Op.equalIn 10000 137 (.agg #[.int .i64 a, .int .i64 b]) (.agg #[.int .i64 a, .int .i64 b])).run Tryz.prog w = .ok true w := fun w => by rw [eq_two]; simp
          have HBA := Lib.hid (HBW.out.trans (HB1.out.mono HBW.out.size))
          rcases HSAID.out with ⟨hc, hs⟩ | ⟨hc, hs⟩ | ⟨hc, hs, hs2⟩ <;> simp only at hc hs <;> subst hc
          · go_wp2_with fail
            refine (implCopy (d + 1) _ (.node a cs) _ hz1 (HA.out.below HBA.out)).mono ?_
            rintro e w' ⟨v', fp, rfl, ht, hfp, hb1⟩
            obtain ⟨zk, za, zn, zc, rfl, HY⟩ := ty_parts ht
            clear HY
            have HT := Lib.hid ht; clear ht
            have HFP := Lib.hid hfp; clear hfp
            have r0 := ((XR.out.below HB1.out).below hb1).2 0
            have r1 := ((XR.out.below HB1.out).below hb1).2 1
            have q0 := ((XF.out.below HB1.out).below hb1).2 0
            have q1 := ((XF.out.below HB1.out).below hb1).2 1
            have hz1b := hb1.size
            simp only [World.size_alloc] at hz1b
            have HBN := Lib.hid (HBA.out.trans (hb1.mono HBA.out.size)); clear hb1
            clear xa0 xa1 xb0 xb1 xk0 xk1 xr0 xr1 xf0 xf1
            go_wp2_with fail
            refine bodyPost_ret (v := .tuple #[.agg #[.int .i64 zk, .slice za zn zc], .bool true]) (by simp [results, Tryz.results117, go_sem, r0, r1]) rfl ?_
            have hfp2 : Fp (wr.heap.size + 1) w'.heap.size fp := by have := HFP.out; simpa using this
            exact meet_yes (meet_first hf1 hf2 hs) (own_put (own_put HT.out hfp2 (by omega)) hfp2 (by omega)) (hfp2.mono (by omega) (by simp)) ((HBN.out.setCell (by dsimp only; omega) _).setCell (by dsimp only; omega) _)
          · subst hs
            go_wp2_with fail
            refine (implCopy (d + 1) _ (.node b bs) _ hz2 (HB.out.below HBA.out)).mono ?_
            rintro e w' ⟨v', fp, rfl, ht, hfp, hb1⟩
            obtain ⟨zk, za, zn, zc, rfl, HY⟩ := ty_parts ht
            clear HY
            have HT := Lib.hid ht; clear ht
            have HFP := Lib.hid hfp; clear hfp
            have r0 := ((XR.out.below HB1.out).below hb1).2 0
            have r1 := ((XR.out.below HB1.out).below hb1).2 1
            have q0 := ((XF.out.below HB1.out).below hb1).2 0
            have q1 := ((XF.out.below HB1.out).below hb1).2 1
            have hz1b := hb1.size
            simp only [World.size_alloc] at hz1b
            have HBN := Lib.hid (HBA.out.trans (hb1.mono HBA.out.size)); clear hb1
            clear xa0 xa1 xb0 xb1 xk0 xk1 xr0 xr1 xf0 xf1
            go_wp2_with fail
            refine bodyPost_ret (v := .tuple #[.agg #[.int .i64 zk, .slice za zn zc], .bool true]) (by simp [results, Tryz.results117, go_sem, r0, r1]) rfl ?_
            have hfp2 : Fp (wr.heap.size + 1) w'.heap.size fp := by have := HFP.out; simpa using this
            exact meet_yes meet_second (own_put (own_put HT.out hfp2 (by omega)) hfp2 (by omega)) (hfp2.mono (by omega) (by simp)) ((HBN.out.setCell (by dsimp only; omega) _).setCell (by dsimp only; omega) _)
          · simp only at hs2
            subst hs
            go_wp2_with fail
            refine (HP a cs bs _ _ _ rfl rfl hs2 (HA.out.below HBA.out) (HB.out.below HBA.out) (HG.out.below HBA.out)).mono ?_
            rintro e w' ⟨zk, za, zn, zc, fp, rfl, hyes, hnot, hb1⟩
            have HYES := Lib.hid hyes; clear hyes
            have HNOT := Lib.hid hnot; clear hnot
            have r0 := ((XR.out.below HB1.out).below hb1).2 0
            have r1 := ((XR.out.below HB1.out).below hb1).2 1
            have q0 := ((XF.out.below HB1.out).below hb1).2 0
            have q1 := ((XF.out.below HB1.out).below hb1).2 1
            have hz1b := hb1.size
            simp only [World.size_alloc] at hz1b
            have HBN := Lib.hid (HBA.out.trans (hb1.mono HBA.out.size)); clear hb1
            clear xa0 xa1 xb0 xb1 xk0 xk1 xr0 xr1 xf0 xf1
            go_wp2_with fail
            refine bodyPost_ret (v := .tuple #[.agg #[.int .i64 zk, .slice za zn zc], .bool ((Ty.node a cs).cons (.node a bs))]) (by simp [results, Tryz.results117, go_sem, r0, r1]) rfl ?_
            refine ⟨zk, za, zn, zc, fp, rfl, fun h => ?_, HNOT.out, (HBN.out.setCell (by dsimp only; omega) _).setCell (by dsimp only; omega) _⟩
            obtain ⟨ht, hfp⟩ := HYES.out h
            have hfp2 : Fp (wr.heap.size + 1) w'.heap.size fp := by simpa using hfp
            exact ⟨own_put (own_put ht hfp2 (by omega)) hfp2 (by omega), hfp2.mono (by omega) (by simp)⟩
        · subst qa
          have heq : ∀ w, (Op.equalIn 10000 137 (.agg #[.int .i64 a, .int .i64 b]) (.agg #[.int .i64 a, .int .i64 k2])).run Tryz.prog w = .ok false w := fun w => by rw [eq_two]; simp [qb]
          go_wp2_with fail
          exact ⟨⟨k + 1, by omega, by go_num, fun j hj hh => by
            by_cases e : j = k
            · subst e; rw [← HROW.out] at hh; exact qb hh.2
            · exact HNO.out j (by omega) hh, HB1.out⟩, by simp [intOf]; omega⟩
      · have heq : ∀ w, (Op.equalIn 10000 137 (.agg #[.int .i64 a, .int .i64 b]) (.agg #[.int .i64 k1, .int .i64 k2])).run Tryz.prog w = .ok false w := fun w => by rw [eq_two]; simp [qa]
        go_wp2_with fail
        exact ⟨⟨k + 1, by omega, by go_num, fun j hj hh => by
          by_cases e : j = k
          · subst e; rw [← HROW.out] at hh; exact qa hh.1
          · exact HNO.out j (by omega) hh, HB1.out⟩, by simp [intOf]; omega⟩
    · have HNV := Lib.hid (meet_never (cs := cs) (bs := bs) (meet_none (kind_range hf1) (kind_range hf2) (fun j hj => HNO.out j (by omega))))
      obtain rfl : k = 13 := by omega
      have xr0 := (XR.out.below HBB.out).2 0
      have xr1 := (XR.out.below HBB.out).2 1
      have xf0 := (XF.out.below HBB.out).2 0
      have xf1 := (XF.out.below HBB.out).2 1
      go_wp2_with fail
      refine bodyPost_ret (v := .tuple #[.agg #[.int .i64 0, .slice none 0 0], .bool false]) (by simp [results, Tryz.results117, go_sem, xr0, xr1]) rfl ?_
      exact meet_no HNV.out (((HBW.out.trans (HBB.out.mono HBW.out.size)).setCell (by dsimp only; omega) _).setCell (by dsimp only; omega) _)
end Go.Proofs.YteffjeejbdjjpaaGreatDoor
