/-
  Proved: impl.RenumberHoles numbers the holes and marks of a copy of an expression from one on, in place; the memory that was there stays as it was.
-/
import Derived.Test.YtimigpdbegfjaaaRenOwn
import Derived.Test.YtimigpdbegfjaaaIsHoleIn
import Derived.Test.YtimigpdbegfjaaaImplExCopy
namespace Go.Proofs.Ytimigpdbegfjaaa
open Go.RowKit Go.Shelf
attribute [local go_sem] Oper.semAt_some

theorem box_sixR {w : World} {p : Nat} {c0 c1 c2 c3 c4 c5 : Value} (h : BoxAt w p #[c0, c1, c2, c3, c4, c5]) : w.cell? ⟨p, 0, none⟩ = some c0 ∧ w.cell? ⟨p, 1, none⟩ = some c1 ∧ w.cell? ⟨p, 2, none⟩ = some c2 ∧ w.cell? ⟨p, 3, none⟩ = some c3 ∧ w.cell? ⟨p, 4, none⟩ = some c4 ∧ w.cell? ⟨p, 5, none⟩ = some c5 := ⟨h.2 0, h.2 1, h.2 2, h.2 3, h.2 4, h.2 5⟩
theorem free_sixR {w : World} {p : Nat} (h : FreeAt w p) : w.frozen? ⟨p, 0, none⟩ = false ∧ w.frozen? ⟨p, 1, none⟩ = false ∧ w.frozen? ⟨p, 2, none⟩ = false ∧ w.frozen? ⟨p, 3, none⟩ = false ∧ w.frozen? ⟨p, 4, none⟩ = false ∧ w.frozen? ⟨p, 5, none⟩ = false := ⟨h.2 0, h.2 1, h.2 2, h.2 3, h.2 4, h.2 5⟩
theorem cell_box (W' W : World) (v : Value) (T : TypeId) (h : W' = W.alloc (.cells #[v] T)) : W'.cell? ⟨W.heap.size, 0, none⟩ = some v ∧ W'.frozen? ⟨W.heap.size, 0, none⟩ = false := by
  subst h
  exact ⟨(BoxAt.new W #[v] T).2 0, (FreeAt.new W #[v] T).2 0⟩
/-- The cells of V, but for those numbers that g gives. -/
def CellsOk (V W : World) (g : Nat × Nat → Option Int) : Prop :=
  V.heap.size ≤ W.heap.size ∧ (∀ b o, b < V.heap.size → W.cell? ⟨b, o, none⟩ = (match g (b, o) with | some m => some (.int .i64 m) | none => V.cell? ⟨b, o, none⟩)) ∧
    (∀ b o, b < V.heap.size → W.frozen? ⟨b, o, none⟩ = V.frozen? ⟨b, o, none⟩) ∧ (∀ b, b < V.heap.size → (∀ o, g (b, o) = none) → W.heap[b]? = V.heap[b]?)
theorem CellsOk.grown {V W W' : World} {g : Nat × Nat → Option Int} (h : CellsOk V W g) (hz : W.heap.size ≤ W'.heap.size) (hk : ∀ b, b < V.heap.size → W'.heap[b]? = W.heap[b]?) : CellsOk V W' g :=
  ⟨Nat.le_trans h.1 hz, fun b o hb => (World.cell?_of_block (a := ⟨b, o, none⟩) (hk b hb)).trans (h.2.1 b o hb), fun b o hb => (World.frozen?_of_block (a := ⟨b, o, none⟩) (hk b hb)).trans (h.2.2.1 b o hb), fun b hb hg => (hk b hb).trans (h.2.2.2 b hb hg)⟩
theorem CellsOk.start (V W : World) (hb : Below V.heap.size V W) : CellsOk V W (fun _ => none) :=
  ⟨hb.size, fun b o h => hb.cell (p := ⟨b, o, none⟩) h, fun b o h => hb.frozen (p := ⟨b, o, none⟩) h, fun b h _ => hb.block b h⟩
theorem CellsOk.put {V W : World} {g : Nat × Nat → Option Int} (h : CellsOk V W g) (b o : Nat) (m : Int) (hb : b < V.heap.size) (hc : ∃ v, V.cell? ⟨b, o, none⟩ = some v) :
    CellsOk V (W.setCell ⟨b, o, none⟩ (.int .i64 m)) (fun p => if p = (b, o) then some m else g p) := by
  obtain ⟨h1, h2, h3, h4⟩ := h
  refine ⟨by simpa using h1, fun b' o' hb' => ?_, fun b' o' hb' => by rw [World.frozen?_setCell]; exact h3 b' o' hb', fun b' hb' hg => ?_⟩
  · dsimp only
    by_cases e : (b', o') = (b, o)
    · rw [if_pos e]
      injection e with e1 e2
      subst e1 e2
      refine World.cell?_setCell_same' _ _ _ ?_
      rw [h2 b' o' hb']
      obtain ⟨v, hv⟩ := hc
      cases g (b', o') with
      | none => simp [hv]
      | some m => rfl
    · rw [if_neg e, World.cell?_setCell_other _ _ _ _ (by intro e2; injection e2 with e3 e4; exact e (by rw [e3, e4]))]
      exact h2 b' o' hb'
  · have hne : b' ≠ b := fun e => by
      subst e
      have := hg o
      simp at this
    rw [heap_setCell_other _ _ _ _ hne]
    refine h4 b' hb' fun o' => ?_
    have := hg o'
    dsimp only at this
    rw [if_neg (by intro e; injection e with e1 _; exact hne e1)] at this
    exact this
set_option maxRecDepth 100000 in
set_option maxHeartbeats 4000000 in
theorem implRenumber_in (F : Fence) (hd : F.depth = none) (nn : Nat) (h3 : F.fn 32) (h4 : F.fn 70) (h5 : F.fn 112) (h6 : F.fn 113) (h7 : F.fn 74) (h8 : F.fn 69) (hro : F.round = none) (hn : 5 ≤ nn) (d : Nat) (v : Value) (t : Ex) (w : World) (h : ExAt w d v t) (hsz : t.bulk ≤ 1048576)
    (hcp : ∀ m w', ExAt w' d v t → CallsIn F m Try.prog 69 #[v] w' (ToExEnd d t w')) :
    CallsIn F nn Try.prog 32 #[v] w (ToExEnd d (t.ren 1) w) := by
  have h1 : 1 ≤ nn := by omega
  obtain ⟨k, nm, n, tk, ta, tn, tc, sa, sn, sc, rfl⟩ := ex_parts h
  obtain ⟨W0, hW0⟩ : ∃ W0, W0 = (w.alloc (.cells #[.int .i64 k, .string nm, .int .i64 n, .int .i64 tk, .slice ta tn tc, .slice sa sn sc] 37)).alloc (.cells #[.int .i64 0, .string ⟨#[]⟩, .int .i64 0, .int .i64 0, .slice none 0 0, .slice none 0 0] 37) := ⟨_, rfl⟩
  have HB0 : Hid (Below w.heap.size w W0) := by show Below _ _ _; rw [hW0]; exact ((Below.refl _ _).alloc (Nat.le_refl _) _).alloc (by simp) _
  have XR0 : Hid (BoxAt W0 (w.heap.size + 1) #[.int .i64 0, .string ⟨#[]⟩, .int .i64 0, .int .i64 0, .slice none 0 0, .slice none 0 0]) := by show BoxAt _ _ _; rw [hW0]; exact box_at (BoxAt.new _ _ _) (by simp)
  have FR0 : Hid (FreeAt W0 (w.heap.size + 1)) := by show FreeAt _ _; rw [hW0]; exact free_at (FreeAt.new _ _ _) (by simp)
  have HZ0 : Hid (W0.heap.size = w.heap.size + 1 + 1) := by show _ = _; rw [hW0]; simp
  have HCP := Lib.hid (hcp (nn - 1) W0 (h.below HB0.out))
  clear h hcp
  refine callsIn_of_wp_marks Try.func32 rfl h3 ?_ hro
  simp only [Try.ntmps32, List.size_toArray, List.length_cons, List.length_nil, Nat.reduceAdd, Nat.reduceSub, Array.replicate_succ, Array.replicate_zero, List.push_toArray, List.append_toArray, List.nil_append, List.cons_append]
  gi_wp2_with (gi_at_call 69; rw [← hW0]; refine HCP.out.mono ?_; rintro e w1 ⟨o, fp, rfl, ht, hfp, hb⟩; refine Hid.out ?_)
  refine Lib.hid ?_
  clear HCP hW0
  obtain ⟨yk, ynm, yn, ytk, yta, ytn, ytc, ya, ym, yc, rfl⟩ := ex_parts ht.at_
  obtain ⟨V, hV⟩ : ∃ V, V = w1.alloc (.cells #[.int .i64 yk, .string ynm, .int .i64 yn, .int .i64 ytk, .slice yta ytn ytc, .slice ya ym yc] 37) := ⟨_, rfl⟩
  have hzV : V.heap.size = w1.heap.size + 1 := by rw [hV]; simp
  have hbV : Below w1.heap.size w1 V := by rw [hV]; exact below_alloc _ _
  have XY : Hid (BoxAt V w1.heap.size #[.int .i64 yk, .string ynm, .int .i64 yn, .int .i64 ytk, .slice yta ytn ytc, .slice ya ym yc]) := by show BoxAt _ _ _; rw [hV]; exact BoxAt.new _ _ _
  have FY : Hid (FreeAt V w1.heap.size) := by show FreeAt _ _; rw [hV]; exact FreeAt.new _ _ _
  have HT : Hid (ExOwn V d (.agg #[.int .i64 yk, .string ynm, .int .i64 yn, .int .i64 ytk, .slice yta ytn ytc, .slice ya ym yc]) t fp) := ht.kept hbV.size fun b hb => hbV.block b (hfp.2 b hb).2
  have HFP : Hid (fp.Nodup ∧ ∀ b, b ∈ fp → w.heap.size + 1 + 1 ≤ b ∧ b < w1.heap.size) := ⟨hfp.1, fun b hb => by have := hfp.2 b hb; have := HZ0.out; omega⟩
  have HB1 : Hid (Below w.heap.size w V) := HB0.out.trans ((hb.trans (hbV.mono hb.size)).mono HB0.out.size)
  have XR : Hid (BoxAt V (w.heap.size + 1) #[.int .i64 0, .string ⟨#[]⟩, .int .i64 0, .int .i64 0, .slice none 0 0, .slice none 0 0]) := (XR0.out.below hb).below hbV
  have FR : Hid (FreeAt V (w.heap.size + 1)) := (FR0.out.below hb).below hbV
  have HW1 : Hid (w.heap.size + 1 + 1 ≤ w1.heap.size) := by have := hb.size; have := HZ0.out; show _ ≤ _; omega
  clear ht hfp hb hbV
  have HSX : Hid (SixAt V w1.heap.size 0 (.int .i64 yk) (.string ynm) (.int .i64 yn) (.int .i64 ytk) (.slice yta ytn ytc) (.slice ya ym yc)) := ⟨XY.out.2 0, XY.out.2 1, XY.out.2 2, XY.out.2 3, XY.out.2 4, XY.out.2 5⟩
  obtain ⟨all, hall, hwh, hmem, hapt, hhc, hlen⟩ := nodes_own V d w1.heap.size 0 t (.int .i64 yk) (.string ynm) (.int .i64 yn) (.int .i64 ytk) (.slice yta ytn ytc) (.slice ya ym yc) fp (by omega) HSX.out HT.out HFP.out.1 (fun hm => by have := (HFP.out.2 _ hm).2; omega)
  have HALL := Lib.hid hall
  have HWH := Lib.hid hwh
  have HMEM := Lib.hid hmem
  have HAPT := Lib.hid hapt
  have HAP : Hid (∀ x, x ∈ all → ∀ y, y ∈ all → x = y ∨ ApartN x y) := fun x hx y hy => by
    obtain ⟨i, hi, rfl⟩ := List.mem_iff_getElem.1 hx
    obtain ⟨j, hj, rfl⟩ := List.mem_iff_getElem.1 hy
    have hp := List.pairwise_iff_getElem.1 hapt
    rcases Nat.lt_trichotomy i j with h | h | h
    · exact Or.inr (hp i j hi hj h)
    · subst h; exact Or.inl rfl
    · right
      rcases hp j i hj hi h with h | h | h
      · exact Or.inl fun e => h e.symm
      · exact Or.inr (Or.inr h)
      · exact Or.inr (Or.inl h)
  have hal : all.length ≤ 1048577 := by omega
  obtain ⟨zs, hzs⟩ : ∃ zs : List (NodeIn all), zs.map Subtype.val = all := ⟨all.attach, by simp⟩
  have hzl : zs.length = all.length := by rw [← List.length_map (f := Subtype.val), hzs]
  have HZV := Lib.hid hzV
  have HAL := Lib.hid hal
  have HZL := Lib.hid hzl
  clear hall hwh hmem hapt hhc hzV hal hzl hlen
  have HN0 := Lib.hid (cell_box (V.alloc (.cells #[.int .i64 0] 3)) V (.int .i64 0) 3 rfl)
  have HU : Hid (Below V.heap.size V ((V.alloc (.cells #[.int .i64 0] 3)).alloc (.cells #[.pointer (some ⟨w1.heap.size, 0, none⟩)] 86))) := ((Below.refl _ _).alloc (Nat.le_refl _) _).alloc (by simp) _
  gi_wp2_with (gi_at_call 70; refine (nodes_inW F (nn - 1) h4 hro _ _).mono ?_; rintro e w' ⟨rfl, rfl⟩)
  rw [← hV]
  clear hV
  obtain ⟨U, hU⟩ : ∃ U, U = (V.alloc (.cells #[.int .i64 0] 3)).alloc (.cells #[.pointer (some ⟨w1.heap.size, 0, none⟩)] 86) := ⟨_, rfl⟩
  rw [← hU]
  have HBU : Hid (Below V.heap.size V U) := by show Below _ _ _; rw [hU]; exact HU.out
  have HZU : Hid (U.heap.size = w1.heap.size + 1 + 1 + 1) := by show _ = _; have := HZV.out; rw [hU]; simp; omega
  have HNB : Hid (U.cell? ⟨w1.heap.size + 1, 0, none⟩ = some (.int .i64 0) ∧ U.frozen? ⟨w1.heap.size + 1, 0, none⟩ = false) := by
    have hb := below_alloc (V.alloc (.cells #[.int .i64 0] 3)) (.cells #[.pointer (some ⟨w1.heap.size, 0, none⟩)] 86)
    have h0 := HN0.out
    rw [HZV.out] at h0
    show _ ∧ _
    rw [hU]
    exact ⟨(hb.cell (p := ⟨w1.heap.size + 1, 0, none⟩) (by have := HZV.out; simp; omega)).trans h0.1, (hb.frozen (p := ⟨w1.heap.size + 1, 0, none⟩) (by have := HZV.out; simp; omega)).trans h0.2⟩
  have HBT : Hid (U.cell? ⟨w1.heap.size + 1 + 1, 0, none⟩ = some (.pointer (some ⟨w1.heap.size, 0, none⟩))) := by
    have h0 := (BoxAt.new (V.alloc (.cells #[.int .i64 0] 3)) #[.pointer (some ⟨w1.heap.size, 0, none⟩)] 86).2 0
    rw [show (V.alloc (.cells #[.int .i64 0] 3)).heap.size = w1.heap.size + 1 + 1 from by have := HZV.out; simp; omega] at h0
    show _ = _
    rw [hU]; exact h0
  clear hU HU HN0
  have HLT : Hid (∀ x, x ∈ all → x.b < V.heap.size) := fun x hx => (HMEM.out x hx).1
  refine wpIn_rangeFunc_ownG hro h1 (gf := 112) (lb := #[.pointer (some ⟨w1.heap.size + 1 + 1, 0, none⟩)]) rfl h5 (enters_of Try.func112 (by kernel_rfl) rfl)
    (nodes_stopsW F hd (nn - 1) h5 h6 hro V all zs hzs (w1.heap.size + 1 + 1) d w1.heap.size 0 t U (by have := HZU.out; omega) (fun x hx => Nat.lt_of_lt_of_le (HLT.out x hx) HBU.out.size) (fun x hx => HBU.out.cell (p := ⟨x.b, x.off + 5, none⟩) (HLT.out x hx)) HBT.out HALL.out)
    (fun h1 h2 => RowsK.trans h1 h2) (fun W l o o' hl _ _ _ x hx => World.cell?_of_block (World.putObj_heap_other (by have := HLT.out x hx; have := HBU.out.size; show x.b ≠ l; omega))) (Below.refl _ _) (fun _ => rfl)
    (fun pre W => (W.cell? ⟨w1.heap.size + 1, 0, none⟩ = some (.int .i64 (stamp (pre.map Subtype.val)).1) ∧ W.frozen? ⟨w1.heap.size + 1, 0, none⟩ = false) ∧ CellsOk V W (stamp (pre.map Subtype.val)).2 ∧ Below w.heap.size V W)
    (fun _ _ _ => False)
    (fun s A B row hs hg hr => ⟨⟨cell_kept hs.1.1 hg (fun r e => (hr r e).2), (frozen_kept hs.1.1 hg (fun r e => (hr r e).2)).trans hs.1.2⟩, hs.2.1.grown hg.size (fun b hb => hg.block b (Nat.lt_of_lt_of_le hb hs.2.1.1) (fun e => by have := (hr b e.symm).1; have := HBU.out.size; omega)), hs.2.2.grown hg (by have := hs.2.2.size; have := HB1.out.size; omega) (fun j e => by have := (hr j e).1; have := HBU.out.size; have := HB1.out.size; omega)⟩)
    (fun _ _ _ _ _ hs _ _ => hs)
    ⟨HNB.out, CellsOk.start V U HBU.out, HBU.out.mono HB1.out.size⟩
    (fun x => { tmps := #[.agg #[.int .i64 k, .string nm, .int .i64 n, .int .i64 tk, .slice ta tn tc, .slice sa sn sc], .pointer (some ⟨w.heap.size, 0, none⟩), .pointer (some ⟨w.heap.size + 1, 0, none⟩), .pointer (some ⟨w1.heap.size, 0, none⟩), .pointer (some ⟨w1.heap.size + 1, 0, none⟩), x.1.ptr, .agg #[.int .i64 k, .string nm, .int .i64 n, .int .i64 tk, .slice ta tn tc, .slice sa sn sc], .agg #[.int .i64 yk, .string ynm, .int .i64 yn, .int .i64 ytk, .slice yta ytn ytc, .slice ya ym yc], .func (.func 112) #[] #[.pointer (some ⟨w1.heap.size + 1 + 1, 0, none⟩)], x.1.ptr, undef, undef, undef, undef, undef, undef, undef, undef, undef], defers := [] }) ?assign ?body ?done ?stop
  case assign =>
    intro l x W K hK
    gi_wp2
    exact hK
  case body =>
    rintro l pre x W ⟨⟨hcn, hfn⟩, hcok, hB⟩ hlen
    obtain ⟨⟨b, off, kd, num⟩, hxm⟩ := x
    have hpl : pre.length ≤ 1048577 := by have := HZL.out; have := HAL.out; omega
    obtain ⟨hst1, hst2, hst3⟩ := stamp_key _ (pre.map Subtype.val) rfl
    rw [List.length_map] at hst3
    obtain ⟨hxb, hxc, hxn, hxf⟩ := HMEM.out _ hxm
    have hsn := stamp_snoc (pre.map Subtype.val) ⟨b, off, kd, num⟩
    have hmap : (pre ++ [(⟨⟨b, off, kd, num⟩, hxm⟩ : NodeIn all)]).map Subtype.val = pre.map Subtype.val ++ [⟨b, off, kd, num⟩] := by simp
    have hno : ∀ i, i < 6 → i ≠ 2 → (stamp (pre.map Subtype.val)).2 (b, off + i) = none := fun i hi hi2 => by
      cases hg : (stamp (pre.map Subtype.val)).2 (b, off + i) with
      | none => rfl
      | some m =>
        obtain ⟨y, hy, _, e⟩ := hst1 _ _ hg
        obtain ⟨y', _, rfl⟩ := List.mem_map.1 hy
        unfold NodeP.key at e
        injection e with e1 e2
        rcases HAP.out _ hxm y'.1 y'.2 with h | h | h | h
        · rw [← h] at e2; exact absurd e2 (by dsimp only; omega)
        · exact absurd e1 h
        · dsimp only at h; omega
        · dsimp only at h; omega
    dsimp only [NodeP.ptr] at hxb hxc hxn hxf ⊢
    have c0 : W.cell? ⟨b, off, none⟩ = some (.int .i64 kd) := by
      have h0 := hno 0 (by omega) (by omega)
      rw [Nat.add_zero] at h0
      rw [hcok.2.1 b off hxb, h0]; exact hxc
    have hfz : W.frozen? ⟨b, off + 2, none⟩ = false := by
      rw [hcok.2.2.1 b _ hxb]
      rcases HWH.out _ hxm with ⟨e, e2⟩ | e
      · have e3 : b = w1.heap.size := e
        have := FY.out.2 (off + 2)
        rw [e3]; exact this
      · exact hxf e
    have hcx : ∃ u, W.cell? ⟨b, off + 2, none⟩ = some u := by
      rw [hcok.2.1 b _ hxb]
      cases (stamp (pre.map Subtype.val)).2 (b, off + 2) with
      | none => exact hxn
      | some m => exact ⟨_, rfl⟩
    obtain ⟨u2, c2⟩ := hcx
    have hih := isHoleInW F (nn - 1 - 1 - 1) h7 hro b off kd W c0
    have HSN := Lib.hid hsn
    have HMP := Lib.hid hmap
    have HST := Lib.hid hst1
    have HNO := Lib.hid hno
    have HCOK := Lib.hid hcok
    have HXN := Lib.hid hxn
    have HXF := Lib.hid hxf
    clear hsn hmap hst1 hno hcok hxn hxf hxc
    obtain ⟨cn, hcn'⟩ : ∃ cn : Int, cn = (stamp (pre.map Subtype.val)).1 := ⟨_, rfl⟩
    rw [← hcn'] at hcn hst2 hst3
    have HCN := Lib.hid hcn'
    clear hcn'
    have hVb : V.heap.size = w1.heap.size + 1 := HZV.out
    have hbne : b ≠ w1.heap.size + 1 := by omega
    clear hVb
    by_cases q : kd = 1 ∨ kd = 14
    · have hq : decide (kd = 1 ∨ kd = 14) = true := decide_eq_true q
      rw [hq] at hih
      have hx1 : (NodeP.mk b off kd num).hole := q
      gi_wp2_with (gi_at_call 74; refine (CallsIn.inRound l hih).mono ?_; rintro e w' ⟨he, hw⟩; subst he; subst hw)
      refine ⟨((KeepsOthers.setCell _ _ _).trans (KeepsOthers.setCell _ _ _)).from _, ?_, ⟨?_, ?_⟩, ?_, ?_⟩
      · intro y hy
        rw [World.cell?_setCell_other _ _ _ _ ?_, World.cell?_setCell_other _ _ _ _ ?_]
        · intro e
          injection e with e1 e2
          have h1 := HLT.out y hy
          have h2 := HZV.out
          omega
        · intro e
          injection e with e1 e2
          rcases HAP.out _ hxm y hy with h | h | h | h
          · rw [← h] at e2; dsimp only at e2; omega
          · exact h e1
          · dsimp only at h; omega
          · dsimp only at h; omega
      · rw [HMP.out, HSN.out]
        unfold stepS
        rw [if_pos hx1, ← HCN.out]
        rw [World.cell?_setCell_other _ _ _ _ (by intro e; injection e with e1 _; exact hbne e1)]
        exact World.cell?_setCell_same' _ _ _ (by rw [hcn]; rfl)
      · rw [World.frozen?_setCell, World.frozen?_setCell]; exact hfn
      · rw [HMP.out, HSN.out]
        unfold stepS
        rw [if_pos hx1, ← HCN.out]
        refine CellsOk.put (HCOK.out.grown ?_ ?_) b (off + 2) (cn + 1) hxb HXN.out
        · simp
        · intro b' hb'
          rw [heap_setCell_other _ _ _ _ (by show b' ≠ w1.heap.size + 1; have := HZV.out; omega)]
      · refine (hB.setCell (by have := HW1.out; show w.heap.size ≤ w1.heap.size + 1; omega) _).setCell ?_ _
        rcases HWH.out _ hxm with ⟨e, _⟩ | e
        · have e3 : b = w1.heap.size := e
          have := HW1.out
          show w.heap.size ≤ b
          omega
        · have := (HFP.out.2 _ e).1
          show w.heap.size ≤ b
          have e3 : w.heap.size + 1 + 1 ≤ b := this
          omega
    · have hq : decide (kd = 1 ∨ kd = 14) = false := decide_eq_false q
      rw [hq] at hih
      have hx1 : ¬ (NodeP.mk b off kd num).hole := q
      gi_wp2_with (gi_at_call 74; refine (CallsIn.inRound l hih).mono ?_; rintro e w' ⟨rfl, rfl⟩)
      refine ⟨KeepsFrom.refl _ _, RowsK.refl _ _, ⟨?_, hfn⟩, ?_, hB⟩
      · rw [HMP.out, HSN.out]; unfold stepS; rw [if_neg hx1, ← HCN.out]; exact hcn
      · rw [HMP.out, HSN.out]; unfold stepS; rw [if_neg hx1]; exact HCOK.out
  case done =>
    rintro D xs W hD rfl ⟨⟨hcn, hfn⟩, hcok, hB⟩ hK
    rw [hzs] at hcok
    have hnm : w1.heap.size ∉ fp := fun hm => by have := (HFP.out.2 _ hm).2; omega
    obtain ⟨nv, hsx, hex⟩ := ren_own V W (stamp all).2 all hcok.1 hcok.2.1 hcok.2.2.1 hcok.2.2.2 (fun p m h => by obtain ⟨x, hx, _, e⟩ := (stamp_key _ all rfl).1 p m h; exact ⟨x, hx, e⟩) HAP.out d w1.heap.size 0 t (.int .i64 yk) (.string ynm) (.int .i64 yn) (.int .i64 ytk) (.slice yta ytn ytc) (.slice ya ym yc) fp all 0 HALL.out (by have := HZV.out; omega) HSX.out HT.out HFP.out.1 hnm (fun x h => h) (fun x h => Or.inl h) (stamp_numbered _ all rfl HAPT.out) (by omega) (by omega)
    have hn2 : ∃ n2 : Int, nv = .int .i64 n2 := by
      obtain ⟨_, _, n2, _, _, _, _, _, _, _, _, _, e2, _⟩ := ex_cells hex.at_
      exact ⟨n2, e2⟩
    obtain ⟨n2, rfl⟩ := hn2
    have y0 : W.cell? ⟨w1.heap.size, 0, none⟩ = some (.int .i64 yk) := hsx.1
    have y1 : W.cell? ⟨w1.heap.size, 1, none⟩ = some (.string ynm) := hsx.2.1
    have y2 : W.cell? ⟨w1.heap.size, 2, none⟩ = some (.int .i64 n2) := hsx.2.2.1
    have y3 : W.cell? ⟨w1.heap.size, 3, none⟩ = some (.int .i64 ytk) := hsx.2.2.2.1
    have y4 : W.cell? ⟨w1.heap.size, 4, none⟩ = some (.slice yta ytn ytc) := hsx.2.2.2.2.1
    have y5 : W.cell? ⟨w1.heap.size, 5, none⟩ = some (.slice ya ym yc) := hsx.2.2.2.2.2
    have hrb : W.heap[w.heap.size + 1]? = V.heap[w.heap.size + 1]? := by
      refine hcok.2.2.2 _ XR.out.1 fun o => ?_
      cases hg : (stamp all).2 (w.heap.size + 1, o) with
      | none => rfl
      | some m =>
        obtain ⟨x, hx, _, e⟩ := (stamp_key _ all rfl).1 _ _ hg
        unfold NodeP.key at e
        injection e with e1 _
        have h1 := HW1.out
        rcases HWH.out x hx with ⟨h, _⟩ | h
        · omega
        · have := (HFP.out.2 _ h).1; omega
    have XRW : Hid (BoxAt W (w.heap.size + 1) #[.int .i64 0, .string ⟨#[]⟩, .int .i64 0, .int .i64 0, .slice none 0 0, .slice none 0 0]) := XR.out.kept hcok.1 hrb
    have FRW : Hid (FreeAt W (w.heap.size + 1)) := ⟨XRW.out.1, fun j => (World.frozen?_of_block (a := ⟨w.heap.size + 1, j, none⟩) hrb).trans (FR.out.2 j)⟩
    obtain ⟨r0, r1, r2, r3, r4, r5⟩ := box_sixR XRW.out
    obtain ⟨s0, s1, s2, s3, s4, s5⟩ := free_sixR FRW.out
    have HEX := Lib.hid hex
    have HCOK := Lib.hid hcok
    have HBB := Lib.hid hB
    have HKD := Lib.hid hK
    have HDD : Hid (w1.heap.size + 1 + 1 + 1 ≤ D) := by have := HZU.out; show _ ≤ _; omega
    clear hcn hfn hcok hB hsx hex hrb
    gi_wp2
    have hRF : BoxAt ((((((W.setCell ⟨w.heap.size + 1, 0, none⟩ (.int .i64 yk)).setCell ⟨w.heap.size + 1, 1, none⟩ (.string ynm)).setCell ⟨w.heap.size + 1, 2, none⟩ (.int .i64 n2)).setCell ⟨w.heap.size + 1, 3, none⟩ (.int .i64 ytk)).setCell ⟨w.heap.size + 1, 4, none⟩ (.slice yta ytn ytc)).setCell ⟨w.heap.size + 1, 5, none⟩ (.slice ya ym yc)) (w.heap.size + 1) #[.int .i64 yk, .string ynm, .int .i64 n2, .int .i64 ytk, .slice yta ytn ytc, .slice ya ym yc] := by
      have := ((((((XRW.out.put (j := 0) (u := .int .i64 yk) (by simp)).put (j := 1) (u := .string ynm) (by simp)).put (j := 2) (u := .int .i64 n2) (by simp)).put (j := 3) (u := .int .i64 ytk) (by simp)).put (j := 4) (u := .slice yta ytn ytc) (by simp)).put (j := 5) (u := .slice ya ym yc) (by simp))
      exact this
    have hBF : Below w.heap.size w ((((((W.setCell ⟨w.heap.size + 1, 0, none⟩ (.int .i64 yk)).setCell ⟨w.heap.size + 1, 1, none⟩ (.string ynm)).setCell ⟨w.heap.size + 1, 2, none⟩ (.int .i64 n2)).setCell ⟨w.heap.size + 1, 3, none⟩ (.int .i64 ytk)).setCell ⟨w.heap.size + 1, 4, none⟩ (.slice yta ytn ytc)).setCell ⟨w.heap.size + 1, 5, none⟩ (.slice ya ym yc)) := ((((((HB1.out.trans HBB.out).setCell (by simp) _).setCell (by simp) _).setCell (by simp) _).setCell (by simp) _).setCell (by simp) _).setCell (by simp) _
    have hKF : ∀ b, b ≠ w.heap.size + 1 → ((((((W.setCell ⟨w.heap.size + 1, 0, none⟩ (.int .i64 yk)).setCell ⟨w.heap.size + 1, 1, none⟩ (.string ynm)).setCell ⟨w.heap.size + 1, 2, none⟩ (.int .i64 n2)).setCell ⟨w.heap.size + 1, 3, none⟩ (.int .i64 ytk)).setCell ⟨w.heap.size + 1, 4, none⟩ (.slice yta ytn ytc)).setCell ⟨w.heap.size + 1, 5, none⟩ (.slice ya ym yc)).heap[b]? = W.heap[b]? := fun b hb => by
      rw [heap_setCell_other _ _ _ _ (by simpa using hb), heap_setCell_other _ _ _ _ (by simpa using hb), heap_setCell_other _ _ _ _ (by simpa using hb), heap_setCell_other _ _ _ _ (by simpa using hb), heap_setCell_other _ _ _ _ (by simpa using hb), heap_setCell_other _ _ _ _ (by simpa using hb)]
    have hzF : ((((((W.setCell ⟨w.heap.size + 1, 0, none⟩ (.int .i64 yk)).setCell ⟨w.heap.size + 1, 1, none⟩ (.string ynm)).setCell ⟨w.heap.size + 1, 2, none⟩ (.int .i64 n2)).setCell ⟨w.heap.size + 1, 3, none⟩ (.int .i64 ytk)).setCell ⟨w.heap.size + 1, 4, none⟩ (.slice yta ytn ytc)).setCell ⟨w.heap.size + 1, 5, none⟩ (.slice ya ym yc)).heap.size = W.heap.size := by simp
    generalize ((((((W.setCell ⟨w.heap.size + 1, 0, none⟩ (.int .i64 yk)).setCell ⟨w.heap.size + 1, 1, none⟩ (.string ynm)).setCell ⟨w.heap.size + 1, 2, none⟩ (.int .i64 n2)).setCell ⟨w.heap.size + 1, 3, none⟩ (.int .i64 ytk)).setCell ⟨w.heap.size + 1, 4, none⟩ (.slice yta ytn ytc)).setCell ⟨w.heap.size + 1, 5, none⟩ (.slice ya ym yc)) = WX at hRF hBF hKF hzF ⊢
    have hK' : WX.heap[D]? = some (.deferred (some [])) := by rw [hKF D (by have := HDD.out; have := HW1.out; omega)]; exact HKD.out
    refine ⟨by simp, .inl ⟨_, _, rfl, run_takeDeferred hK', ?_⟩⟩
    have hgp := grownBy_putObj' WX D (.deferred none)
    have hnc : ∀ r, some D = some r → ∃ o : Obj, WX.heap[r]? = some o ∧ o.isCells = false := fun r e => by cases e; exact ⟨_, hK', rfl⟩
    have g0 := cell_kept (hRF.2 0) hgp hnc
    have g1 := cell_kept (hRF.2 1) hgp hnc
    have g2 := cell_kept (hRF.2 2) hgp hnc
    have g3 := cell_kept (hRF.2 3) hgp hnc
    have g4 := cell_kept (hRF.2 4) hgp hnc
    have g5 := cell_kept (hRF.2 5) hgp hnc
    refine ⟨.agg #[.int .i64 yk, .string ynm, .int .i64 n2, .int .i64 ytk, .slice yta ytn ytc, .slice ya ym yc], by simp [results, Try.f32, go_sem, g0, g1, g2, g3, g4, g5], _, fp, rfl, ?_, ?_, ?_⟩
    · refine HEX.out.kept (by rw [← hzF]; exact hgp.size) fun b hb => ?_
      have h1 := HFP.out.2 b hb
      have h2 := HDD.out
      rw [World.putObj_heap_other (by omega), hKF b (by omega)]
    · refine ⟨HFP.out.1, fun b hb => ?_⟩
      have h1 := HFP.out.2 b hb
      have h2 := hgp.size
      have h3 := HCOK.out.1
      have h4 := HZV.out
      omega
    · exact hBF.grown hgp hBF.size (fun j e => by cases e; have := HDD.out; have := HW1.out; omega)
  case stop =>
    rintro D c pre W _ _ h _
    exact h.elim
theorem implRenumber (d : Nat) (v : Value) (t : Ex) (w : World) (hsz : t.bulk ≤ 1048576) (h : ExAt w d v t) :
    Calls Try.prog 32 #[v] w (ToExEnd d (t.ren 1) w) :=
  (callsIn_wide (n := 5)).1 (implRenumber_in Fence.wide rfl 5 trivial trivial trivial trivial trivial trivial rfl (by omega) d v t w h hsz fun _ w' h' => callsIn_wide.2 (implExCopy d v t w' hsz h'))
end Go.Proofs.Ytimigpdbegfjaaa
