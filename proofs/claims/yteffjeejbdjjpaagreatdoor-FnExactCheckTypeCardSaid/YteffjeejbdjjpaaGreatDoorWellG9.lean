/-
  Proved: laws.szTyping and szTypingS say whether what typings hold fits into what is left; they leave the memory that was there as it was.
-/
import Derived.Test.YteffjeejbdjjpaaGreatDoorWellG1
import Derived.Test.YteffjeejbdjjpaaGreatDoorWellG2
import Derived.Test.YteffjeejbdjjpaaGreatDoorWellG3
/-
  Proved: laws.szType and szTypeS say whether a tree's nodes fit into what is left; they leave the memory that was there as it was.
-/
namespace Go.Proofs.YteffjeejbdjjpaaGreatDoor
open Go.RowKit

/-- What measuring a tree ends in: the nodes below the root are taken from what is left. -/
def SzTyEnd (n : Nat) (left : Int) (w : World) (e : Ending) (w' : World) : Prop :=
  ∃ r : Int, e = .returned (.int .i64 r) ∧ Below w.heap.size w w' ∧ ((r < 0 ∧ -9223372036854775808 ≤ r) ∨ (0 ≤ r ∧ r + n = left))
def SzTySaid (d : Nat) : Prop := ∀ (v : Value) (t : Ty) (left : Int) (w : World), 0 ≤ left → left ≤ 1048576 → TyAt w d v t →
  Calls Tryz.prog 19 #[v, .int .i64 left] w (SzTyEnd (t.size - 1) left w)
def SzTysSaid (d : Nat) : Prop := ∀ (v : Value) (ts : List Ty) (left : Int) (w : World), 0 ≤ left → left ≤ 1048576 → TysAt w d v ts →
  Calls Tryz.prog 43 #[v, .int .i64 left] w (SzTyEnd (Ty.sizes ts) left w)

set_option maxRecDepth 100000 in
set_option maxHeartbeats 1000000 in
theorem szTys_step (d : Nat) (ih : SzTySaid d) : SzTysSaid d := by
  intro v ts left w hl0 hl1 h
  have IH := Lib.hid ih; clear ih
  obtain ⟨a, cap, rfl, hcap, hcap2, hat⟩ := h
  have HAT := Lib.hid hat; clear hat
  by_cases hneg : left - ts.length < 0
  · go_enter Tryz.func43, Tryz.ntmps43
    go_wp2_with fail
    go_ret
    exact ⟨-1, rfl, Below.refl _ _, Or.inl ⟨by omega, by omega⟩⟩
  · go_enter Tryz.func43, Tryz.ntmps43
    go_wp2_with fail
    go_loopw [1, 5] (fun l i wr => ∃ (k : Nat) (m : Int), k ≤ ts.length ∧ i = .int .i64 k ∧ l = .int .i64 m ∧ 0 ≤ m ∧ m ≤ 1048576 ∧ m + (ts.length - k) + Ty.sizes (ts.take k) = left ∧ Below w.heap.size w wr) (fun _ i _ => ts.length - (intOf i).toNat)
    case atStart => exact ⟨0, left - ts.length, by omega, rfl, rfl, by omega, by omega, by simp [Ty.sizes], Below.refl _ _⟩
    case round =>
      obtain ⟨k, m, hk, rfl, rfl, hm0, hm1, he, hb⟩ := hrel
      have HE := Lib.hid he; clear he
      have HB := Lib.hid hb; clear hb
      by_cases hlt : k < ts.length
      · obtain ⟨b, off, x0, x1, rfl, hbl, hc0, hc1, ht⟩ := HAT.out k hlt
        have e0 : wr.cell? ⟨b, off + k * 2, none⟩ = some x0 := by rw [HB.out.cell (p := ⟨b, off + k * 2, none⟩) hbl]; exact hc0
        have e1 : wr.cell? ⟨b, off + k * 2 + 1, none⟩ = some x1 := by rw [HB.out.cell (p := ⟨b, off + k * 2 + 1, none⟩) hbl]; exact hc1
        have HT := Lib.hid (ht.below HB.out)
        have HS := Lib.hid (Ty.sizes_take ts k hlt)
        have HP := ts[k].size_pos
        clear ht hc0 hc1
        go_wp2_with fail
        refine (IH.out _ _ m wr hm0 hm1 HT.out).mono ?_
        rintro e w' ⟨r, rfl, hb1, hr⟩
        have HN := Lib.hid (HB.out.trans (hb1.mono HB.out.size)); clear hb1
        rcases hr with ⟨hr, hr2⟩ | ⟨hr, hr2⟩
        · go_wp2_with fail
          go_ret
          exact ⟨-1, rfl, HN.out, Or.inl ⟨by omega, by omega⟩⟩
        · have HR := Lib.hid hr2; clear hr2
          have hr3 : r ≤ 1048576 := by have := HR.out; omega
          go_wp2_with fail
          exact ⟨⟨k + 1, r, by omega, by go_num, rfl, hr, hr3, by rw [HS.out]; have h1 := HE.out; have h2 := HR.out; omega, HN.out⟩, by simp [intOf]; omega⟩
      · obtain rfl : k = ts.length := by omega
        go_wp2_with fail
        go_ret
        refine ⟨m, rfl, HB.out, Or.inr ⟨hm0, ?_⟩⟩
        have := HE.out
        rw [List.take_length] at this; omega

set_option maxRecDepth 100000 in
set_option maxHeartbeats 1000000 in
theorem szTy_step (d : Nat) (ih : SzTysSaid d) : SzTySaid (d + 1) := by
  intro v t left w hl0 hl1 h
  have IH := Lib.hid ih; clear ih
  cases t with
  | node kd ts =>
    obtain ⟨sl, rfl, hk0, hk1, h⟩ := h
    have HT : Hid (TysAt (w.alloc (.cells #[.int .i64 kd, sl] 25)) d sl ts) := TysAt.below h ((Below.refl _ _).alloc (Nat.le_refl _) _)
    obtain ⟨a, cap, rfl, _⟩ := h
    go_enter Tryz.func19, Tryz.ntmps19
    go_wp2_with fail
    refine (IH.out _ _ left _ hl0 hl1 HT.out).mono ?_
    rintro e w' ⟨r, rfl, hb1, hr⟩
    have HN := Lib.hid (((Below.refl w.heap.size w).alloc (Nat.le_refl _) _).trans (hb1.mono (by simp))); clear hb1
    have e1 : Hid ((Ty.node kd ts).size - 1 = Ty.sizes ts) := by show _ = _; simp [Ty.size]
    rcases hr with ⟨hr, hr2⟩ | ⟨hr, hr2⟩
    · go_wp2_with fail
      go_ret
      exact ⟨-1, rfl, HN.out, Or.inl ⟨by omega, by omega⟩⟩
    · have HR := Lib.hid hr2; clear hr2
      go_wp2_with fail
      go_ret
      exact ⟨r, rfl, HN.out, Or.inr ⟨hr, by rw [e1.out]; exact HR.out⟩⟩
theorem szTy_all : ∀ d, SzTySaid d
  | 0 => fun _ _ _ _ _ _ h => h.elim
  | d + 1 => szTy_step d (szTys_step d (szTy_all d))
end Go.Proofs.YteffjeejbdjjpaaGreatDoor
/-
  Proved: laws.szExpr and szExprS say whether what an expression holds fits into what is left; they leave the memory that was there as it was.
-/
namespace Go.Proofs.YteffjeejbdjjpaaGreatDoor
open Go.RowKit

theorem below_box (w : World) (o : Obj) : Below w.heap.size w (w.alloc o) := (Below.refl _ _).alloc (Nat.le_refl _) _
def SzExSaid (d : Nat) : Prop := ∀ (v : Value) (t : Ex) (left : Int) (w : World), 0 ≤ left → left ≤ 1048576 → ExAt w d v t →
  Calls Tryz.prog 7 #[v, .int .i64 left] w (SzTyEnd t.bulk left w)
def SzExsSaid (d : Nat) : Prop := ∀ (v : Value) (ts : List Ex) (left : Int) (w : World), 0 ≤ left → left ≤ 1048576 → ExsAt w d v ts →
  Calls Tryz.prog 26 #[v, .int .i64 left] w (SzTyEnd (Ex.bulks ts) left w)

set_option maxRecDepth 100000 in
set_option maxHeartbeats 2000000 in
theorem szExs_step (d : Nat) (ih : SzExSaid d) : SzExsSaid d := by
  intro v ts left w hl0 hl1 h
  have IH := Lib.hid ih; clear ih
  obtain ⟨a, cap, rfl, hcap, hcap2, hat⟩ := h
  have HAT := Lib.hid hat; clear hat
  by_cases hneg : left - ts.length < 0
  · have HLN := Lib.hid (Ex.length_le ts)
    go_enter Tryz.func26, Tryz.ntmps26
    go_wp2_with fail
    go_ret
    exact ⟨-1, rfl, Below.refl _ _, Or.inl ⟨by omega, by omega⟩⟩
  · go_enter Tryz.func26, Tryz.ntmps26
    go_wp2_with fail
    go_loopw [1, 5] (fun l i wr => ∃ (k : Nat) (m : Int), k ≤ ts.length ∧ i = .int .i64 k ∧ l = .int .i64 m ∧ 0 ≤ m ∧ m ≤ 1048576 ∧ m + (ts.length - k) + Ex.bulks (ts.take k) = left ∧ Below w.heap.size w wr) (fun _ i _ => ts.length - (intOf i).toNat)
    case atStart => exact ⟨0, left - ts.length, by omega, rfl, rfl, by omega, by omega, by simp [Ex.bulks], Below.refl _ _⟩
    case round =>
      obtain ⟨k, m, hk, rfl, rfl, hm0, hm1, he, hb⟩ := hrel
      have HE := Lib.hid he; clear he
      have HB := Lib.hid hb; clear hb
      by_cases hlt : k < ts.length
      · obtain ⟨b, off, x0, x1, x2, x3, x4, x5, rfl, hbl, hc0, hc1, hc2, hc3, hc4, hc5, ht⟩ := HAT.out k hlt
        have e0 : wr.cell? ⟨b, off + k * 6, none⟩ = some x0 := by rw [HB.out.cell (p := ⟨b, off + k * 6, none⟩) hbl]; exact hc0
        have e1 : wr.cell? ⟨b, off + k * 6 + 1, none⟩ = some x1 := by rw [HB.out.cell (p := ⟨b, off + k * 6 + 1, none⟩) hbl]; exact hc1
        have e2 : wr.cell? ⟨b, off + k * 6 + 2, none⟩ = some x2 := by rw [HB.out.cell (p := ⟨b, off + k * 6 + 2, none⟩) hbl]; exact hc2
        have e3 : wr.cell? ⟨b, off + k * 6 + 3, none⟩ = some x3 := by rw [HB.out.cell (p := ⟨b, off + k * 6 + 3, none⟩) hbl]; exact hc3
        have e4 : wr.cell? ⟨b, off + k * 6 + 4, none⟩ = some x4 := by rw [HB.out.cell (p := ⟨b, off + k * 6 + 4, none⟩) hbl]; exact hc4
        have e5 : wr.cell? ⟨b, off + k * 6 + 5, none⟩ = some x5 := by rw [HB.out.cell (p := ⟨b, off + k * 6 + 5, none⟩) hbl]; exact hc5
        have HT := Lib.hid (ht.below HB.out)
        have HS := Lib.hid (Ex.bulks_take ts k hlt)
        clear ht hc0 hc1 hc2 hc3 hc4 hc5
        go_wp2_with fail
        refine (IH.out _ _ m wr hm0 hm1 HT.out).mono ?_
        rintro e w' ⟨r, rfl, hb1, hr⟩
        have HN := Lib.hid (HB.out.trans (hb1.mono HB.out.size)); clear hb1
        rcases hr with ⟨hr, hr2⟩ | ⟨hr, hr2⟩
        · go_wp2_with fail
          go_ret
          exact ⟨-1, rfl, HN.out, Or.inl ⟨by omega, by omega⟩⟩
        · have HR := Lib.hid hr2; clear hr2
          have hr3 : r ≤ 1048576 := by have := HR.out; omega
          go_wp2_with fail
          exact ⟨⟨k + 1, r, by omega, by go_num, rfl, hr, hr3, by rw [HS.out]; have h1 := HE.out; have h2 := HR.out; omega, HN.out⟩, by simp [intOf]; omega⟩
      · obtain rfl : k = ts.length := by omega
        go_wp2_with fail
        go_ret
        refine ⟨m, rfl, HB.out, Or.inr ⟨hm0, ?_⟩⟩
        have := HE.out
        rw [List.take_length] at this; omega

set_option maxRecDepth 100000 in
set_option maxHeartbeats 2000000 in
theorem szEx_step (d : Nat) (ih : SzExsSaid d) : SzExSaid (d + 1) := by
  intro v t left w hl0 hl1 h
  have IH := Lib.hid ih; clear ih
  have HV := ex_parts h
  cases t with
  | node kd nm n ty ts =>
    obtain ⟨c3, c4, sl, rfl, hk0, hk1, hn0, hn1, hnm, hty, h⟩ := h
    obtain ⟨k', nm', n', tk, ta, tn, tc, sa, sn, sc, hv⟩ := HV
    injection hv with hv
    injection hv with hv
    simp at hv
    obtain ⟨rfl, rfl, rfl, rfl, rfl, rfl⟩ := hv
    have hb0 := below_box w (.cells #[.int .i64 kd, .string nm, .int .i64 n, .int .i64 tk, .slice ta tn tc, .slice sa sn sc] 28)
    have HTY := Lib.hid (hty.below hb0)
    have HT : Hid (ExsAt (w.alloc (.cells #[.int .i64 kd, .string nm, .int .i64 n, .int .i64 tk, .slice ta tn tc, .slice sa sn sc] 28)) d (.slice sa sn sc) ts) := ExsAt.below h hb0
    clear hty h hb0
    have hbk : Hid ((Ex.node kd nm n ty ts).bulk = nm.size + (ty.size - 1) + Ex.bulks ts) := rfl
    by_cases hneg : left - (nm.size : Int) < 0
    · go_enter Tryz.func7, Tryz.ntmps7
      go_wp2_with fail
      go_ret
      exact ⟨-1, rfl, below_box _ _, Or.inl ⟨by omega, by omega⟩⟩
    · go_enter Tryz.func7, Tryz.ntmps7
      go_wp2_with fail
      refine (szTy_all d _ ty _ _ (by omega) (by omega) HTY.out).mono ?_
      rintro e w' ⟨r, rfl, hb1, hr⟩
      have HN := Lib.hid (box_next (Below.refl _ _) hb1)
      have HTN := Lib.hid (HT.out.below hb1); clear hb1
      have b5 := box_cell HN.out 5
      rcases hr with ⟨hr, hr2⟩ | ⟨hr, hr2⟩
      · go_wp2_with fail
        go_ret
        exact ⟨-1, rfl, box_below HN.out, Or.inl ⟨by omega, by omega⟩⟩
      · have HR := Lib.hid hr2
        have hr3 : r ≤ 1048576 := by omega
        clear hr2
        go_wp2_with fail
        refine (IH.out _ _ r _ hr hr3 HTN.out).mono ?_
        rintro e w2 ⟨s, rfl, hb2, hs⟩
        have HN2 := Lib.hid (box_next HN.out hb2); clear hb2
        rcases hs with ⟨hs, hs2⟩ | ⟨hs, hs2⟩
        · go_wp2_with fail
          go_ret
          exact ⟨-1, rfl, box_below HN2.out, Or.inl ⟨by omega, by omega⟩⟩
        · have HS := Lib.hid hs2; clear hs2
          go_wp2_with fail
          go_ret
          exact ⟨s, rfl, box_below HN2.out, Or.inr ⟨hs, by rw [hbk.out]; have h1 := HR.out; have h2 := HS.out; omega⟩⟩
theorem szEx_all : ∀ d, SzExSaid d
  | 0 => fun _ _ _ _ _ _ h => h.elim
  | d + 1 => szEx_step d (szExs_step d (szEx_all d))
end Go.Proofs.YteffjeejbdjjpaaGreatDoor
namespace Go.Proofs.YteffjeejbdjjpaaGreatDoor
open Go.RowKit

set_option maxRecDepth 100000 in
set_option maxHeartbeats 2000000 in
theorem szBi (d : Nat) (v : Value) (t : Bi) (left : Int) (w : World) (hl0 : 0 ≤ left) (hl1 : left ≤ 1048576) (h : BiAt w d v t) :
    Calls Tryz.prog 25 #[v, .int .i64 left] w (SzTyEnd t.bulk left w) := by
  cases t with
  | mk nm ty =>
    obtain ⟨tk, ta, tn, tc, rfl, hnm, hty⟩ := h
    dsimp only at hnm hty ⊢
    have hb0 := below_alloc w (.cells #[.string nm, .int .i64 tk, .slice ta tn tc] 56)
    have HTY := Lib.hid (hty.below hb0)
    clear hty hb0
    have hbk : Hid ((Bi.mk nm ty).bulk = nm.size + (ty.size - 1)) := rfl
    by_cases hneg : left - (nm.size : Int) < 0
    · go_enter Tryz.func25, Tryz.ntmps25
      go_wp2_with fail
      go_ret
      exact ⟨-1, rfl, below_alloc _ _, Or.inl ⟨by omega, by omega⟩⟩
    · go_enter Tryz.func25, Tryz.ntmps25
      go_wp2_with fail
      refine (szTy_all d _ ty _ _ (by omega) (by omega) HTY.out).mono ?_
      rintro e w' ⟨r, rfl, hb1, hr⟩
      have HN := Lib.hid (below_thru (below_alloc w (.cells #[.string nm, .int .i64 tk, .slice ta tn tc] 56)) (Nat.le_refl _) hb1)
      clear hb1
      rcases hr with ⟨hr, hr2⟩ | ⟨hr, hr2⟩
      · go_wp2_with fail
        go_ret
        exact ⟨-1, rfl, HN.out, Or.inl ⟨by omega, by omega⟩⟩
      · go_wp2_with fail
        go_ret
        exact ⟨r, rfl, HN.out, Or.inr ⟨hr, by rw [hbk.out]; omega⟩⟩

set_option maxRecDepth 100000 in
set_option maxHeartbeats 2000000 in
theorem szBis (d : Nat) (v : Value) (ts : List Bi) (left : Int) (w : World) (hl0 : 0 ≤ left) (hl1 : left ≤ 1048576) (h : BisAt w d v ts) :
    Calls Tryz.prog 6 #[v, .int .i64 left] w (SzTyEnd (Bi.bulks ts) left w) := by
  obtain ⟨a, cap, rfl, hcap, hcap2, hat⟩ := h
  have HAT := Lib.hid hat; clear hat
  by_cases hneg : left - ts.length < 0
  · have HLN := Lib.hid (Bi.length_le ts)
    go_enter Tryz.func6, Tryz.ntmps6
    go_wp2_with fail
    go_ret
    exact ⟨-1, rfl, Below.refl _ _, Or.inl ⟨by omega, by omega⟩⟩
  · go_enter Tryz.func6, Tryz.ntmps6
    go_wp2_with fail
    go_loopw [1, 5] (fun l i wr => ∃ (k : Nat) (m : Int), k ≤ ts.length ∧ i = .int .i64 k ∧ l = .int .i64 m ∧ 0 ≤ m ∧ m ≤ 1048576 ∧ m + (ts.length - k) + Bi.bulks (ts.take k) = left ∧ Below w.heap.size w wr) (fun _ i _ => ts.length - (intOf i).toNat)
    case atStart => exact ⟨0, left - ts.length, by omega, rfl, rfl, by omega, by omega, by simp [Bi.bulks], Below.refl _ _⟩
    case round =>
      obtain ⟨k, m, hk, rfl, rfl, hm0, hm1, he, hb⟩ := hrel
      have HE := Lib.hid he; clear he
      have HB := Lib.hid hb; clear hb
      by_cases hlt : k < ts.length
      · obtain ⟨b, off, x0, x1, x2, rfl, hbl, hc0, hc1, hc2, ht⟩ := HAT.out k hlt
        have e0 : wr.cell? ⟨b, off + k * 3, none⟩ = some x0 := by rw [HB.out.cell (p := ⟨b, off + k * 3, none⟩) hbl]; exact hc0
        have e1 : wr.cell? ⟨b, off + k * 3 + 1, none⟩ = some x1 := by rw [HB.out.cell (p := ⟨b, off + k * 3 + 1, none⟩) hbl]; exact hc1
        have e2 : wr.cell? ⟨b, off + k * 3 + 2, none⟩ = some x2 := by rw [HB.out.cell (p := ⟨b, off + k * 3 + 2, none⟩) hbl]; exact hc2
        have HT := Lib.hid (ht.below HB.out)
        have HS := Lib.hid (Bi.bulks_take ts k hlt)
        clear ht hc0 hc1 hc2
        go_wp2_with fail
        refine (szBi d _ _ m wr hm0 hm1 HT.out).mono ?_
        rintro e w' ⟨r, rfl, hb1, hr⟩
        have HN := Lib.hid (HB.out.trans (hb1.mono HB.out.size)); clear hb1
        rcases hr with ⟨hr, hr2⟩ | ⟨hr, hr2⟩
        · go_wp2_with fail
          go_ret
          exact ⟨-1, rfl, HN.out, Or.inl ⟨by omega, by omega⟩⟩
        · have HR := Lib.hid hr2; clear hr2
          have hr3 : r ≤ 1048576 := by have := HR.out; omega
          go_wp2_with fail
          exact ⟨⟨k + 1, r, by omega, by go_num, rfl, hr, hr3, by rw [HS.out]; have h1 := HE.out; have h2 := HR.out; omega, HN.out⟩, by simp [intOf]; omega⟩
      · obtain rfl : k = ts.length := by omega
        go_wp2_with fail
        go_ret
        refine ⟨m, rfl, HB.out, Or.inr ⟨hm0, ?_⟩⟩
        have := HE.out
        rw [List.take_length] at this; omega
end Go.Proofs.YteffjeejbdjjpaaGreatDoor
