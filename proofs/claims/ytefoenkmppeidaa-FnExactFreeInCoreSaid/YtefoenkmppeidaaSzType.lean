/-
  Proved: laws.szType and szTypeS say whether a tree's nodes fit into what is left; they leave the memory that was there as it was.
-/
import Derived.Test.YtefoenkmppeidaaTree
namespace Go.Proofs.Ytefoenkmppeidaa
open Go.RowKit

/-- What measuring a tree ends in: the nodes below the root are taken from what is left. -/
def SzTyEnd (n : Nat) (left : Int) (w : World) (e : Ending) (w' : World) : Prop :=
  ∃ r : Int, e = .returned (.int .i64 r) ∧ Below w.heap.size w w' ∧ ((r < 0 ∧ -9223372036854775808 ≤ r) ∨ (0 ≤ r ∧ r + n = left))
def SzTySaid (d : Nat) : Prop := ∀ (v : Value) (t : Ty) (left : Int) (w : World), 0 ≤ left → left ≤ 1048576 → TyAt w d v t →
  Calls Try.prog 40 #[v, .int .i64 left] w (SzTyEnd (t.size - 1) left w)
def SzTysSaid (d : Nat) : Prop := ∀ (v : Value) (ts : List Ty) (left : Int) (w : World), 0 ≤ left → left ≤ 1048576 → TysAt w d v ts →
  Calls Try.prog 91 #[v, .int .i64 left] w (SzTyEnd (Ty.sizes ts) left w)

set_option maxRecDepth 100000 in
set_option maxHeartbeats 1000000 in
theorem szTys_step (d : Nat) (ih : SzTySaid d) : SzTysSaid d := by
  intro v ts left w hl0 hl1 h
  have IH := Lib.hid ih; clear ih
  obtain ⟨a, cap, rfl, hcap, hcap2, hat⟩ := h
  have HAT := Lib.hid hat; clear hat
  by_cases hneg : left - ts.length < 0
  · go_enter Try.func91, Try.ntmps91
    go_wp2_with fail
    go_ret
    exact ⟨-1, rfl, Below.refl _ _, Or.inl ⟨by omega, by omega⟩⟩
  · go_enter Try.func91, Try.ntmps91
    go_wp2_with fail
    go_loopw [1, 5] (fun l i wr => ∃ (k : Nat) (m : Int), k ≤ ts.length ∧ i = .int .i64 k ∧ l = .int .i64 m ∧ 0 ≤ m ∧ m ≤ 1048576 ∧ m + (ts.length - k) + Ty.sizes (ts.take k) = left ∧ Below w.heap.size w wr) (fun _ i _ => ts.length - (intOf i).toNat)
    case atStart => exact ⟨0, left - ts.length, by omega, rfl, rfl, by omega, by omega, by simp [Ty.sizes], Below.refl _ _⟩
    case round =>
      obtain ⟨k, m, hk, rfl, rfl, hm0, hm1, he, hb⟩ := hrel
      have HE := Lib.hid he; clear he
      have HB := Lib.hid hb; clear hb
      by_cases hlt : k < ts.length
      · obtain ⟨b, off, x0, x1, rfl, hbl, hc0, hc1, ht⟩ := HAT.out k hlt
        have e0 : wr.cell? ⟨b, off + k * 2, none⟩ = some x0 := by rw [HB.out.cell (p := ⟨b, off + k * 2, none⟩) hbl]; exact hc0
        have e1 : wr.cell? ⟨b, off + k * 2 + 1, none⟩ = some x1 := by rw [HB.out.cell (p := ⟨b, off + k * 2 + 1, none⟩) hbl]; exact hc1
        have HT := Lib.hid (ht.below HB.out)
        have HS := Lib.hid (Ty.sizes_take ts k hlt)
        have HP := ts[k].size_pos
        clear ht hc0 hc1
        go_wp2_with fail
        refine (IH.out _ _ m wr hm0 hm1 HT.out).mono ?_
        rintro e w' ⟨r, rfl, hb1, hr⟩
        have HN := Lib.hid (HB.out.trans (hb1.mono HB.out.size)); clear hb1
        rcases hr with ⟨hr, hr2⟩ | ⟨hr, hr2⟩
        · go_wp2_with fail
          go_ret
          exact ⟨-1, rfl, HN.out, Or.inl ⟨by omega, by omega⟩⟩
        · have HR := Lib.hid hr2; clear hr2
          have hr3 : r ≤ 1048576 := by have := HR.out; omega
          go_wp2_with fail
          exact ⟨⟨k + 1, r, by omega, by go_num, rfl, hr, hr3, by rw [HS.out]; have h1 := HE.out; have h2 := HR.out; omega, HN.out⟩, by simp [intOf]; omega⟩
      · obtain rfl : k = ts.length := by omega
        go_wp2_with fail
        go_ret
        refine ⟨m, rfl, HB.out, Or.inr ⟨hm0, ?_⟩⟩
        have := HE.out
        rw [List.take_length] at this; omega

set_option maxRecDepth 100000 in
set_option maxHeartbeats 1000000 in
theorem szTy_step (d : Nat) (ih : SzTysSaid d) : SzTySaid (d + 1) := by
  intro v t left w hl0 hl1 h
  have IH := Lib.hid ih; clear ih
  cases t with
  | node kd ts =>
    obtain ⟨sl, rfl, hk0, hk1, h⟩ := h
    have HT : Hid (TysAt (w.alloc (.cells #[.int .i64 kd, sl] 24)) d sl ts) := TysAt.below h ((Below.refl _ _).alloc (Nat.le_refl _) _)
    obtain ⟨a, cap, rfl, _⟩ := h
    go_enter Try.func40, Try.ntmps40
    go_wp2_with fail
    refine (IH.out _ _ left _ hl0 hl1 HT.out).mono ?_
    rintro e w' ⟨r, rfl, hb1, hr⟩
    have HN := Lib.hid (((Below.refl w.heap.size w).alloc (Nat.le_refl _) _).trans (hb1.mono (by simp))); clear hb1
    have e1 : Hid ((Ty.node kd ts).size - 1 = Ty.sizes ts) := by show _ = _; simp [Ty.size]
    rcases hr with ⟨hr, hr2⟩ | ⟨hr, hr2⟩
    · go_wp2_with fail
      go_ret
      exact ⟨-1, rfl, HN.out, Or.inl ⟨by omega, by omega⟩⟩
    · have HR := Lib.hid hr2; clear hr2
      go_wp2_with fail
      go_ret
      exact ⟨r, rfl, HN.out, Or.inr ⟨hr, by rw [e1.out]; exact HR.out⟩⟩
theorem szTy_all : ∀ d, SzTySaid d
  | 0 => fun _ _ _ _ _ _ h => h.elim
  | d + 1 => szTy_step d (szTys_step d (szTy_all d))
end Go.Proofs.Ytefoenkmppeidaa
