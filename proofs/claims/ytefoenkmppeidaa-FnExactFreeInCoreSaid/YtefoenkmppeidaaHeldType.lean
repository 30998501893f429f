/-
  Proved: laws.heldTypeS finds the numbers that marking wrote into the nodes below a tree's root, and changes no memory that was there; markType and heldType are the same one node up.
-/
import Derived.Test.YtefoenkmppeidaaMarkType
namespace Go.Proofs.Ytefoenkmppeidaa
open Go.RowKit

def HeldEnd (n : Nat) (k : Int) (w : World) (e : Ending) (w' : World) : Prop := e = .returned (.int .i64 (k + n)) ∧ Below w.heap.size w w'
def HeldTysSaid (d : Nat) : Prop := ∀ (v : Value) (ts : List Ty) (k : Int) (w : World), 0 ≤ k → k + Ty.sizes ts ≤ 1099511627776 → TysAt w d v (Ty.marks ts k) →
  Calls Try.prog 90 #[v, .int .i64 k] w (HeldEnd (Ty.sizes ts) k w)

set_option maxRecDepth 100000 in
set_option maxHeartbeats 1000000 in
theorem heldTys_step (d : Nat) (ih : HeldTysSaid d) : HeldTysSaid (d + 1) := by
  intro v ts k w hk0 hk1 h
  have IH := Lib.hid ih; clear ih
  obtain ⟨a, cap, rfl, hcap, hcap2, hat⟩ := h
  rw [Ty.marks_length] at hcap ⊢
  have HAT := Lib.hid hat; clear hat
  go_enter Try.func90, Try.ntmps90
  go_wp2_with fail
  go_loopw [1, 5] (fun m i wr => ∃ (j : Nat), j ≤ ts.length ∧ i = .int .i64 j ∧ m = .int .i64 (k + Ty.sizes (ts.take j)) ∧ Below w.heap.size w wr) (fun _ i _ => ts.length - (intOf i).toNat)
  case atStart => exact ⟨0, by omega, rfl, by simp [Ty.sizes], Below.refl _ _⟩
  case round =>
    obtain ⟨j, hj, rfl, rfl, hb⟩ := hrel
    have HB := Lib.hid hb; clear hb
    by_cases hlt : j < ts.length
    · obtain ⟨b, off, x0, x1, rfl, hbl, hc0, hc1, hty⟩ := HAT.out j (by rw [Ty.marks_length]; exact hlt)
      rw [Ty.marks_get ts k j hlt] at hty
      have HS := Lib.hid (Ty.sizes_take ts j hlt)
      have hle := Ty.sizes_le ts (j + 1)
      cases htj : ts[j] with
      | node kd us =>
        have hsz : ts[j].size = 1 + Ty.sizes us := by rw [htj]; rfl
        rw [htj] at hty
        obtain ⟨sl, hv, h0, h1, hus⟩ := hty
        have hc : x0 = .int .i64 (k + Ty.sizes (ts.take j)) ∧ x1 = sl := by injection hv with hv; injection hv with hv; simpa using hv
        obtain ⟨rfl, rfl⟩ := hc
        have e0 : wr.cell? ⟨b, off + j * 2, none⟩ = some (.int .i64 (k + Ty.sizes (ts.take j))) := by rw [HB.out.cell (p := ⟨b, off + j * 2, none⟩) hbl]; exact hc0
        have e1 : wr.cell? ⟨b, off + j * 2 + 1, none⟩ = some x1 := by rw [HB.out.cell (p := ⟨b, off + j * 2 + 1, none⟩) hbl]; exact hc1
        have HUS : Hid (TysAt wr d x1 (Ty.marks us (k + Ty.sizes (ts.take j) + 1))) := TysAt.below hus HB.out
        obtain ⟨a2, cap2, rfl, _⟩ := hus
        clear hv hc0 hc1
        have W4 : k + Ty.sizes (ts.take j) + 1 + Ty.sizes us ≤ 1099511627776 := by have := HS.out; omega
        go_wp2_with fail
        refine (IH.out _ us (k + Ty.sizes (ts.take j) + 1) wr (by omega) W4 HUS.out).mono ?_
        rintro e w' ⟨rfl, hb1⟩
        have HB1 := Lib.hid (HB.out.trans (hb1.mono HB.out.size)); clear hb1
        go_wp2_with fail
        exact ⟨⟨j + 1, by omega, by go_num, by rw [HS.out, hsz]; go_num, HB1.out⟩, by simp [intOf]; omega⟩
    · have hjn : j = ts.length := by omega
      subst hjn
      go_wp2_with fail
      go_ret
      exact ⟨by rw [List.take_length]; rfl, HB.out⟩
theorem heldTys_zero : HeldTysSaid 0 := by
  intro v ts k w hk0 hk1 h
  obtain ⟨a, cap, rfl, hcap, hcap2, hat⟩ := h
  cases ts with
  | cons t r =>
    obtain ⟨_, _, _, _, _, _, _, _, hr⟩ := hat 0 (by simp [Ty.marks])
    exact hr.elim
  | nil =>
    go_enter Try.func90, Try.ntmps90
    go_wp2_with fail
    go_loop [1, 5] (fun m i => m = .int .i64 k ∧ i = .int .i64 0) (fun _ _ => 0)
    case atStart => exact ⟨rfl, rfl⟩
    case round =>
      obtain ⟨rfl, rfl⟩ := hrel
      go_wp2_with fail
      go_ret
      exact ⟨by simp [Ty.sizes], Below.refl _ _⟩
theorem heldTys_all : ∀ d, HeldTysSaid d
  | 0 => heldTys_zero
  | d + 1 => heldTys_step d (heldTys_all d)

/-- The tree with all nodes but the root numbered from k on. -/
def Ty.markIn : Ty → Int → Ty
  | .node kd us, k => .node kd (Ty.marks us k)
def MarkTyEnd (B d : Nat) (v : Value) (t : Ty) (fp : List Nat) (k : Int) (w : World) (e : Ending) (w' : World) : Prop :=
  e = .returned (.int .i64 (k + (t.size - 1 : Nat))) ∧ TyOwn w' d v (t.markIn k) fp ∧ Below B w w' ∧ (∀ b, b < w.heap.size → b ∉ fp → w'.heap[b]? = w.heap[b]?)
set_option maxRecDepth 100000 in
set_option maxHeartbeats 1000000 in
theorem markTy (B d : Nat) (v : Value) (t : Ty) (fp : List Nat) (k : Int) (w : World) (hB : B ≤ w.heap.size) (hfB : ∀ b, b ∈ fp → B ≤ b) (hnd : fp.Nodup) (hk0 : 0 ≤ k) (hk1 : k + t.size ≤ 1099511627776) (h : TyOwn w d v t fp) :
    Calls Try.prog 49 #[v, .int .i64 k] w (MarkTyEnd B d v t fp k w) := by
  cases d with
  | zero => exact h.elim
  | succ d =>
    cases t with
    | node kd us =>
      have hlt := h.lt
      obtain ⟨sl, rfl, h0, h1, h⟩ := h
      have e1 : Below w.heap.size w (w.alloc (.cells #[.int .i64 kd, sl] 31)) := (Below.refl _ _).alloc (Nat.le_refl _) _
      have HU : Hid (TysOwn (w.alloc (.cells #[.int .i64 kd, sl] 31)) d sl us fp) := TysOwn.kept h e1.size fun b hb => e1.block b (hlt b hb)
      have HE := Lib.hid e1; clear e1
      have HLT := Lib.hid hlt; clear hlt
      have HND := Lib.hid hnd; clear hnd
      have HFB := Lib.hid hfB; clear hfB
      have hsz : (Ty.node kd us).size = 1 + Ty.sizes us := rfl
      obtain ⟨a2, cap2, hd2, fps2, rfl, _⟩ := h
      go_enter Try.func49, Try.ntmps49
      go_wp2_with fail
      refine (markTys_all d B _ us fp k _ (by simp; omega) HFB.out HND.out hk0 (by omega) HU.out).mono ?_
      rintro e w' ⟨rfl, ht, hb1, hout⟩
      have HT := Lib.hid ht; clear ht
      have HB := Lib.hid hb1; clear hb1
      have HO := Lib.hid hout; clear hout
      go_wp2_with fail
      go_ret
      refine ⟨by rw [hsz, Nat.add_sub_cancel_left]; rfl, ⟨_, rfl, h0, h1, HT.out⟩, ((Below.refl _ _).alloc hB _).trans HB.out, fun b h1 h2 => ?_⟩
      rw [HO.out b (by simp; omega) h2]
      exact HE.out.block b h1
def HeldTyEnd (t : Ty) (k : Int) (w : World) (e : Ending) (w' : World) : Prop := e = .returned (.int .i64 (k + (t.size - 1 : Nat))) ∧ Below w.heap.size w w'
set_option maxRecDepth 100000 in
set_option maxHeartbeats 1000000 in
theorem heldTy (d : Nat) (v : Value) (t : Ty) (k : Int) (w : World) (hk0 : 0 ≤ k) (hk1 : k + t.size ≤ 1099511627776) (h : TyAt w d v (t.markIn k)) :
    Calls Try.prog 51 #[v, .int .i64 k] w (HeldTyEnd t k w) := by
  cases d with
  | zero => exact h.elim
  | succ d =>
    cases t with
    | node kd us =>
      obtain ⟨sl, rfl, h0, h1, h⟩ := h
      have e1 : Below w.heap.size w (w.alloc (.cells #[.int .i64 kd, sl] 31)) := (Below.refl _ _).alloc (Nat.le_refl _) _
      have HU : Hid (TysAt (w.alloc (.cells #[.int .i64 kd, sl] 31)) d sl (Ty.marks us k)) := TysAt.below h e1
      have HE := Lib.hid e1; clear e1
      have hsz : (Ty.node kd us).size = 1 + Ty.sizes us := rfl
      obtain ⟨a2, cap2, rfl, _⟩ := h
      go_enter Try.func51, Try.ntmps51
      go_wp2_with fail
      refine (heldTys_all d _ us k _ hk0 (by omega) HU.out).mono ?_
      rintro e w' ⟨rfl, hb1⟩
      have HB := Lib.hid (HE.out.trans (hb1.mono HE.out.size)); clear hb1
      go_wp2_with fail
      go_ret
      exact ⟨by rw [hsz, Nat.add_sub_cancel_left]; rfl, HB.out⟩
end Go.Proofs.Ytefoenkmppeidaa
