/-
  Proved: laws.heldTypeS finds the numbers that marking wrote into the nodes below a tree's root, and changes no memory that was there; markType and heldType are the same one node up.
-/
import Derived.Test.YteffjeejbdjjpaaGreatDoorWellG1
/-
  Proved: laws.markTypeS numbers the nodes below a tree's root in its own memory and touches nothing else; laws.heldTypeS finds the numbers there.
-/
namespace Go.Proofs.YteffjeejbdjjpaaGreatDoor
open Go.RowKit

mutual
/-- The tree with its nodes numbered from k on, the root first. -/
def Ty.mark : Ty → Int → Ty
  | .node _ us, k => .node k (Ty.marks us (k + 1))
def Ty.marks : List Ty → Int → List Ty
  | [], _ => []
  | t :: r, k => t.mark k :: Ty.marks r (k + t.size)
end
theorem Ty.marks_length : ∀ (ts : List Ty) (k : Int), (Ty.marks ts k).length = ts.length
  | [], _ => rfl
  | t :: r, k => by simp [Ty.marks, Ty.marks_length r]
theorem Ty.marks_get : ∀ (ts : List Ty) (k : Int) (j : Nat) (h : j < ts.length) (h' : j < (Ty.marks ts k).length), (Ty.marks ts k)[j] = ts[j].mark (k + Ty.sizes (ts.take j))
  | t :: r, k, 0, _, _ => by simp [Ty.marks, Ty.sizes]
  | t :: r, k, j + 1, h, h' => by
    simp only [Ty.marks, List.getElem_cons_succ, List.take_succ_cons, Ty.sizes]
    rw [Ty.marks_get r (k + t.size) j (by simpa using h)]
    congr 1; omega
theorem flat_sub {fps : List (List Nat)} {j b : Nat} {f : List Nat} (h : fps[j]? = some f) (hb : b ∈ f) : b ∈ fps.flatten := List.mem_flatten.2 ⟨f, List.mem_of_getElem? h, hb⟩
theorem flat_nodup : ∀ {fps : List (List Nat)} {j : Nat} {f : List Nat}, fps.flatten.Nodup → fps[j]? = some f → f.Nodup
  | [], _, _, _, h => by simp at h
  | x :: r, 0, f, hn, h => by
    simp at h; subst h
    rw [List.flatten_cons] at hn
    exact (List.nodup_append.1 hn).1
  | x :: r, j + 1, f, hn, h => by
    rw [List.flatten_cons] at hn
    exact flat_nodup (List.nodup_append.1 hn).2.1 (by simpa using h)
theorem flat_apart : ∀ {fps : List (List Nat)} {i j b : Nat} {f g : List Nat}, fps.flatten.Nodup → fps[i]? = some f → fps[j]? = some g → i ≠ j → b ∈ f → b ∉ g
  | [], _, _, _, _, _, _, h, _, _, _ => by simp at h
  | x :: r, 0, 0, b, f, g, hn, h1, h2, hne, hb => (hne rfl).elim
  | x :: r, 0, j + 1, b, f, g, hn, h1, h2, hne, hb => by
    simp at h1 h2; subst h1
    rw [List.flatten_cons] at hn
    intro hg
    exact (List.nodup_append.1 hn).2.2 b hb b (flat_sub h2 hg) rfl
  | x :: r, i + 1, 0, b, f, g, hn, h1, h2, hne, hb => by
    simp at h1 h2; subst h2
    rw [List.flatten_cons] at hn
    intro hg
    exact (List.nodup_append.1 hn).2.2 b hg b (flat_sub h1 hb) rfl
  | x :: r, i + 1, j + 1, b, f, g, hn, h1, h2, hne, hb => by
    rw [List.flatten_cons] at hn
    exact flat_apart (List.nodup_append.1 hn).2.1 (by simpa using h1) (by simpa using h2) (by omega) hb

def MarkTysEnd (B d : Nat) (v : Value) (ts : List Ty) (fp : List Nat) (k : Int) (w : World) (e : Ending) (w' : World) : Prop :=
  e = .returned (.int .i64 (k + Ty.sizes ts)) ∧ TysOwn w' d v (Ty.marks ts k) fp ∧ Below B w w' ∧ (∀ b, b < w.heap.size → b ∉ fp → w'.heap[b]? = w.heap[b]?)
def MarkTysSaid (d : Nat) : Prop := ∀ (B : Nat) (v : Value) (ts : List Ty) (fp : List Nat) (k : Int) (w : World), B ≤ w.heap.size → (∀ b, b ∈ fp → B ≤ b) → fp.Nodup → 0 ≤ k → k + Ty.sizes ts ≤ 1099511627776 → TysOwn w d v ts fp →
  Calls Tryz.prog 40 #[v, .int .i64 k] w (MarkTysEnd B d v ts fp k w)

set_option maxRecDepth 100000 in
set_option maxHeartbeats 1000000 in
theorem markTys_step (d : Nat) (ih : MarkTysSaid d) : MarkTysSaid (d + 1) := by
  intro B v ts fp k w hB hfB hnd hk0 hk1 h
  have IH := Lib.hid ih; clear ih
  have HFB := Lib.hid hfB; clear hfB
  have HND := Lib.hid hnd; clear hnd
  obtain ⟨a, cap, hd, fps, rfl, hcap, hcap2, hl, hf, hhd, hat⟩ := h
  have HHD := Lib.hid hhd; clear hhd
  have HAT := Lib.hid hat; clear hat
  go_enter Tryz.func40, Tryz.ntmps40
  go_wp2_with fail
  go_loopw [1, 5] (fun m i wr => ∃ (j : Nat), j ≤ ts.length ∧ i = .int .i64 j ∧ m = .int .i64 (k + Ty.sizes (ts.take j)) ∧
      (∀ t (h : t < ts.length), ∃ g off c0 c1 f, a = some ⟨g, off, none⟩ ∧ hd = [g] ∧ g < wr.heap.size ∧ wr.cell? ⟨g, off + t * 2, none⟩ = some c0 ∧ wr.frozen? ⟨g, off + t * 2, none⟩ = false ∧ wr.cell? ⟨g, off + t * 2 + 1, none⟩ = some c1 ∧ fps[t]? = some f ∧ TyOwn wr (d + 1) (.agg #[c0, c1]) (if t < j then ts[t].mark (k + Ty.sizes (ts.take t)) else ts[t]) f) ∧
      Below B w wr ∧ (∀ b, b < w.heap.size → b ∉ fp → wr.heap[b]? = w.heap[b]?)) (fun _ i _ => ts.length - (intOf i).toNat)
  case atStart => exact ⟨0, by omega, rfl, by simp [Ty.sizes], HAT.out, Below.refl _ _, fun _ _ _ => rfl⟩
  case round =>
    obtain ⟨j, hj, rfl, rfl, hrow, hb, hout⟩ := hrel
    have HR := Lib.hid hrow; clear hrow
    have HB := Lib.hid hb; clear hb
    have HO := Lib.hid hout; clear hout
    by_cases hlt : j < ts.length
    · obtain ⟨g, off, c0, c1, f, rfl, rfl, hg, e0, f0, e1, hfj, hty⟩ := HR.out j hlt
      rw [if_neg (Nat.lt_irrefl j)] at hty
      have HS := Lib.hid (Ty.sizes_take ts j hlt)
      have hle := Ty.sizes_le ts (j + 1)
      cases htj : ts[j] with
      | node kd us =>
        rw [htj] at hty
        obtain ⟨sl, hv, h0, h1, hus⟩ := hty
        have hc : c0 = .int .i64 kd ∧ c1 = sl := by injection hv with hv; injection hv with hv; simpa using hv
        obtain ⟨rfl, rfl⟩ := hc
        have hsz : ts[j].size = 1 + Ty.sizes us := by rw [htj]; rfl
        have HUS : Hid (TysOwn wr d c1 us f) := hus
        obtain ⟨a2, cap2, hd2, fps2, rfl, _⟩ := hus
        have HTJ := Lib.hid htj; clear htj
        subst hf
        have hnd := List.nodup_append.1 HND.out
        have HN2 := Lib.hid hnd.2.1
        have HG : Hid (∀ (t : Nat) (f' : List Nat) (b : Nat), fps[t]? = some f' → b ∈ f' → b ≠ g) := fun t f' b hf' hb e => hnd.2.2 g (by simp) b (flat_sub hf' hb) e.symm
        clear hnd hv
        have hgf : g ∉ f := fun hb => HG.out j f g hfj hb rfl
        have HFJ := Lib.hid hfj; clear hfj
        have W1 : B ≤ (wr.setCell ⟨g, off + j * 2, none⟩ (.int .i64 (k + Ty.sizes (ts.take j)))).heap.size := by
          rw [World.size_setCell]; exact Nat.le_trans hB HB.out.size
        have W2 := Lib.hid (show ∀ b, b ∈ f → B ≤ b from fun b hb => HFB.out b (List.mem_append_right _ (flat_sub HFJ.out hb)))
        have W3 := Lib.hid (flat_nodup HN2.out HFJ.out)
        have W4 : k + Ty.sizes (ts.take j) + 1 + Ty.sizes us ≤ 1099511627776 := by have := HS.out; omega
        have W5 : Hid (TysOwn (wr.setCell ⟨g, off + j * 2, none⟩ (.int .i64 (k + Ty.sizes (ts.take j)))) d (.slice a2 us.length cap2) us f) :=
          TysOwn.kept HUS.out (by rw [World.size_setCell]; exact Nat.le_refl _) fun b hb => heap_setCell_other _ _ _ _ (HG.out j f b HFJ.out hb)
        go_wp2_with fail
        refine (IH.out B _ us f (k + Ty.sizes (ts.take j) + 1) _ W1 W2.out W3.out (by omega) W4 W5.out).mono ?_
        rintro e w' ⟨rfl, ht2, hb1, hout1⟩
        have hz1 := hb1.size
        simp at hz1
        have hblk : ∀ b, b ≠ g → b ∉ f → b < wr.heap.size → w'.heap[b]? = wr.heap[b]? := fun b h1 h2 h3 => by
          rw [hout1 b (by simpa using h3) h2, heap_setCell_other _ _ _ _ h1]
        have hgb := hout1 g (by simpa using hg) hgf
        have HT2 := Lib.hid ht2; clear ht2
        have HB1 := Lib.hid ((HB.out.setCell (HFB.out g (by simp)) _).trans hb1); clear hb1
        go_wp2_with fail
        refine ⟨⟨j + 1, by omega, by go_num, by rw [HS.out, hsz]; go_num, fun t ht => ?_, HB1.out, fun b h1 h2 => ?_⟩, by simp [intOf]; omega⟩
        · obtain ⟨g', off', d0, d1, ft, q1, q2, q3, q4, q5, q6, q7, q8⟩ := HR.out t ht
          cases q1
          by_cases htj : t = j
          · subst htj
            rw [HFJ.out] at q7
            cases q7
            refine ⟨g, off, .int .i64 (k + Ty.sizes (ts.take t)), .slice a2 us.length cap2, f, rfl, rfl, by omega, ?_, ?_, ?_, HFJ.out, ?_⟩
            · rw [World.cell?_of_block hgb]; exact World.cell?_setCell_same _ _ _ e0
            · rw [World.frozen?_of_block hgb, World.frozen?_setCell]; exact f0
            · rw [World.cell?_of_block hgb, World.cell?_setCell_other _ _ _ _ (by simp)]; exact e1
            · rw [if_pos (by omega), HTJ.out]
              exact ⟨_, rfl, by omega, by omega, HT2.out⟩
          · refine ⟨g, off, d0, d1, ft, rfl, rfl, by omega, ?_, ?_, ?_, q7, ?_⟩
            · rw [World.cell?_of_block hgb, World.cell?_setCell_other _ _ _ _ (by simp; try omega)]; exact q4
            · rw [World.frozen?_of_block hgb, World.frozen?_setCell]; exact q5
            · rw [World.cell?_of_block hgb, World.cell?_setCell_other _ _ _ _ (by simp; try omega)]; exact q6
            · have e3 : (if t < j + 1 then ts[t].mark (k + Ty.sizes (ts.take t)) else ts[t]) = (if t < j then ts[t].mark (k + Ty.sizes (ts.take t)) else ts[t]) := by
                by_cases hlt2 : t < j
                · rw [if_pos hlt2, if_pos (by omega)]
                · rw [if_neg hlt2, if_neg (by omega)]
              rw [e3]
              exact q8.kept (by omega) fun b hb => hblk b (HG.out t ft b q7 hb) (flat_apart HN2.out q7 HFJ.out htj hb) (TyOwn.lt q8 b hb)
        · have hnb : b ≠ g := fun e => h2 (by rw [e]; simp)
          have hnf : b ∉ f := fun e => h2 (List.mem_append_right _ (flat_sub HFJ.out e))
          rw [hblk b hnb hnf (Nat.lt_of_lt_of_le h1 HB.out.size)]
          exact HO.out b h1 h2
    · have hjn : j = ts.length := by omega
      subst hjn
      go_wp2_with fail
      go_ret
      refine ⟨by rw [List.take_length]; rfl, ⟨a, cap, hd, fps, by rw [Ty.marks_length], by rw [Ty.marks_length]; exact hcap, hcap2, by rw [Ty.marks_length]; exact hl, hf, fun b hb => Nat.lt_of_lt_of_le (HHD.out b hb) HB.out.size, fun t ht => ?_⟩, HB.out, HO.out⟩
      rw [Ty.marks_length] at ht
      obtain ⟨g, off, c0, c1, f, q1, q2, q3, q4, q5, q6, q7, q8⟩ := HR.out t ht
      rw [if_pos ht] at q8
      exact ⟨g, off, c0, c1, f, q1, q2, q3, q4, q5, q6, q7, by rw [Ty.marks_get ts k t ht]; exact q8⟩
theorem markTys_zero : MarkTysSaid 0 := by
  intro B v ts fp k w hB hfB hnd hk0 hk1 h
  obtain ⟨a, cap, hd, fps, rfl, hcap, hcap2, hl, rfl, hhd, hat⟩ := h
  cases ts with
  | cons t r =>
    obtain ⟨_, _, _, _, _, _, _, _, _, _, _, _, hr⟩ := hat 0 (by simp)
    exact hr.elim
  | nil =>
    go_enter Tryz.func40, Tryz.ntmps40
    go_wp2_with fail
    go_loop [1, 5] (fun m i => m = .int .i64 k ∧ i = .int .i64 0) (fun _ _ => 0)
    case atStart => exact ⟨rfl, rfl⟩
    case round =>
      obtain ⟨rfl, rfl⟩ := hrel
      go_wp2_with fail
      go_ret
      exact ⟨by simp [Ty.sizes], ⟨a, cap, hd, fps, rfl, hcap, hcap2, hl, rfl, hhd, fun j hj => by simp [Ty.marks] at hj⟩, Below.refl _ _, fun _ _ _ => rfl⟩
theorem markTys_all : ∀ d, MarkTysSaid d
  | 0 => markTys_zero
  | d + 1 => markTys_step d (markTys_all d)
end Go.Proofs.YteffjeejbdjjpaaGreatDoor
namespace Go.Proofs.YteffjeejbdjjpaaGreatDoor
open Go.RowKit

def HeldEnd (n : Nat) (k : Int) (w : World) (e : Ending) (w' : World) : Prop := e = .returned (.int .i64 (k + n)) ∧ Below w.heap.size w w'
def HeldTysSaid (d : Nat) : Prop := ∀ (v : Value) (ts : List Ty) (k : Int) (w : World), 0 ≤ k → k + Ty.sizes ts ≤ 1099511627776 → TysAt w d v (Ty.marks ts k) →
  Calls Tryz.prog 42 #[v, .int .i64 k] w (HeldEnd (Ty.sizes ts) k w)

set_option maxRecDepth 100000 in
set_option maxHeartbeats 1000000 in
theorem heldTys_step (d : Nat) (ih : HeldTysSaid d) : HeldTysSaid (d + 1) := by
  intro v ts k w hk0 hk1 h
  have IH := Lib.hid ih; clear ih
  obtain ⟨a, cap, rfl, hcap, hcap2, hat⟩ := h
  rw [Ty.marks_length] at hcap ⊢
  have HAT := Lib.hid hat; clear hat
  go_enter Tryz.func42, Tryz.ntmps42
  go_wp2_with fail
  go_loopw [1, 5] (fun m i wr => ∃ (j : Nat), j ≤ ts.length ∧ i = .int .i64 j ∧ m = .int .i64 (k + Ty.sizes (ts.take j)) ∧ Below w.heap.size w wr) (fun _ i _ => ts.length - (intOf i).toNat)
  case atStart => exact ⟨0, by omega, rfl, by simp [Ty.sizes], Below.refl _ _⟩
  case round =>
    obtain ⟨j, hj, rfl, rfl, hb⟩ := hrel
    have HB := Lib.hid hb; clear hb
    by_cases hlt : j < ts.length
    · obtain ⟨b, off, x0, x1, rfl, hbl, hc0, hc1, hty⟩ := HAT.out j (by rw [Ty.marks_length]; exact hlt)
      rw [Ty.marks_get ts k j hlt] at hty
      have HS := Lib.hid (Ty.sizes_take ts j hlt)
      have hle := Ty.sizes_le ts (j + 1)
      cases htj : ts[j] with
      | node kd us =>
        have hsz : ts[j].size = 1 + Ty.sizes us := by rw [htj]; rfl
        rw [htj] at hty
        obtain ⟨sl, hv, h0, h1, hus⟩ := hty
        have hc : x0 = .int .i64 (k + Ty.sizes (ts.take j)) ∧ x1 = sl := by injection hv with hv; injection hv with hv; simpa using hv
        obtain ⟨rfl, rfl⟩ := hc
        have e0 : wr.cell? ⟨b, off + j * 2, none⟩ = some (.int .i64 (k + Ty.sizes (ts.take j))) := by rw [HB.out.cell (p := ⟨b, off + j * 2, none⟩) hbl]; exact hc0
        have e1 : wr.cell? ⟨b, off + j * 2 + 1, none⟩ = some x1 := by rw [HB.out.cell (p := ⟨b, off + j * 2 + 1, none⟩) hbl]; exact hc1
        have HUS : Hid (TysAt wr d x1 (Ty.marks us (k + Ty.sizes (ts.take j) + 1))) := TysAt.below hus HB.out
        obtain ⟨a2, cap2, rfl, _⟩ := hus
        clear hv hc0 hc1
        have W4 : k + Ty.sizes (ts.take j) + 1 + Ty.sizes us ≤ 1099511627776 := by have := HS.out; omega
        go_wp2_with fail
        refine (IH.out _ us (k + Ty.sizes (ts.take j) + 1) wr (by omega) W4 HUS.out).mono ?_
        rintro e w' ⟨rfl, hb1⟩
        have HB1 := Lib.hid (HB.out.trans (hb1.mono HB.out.size)); clear hb1
        go_wp2_with fail
        exact ⟨⟨j + 1, by omega, by go_num, by rw [HS.out, hsz]; go_num, HB1.out⟩, by simp [intOf]; omega⟩
    · have hjn : j = ts.length := by omega
      subst hjn
      go_wp2_with fail
      go_ret
      exact ⟨by rw [List.take_length]; rfl, HB.out⟩
theorem heldTys_zero : HeldTysSaid 0 := by
  intro v ts k w hk0 hk1 h
  obtain ⟨a, cap, rfl, hcap, hcap2, hat⟩ := h
  cases ts with
  | cons t r =>
    obtain ⟨_, _, _, _, _, _, _, _, hr⟩ := hat 0 (by simp [Ty.marks])
    exact hr.elim
  | nil =>
    go_enter Tryz.func42, Tryz.ntmps42
    go_wp2_with fail
    go_loop [1, 5] (fun m i => m = .int .i64 k ∧ i = .int .i64 0) (fun _ _ => 0)
    case atStart => exact ⟨rfl, rfl⟩
    case round =>
      obtain ⟨rfl, rfl⟩ := hrel
      go_wp2_with fail
      go_ret
      exact ⟨by simp [Ty.sizes], Below.refl _ _⟩
theorem heldTys_all : ∀ d, HeldTysSaid d
  | 0 => heldTys_zero
  | d + 1 => heldTys_step d (heldTys_all d)

/-- The tree with all nodes but the root numbered from k on. -/
def Ty.markIn : Ty → Int → Ty
  | .node kd us, k => .node kd (Ty.marks us k)
def MarkTyEnd (B d : Nat) (v : Value) (t : Ty) (fp : List Nat) (k : Int) (w : World) (e : Ending) (w' : World) : Prop :=
  e = .returned (.int .i64 (k + (t.size - 1 : Nat))) ∧ TyOwn w' d v (t.markIn k) fp ∧ Below B w w' ∧ (∀ b, b < w.heap.size → b ∉ fp → w'.heap[b]? = w.heap[b]?)
set_option maxRecDepth 100000 in
set_option maxHeartbeats 1000000 in
theorem markTy (B d : Nat) (v : Value) (t : Ty) (fp : List Nat) (k : Int) (w : World) (hB : B ≤ w.heap.size) (hfB : ∀ b, b ∈ fp → B ≤ b) (hnd : fp.Nodup) (hk0 : 0 ≤ k) (hk1 : k + t.size ≤ 1099511627776) (h : TyOwn w d v t fp) :
    Calls Tryz.prog 17 #[v, .int .i64 k] w (MarkTyEnd B d v t fp k w) := by
  cases d with
  | zero => exact h.elim
  | succ d =>
    cases t with
    | node kd us =>
      have hlt := h.lt
      obtain ⟨sl, rfl, h0, h1, h⟩ := h
      have e1 : Below w.heap.size w (w.alloc (.cells #[.int .i64 kd, sl] 33)) := (Below.refl _ _).alloc (Nat.le_refl _) _
      have HU : Hid (TysOwn (w.alloc (.cells #[.int .i64 kd, sl] 33)) d sl us fp) := TysOwn.kept h e1.size fun b hb => e1.block b (hlt b hb)
      have HE := Lib.hid e1; clear e1
      have HLT := Lib.hid hlt; clear hlt
      have HND := Lib.hid hnd; clear hnd
      have HFB := Lib.hid hfB; clear hfB
      have hsz : (Ty.node kd us).size = 1 + Ty.sizes us := rfl
      obtain ⟨a2, cap2, hd2, fps2, rfl, _⟩ := h
      go_enter Tryz.func17, Tryz.ntmps17
      go_wp2_with fail
      refine (markTys_all d B _ us fp k _ (by simp; omega) HFB.out HND.out hk0 (by omega) HU.out).mono ?_
      rintro e w' ⟨rfl, ht, hb1, hout⟩
      have HT := Lib.hid ht; clear ht
      have HB := Lib.hid hb1; clear hb1
      have HO := Lib.hid hout; clear hout
      go_wp2_with fail
      go_ret
      refine ⟨by rw [hsz, Nat.add_sub_cancel_left]; rfl, ⟨_, rfl, h0, h1, HT.out⟩, ((Below.refl _ _).alloc hB _).trans HB.out, fun b h1 h2 => ?_⟩
      rw [HO.out b (by simp; omega) h2]
      exact HE.out.block b h1
def HeldTyEnd (t : Ty) (k : Int) (w : World) (e : Ending) (w' : World) : Prop := e = .returned (.int .i64 (k + (t.size - 1 : Nat))) ∧ Below w.heap.size w w'
set_option maxRecDepth 100000 in
set_option maxHeartbeats 1000000 in
theorem heldTy (d : Nat) (v : Value) (t : Ty) (k : Int) (w : World) (hk0 : 0 ≤ k) (hk1 : k + t.size ≤ 1099511627776) (h : TyAt w d v (t.markIn k)) :
    Calls Tryz.prog 18 #[v, .int .i64 k] w (HeldTyEnd t k w) := by
  cases d with
  | zero => exact h.elim
  | succ d =>
    cases t with
    | node kd us =>
      obtain ⟨sl, rfl, h0, h1, h⟩ := h
      have e1 : Below w.heap.size w (w.alloc (.cells #[.int .i64 kd, sl] 33)) := (Below.refl _ _).alloc (Nat.le_refl _) _
      have HU : Hid (TysAt (w.alloc (.cells #[.int .i64 kd, sl] 33)) d sl (Ty.marks us k)) := TysAt.below h e1
      have HE := Lib.hid e1; clear e1
      have hsz : (Ty.node kd us).size = 1 + Ty.sizes us := rfl
      obtain ⟨a2, cap2, rfl, _⟩ := h
      go_enter Tryz.func18, Tryz.ntmps18
      go_wp2_with fail
      refine (heldTys_all d _ us k _ hk0 (by omega) HU.out).mono ?_
      rintro e w' ⟨rfl, hb1⟩
      have HB := Lib.hid (HE.out.trans (hb1.mono HE.out.size)); clear hb1
      go_wp2_with fail
      go_ret
      exact ⟨by rw [hsz, Nat.add_sub_cancel_left]; rfl, HB.out⟩
end Go.Proofs.YteffjeejbdjjpaaGreatDoor
