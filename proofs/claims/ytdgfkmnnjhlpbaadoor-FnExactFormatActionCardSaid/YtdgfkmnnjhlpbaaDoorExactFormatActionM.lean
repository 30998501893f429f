/-
  Proved: the law FnExactFormatAction: for every action, impl.FormatAction returns the same as the reference and changes no argument; the tables hold what the program's text lays (the card ties them).
-/
import Derived.Test.YtdgfkmnnjhlpbaaDoorOwnTree
import Derived.Test.YtdgfkmnnjhlpbaaDoorHold
import Derived.Test.YtdgfkmnnjhlpbaaDoorNodeOf
import Derived.Test.YtdgfkmnnjhlpbaaDoorTwo
import Derived.Test.YtdgfkmnnjhlpbaaDoorText
import Derived.Test.YtdgfkmnnjhlpbaaDoorSpecValid
import Derived.Deep.RegionHeld3
import Derived.Test.YtdgfkmnnjhlpbaaDoorFormatText
import Derived.Test.YtdgfkmnnjhlpbaaDoorNum
import Derived.Lib.ItoaLen
import Derived.Test.YtdgfkmnnjhlpbaaDoorSpecAction
import Derived.Test.YtdgfkmnnjhlpbaaDoorActText
import Derived.Test.YtdgfkmnnjhlpbaaDoorFormat
import Derived.IntWalk
import Derived.Deep.RegionLaw
import Derived.Test.YtdgfkmnnjhlpbaaDoorActForm
import Derived.Test.YtdgfkmnnjhlpbaaDoorName
import Derived.Laws.RangeAny
import Derived.Test.YtdgfkmnnjhlpbaaDoorSpecNote
import Derived.Test.YtdgfkmnnjhlpbaaDoorTyEq
import Derived.BigQuiet
import Derived.Deep.QuietTactic
import Derived.Test.YtdgfkmnnjhlpbaaDoorActTab
import Derived.Test.YtdgfkmnnjhlpbaaDoorImplPathText
import Derived.Test.YtdgfkmnnjhlpbaaDoorToAct
import Derived.Test.YtdgfkmnnjhlpbaaDoorPart
import Derived.Test.YtdgfkmnnjhlpbaaDoorSzAct
import Derived.Test.YtdgfkmnnjhlpbaaDoorEqAct
import Derived.Test.YtdgfkmnnjhlpbaaDoorActTabs
import Derived.Test.YtdgfkmnnjhlpbaaDoorLaw
import Derived.OpenVars
import Derived.Test.YtdgfkmnnjhlpbaaDoorCards
import Derived.Test.YtdgfkmnnjhlpbaaDoorTie
import Derived.Deep.DeepHandedRow
import Derived.Lib.LaidTab
import Derived.LaidMore
import Derived.Test.YtdgfkmnnjhlpbaaDoorActArg
import Derived.ChangeVars
/-
  Proved: laws.markTypeS numbers the nodes below a tree's root in its own memory and touches nothing else; laws.heldTypeS finds the numbers there.
-/
namespace Go.Proofs.YtdgfkmnnjhlpbaaDoor
open Go.RowKit

mutual
/-- The tree with its nodes numbered from k on, the root first. -/
def Ty.mark : Ty → Int → Ty
  | .node _ us, k => .node k (Ty.marks us (k + 1))
def Ty.marks : List Ty → Int → List Ty
  | [], _ => []
  | t :: r, k => t.mark k :: Ty.marks r (k + t.size)
end
theorem Ty.marks_length : ∀ (ts : List Ty) (k : Int), (Ty.marks ts k).length = ts.length
  | [], _ => rfl
  | t :: r, k => by simp [Ty.marks, Ty.marks_length r]
theorem Ty.marks_get : ∀ (ts : List Ty) (k : Int) (j : Nat) (h : j < ts.length) (h' : j < (Ty.marks ts k).length), (Ty.marks ts k)[j] = ts[j].mark (k + Ty.sizes (ts.take j))
  | t :: r, k, 0, _, _ => by simp [Ty.marks, Ty.sizes]
  | t :: r, k, j + 1, h, h' => by
    simp only [Ty.marks, List.getElem_cons_succ, List.take_succ_cons, Ty.sizes]
    rw [Ty.marks_get r (k + t.size) j (by simpa using h)]
    congr 1; omega
theorem flat_sub {fps : List (List Nat)} {j b : Nat} {f : List Nat} (h : fps[j]? = some f) (hb : b ∈ f) : b ∈ fps.flatten := List.mem_flatten.2 ⟨f, List.mem_of_getElem? h, hb⟩
theorem flat_nodup : ∀ {fps : List (List Nat)} {j : Nat} {f : List Nat}, fps.flatten.Nodup → fps[j]? = some f → f.Nodup
  | [], _, _, _, h => by simp at h
  | x :: r, 0, f, hn, h => by
    simp at h; subst h
    rw [List.flatten_cons] at hn
    exact (List.nodup_append.1 hn).1
  | x :: r, j + 1, f, hn, h => by
    rw [List.flatten_cons] at hn
    exact flat_nodup (List.nodup_append.1 hn).2.1 (by simpa using h)
theorem flat_apart : ∀ {fps : List (List Nat)} {i j b : Nat} {f g : List Nat}, fps.flatten.Nodup → fps[i]? = some f → fps[j]? = some g → i ≠ j → b ∈ f → b ∉ g
  | [], _, _, _, _, _, _, h, _, _, _ => by simp at h
  | x :: r, 0, 0, b, f, g, hn, h1, h2, hne, hb => (hne rfl).elim
  | x :: r, 0, j + 1, b, f, g, hn, h1, h2, hne, hb => by
    simp at h1 h2; subst h1
    rw [List.flatten_cons] at hn
    intro hg
    exact (List.nodup_append.1 hn).2.2 b hb b (flat_sub h2 hg) rfl
  | x :: r, i + 1, 0, b, f, g, hn, h1, h2, hne, hb => by
    simp at h1 h2; subst h2
    rw [List.flatten_cons] at hn
    intro hg
    exact (List.nodup_append.1 hn).2.2 b hg b (flat_sub h1 hb) rfl
  | x :: r, i + 1, j + 1, b, f, g, hn, h1, h2, hne, hb => by
    rw [List.flatten_cons] at hn
    exact flat_apart (List.nodup_append.1 hn).2.1 (by simpa using h1) (by simpa using h2) (by omega) hb

def MarkTysEnd (B d : Nat) (v : Value) (ts : List Ty) (fp : List Nat) (k : Int) (w : World) (e : Ending) (w' : World) : Prop :=
  e = .returned (.int .i64 (k + Ty.sizes ts)) ∧ TysOwn w' d v (Ty.marks ts k) fp ∧ Below B w w' ∧ (∀ b, b < w.heap.size → b ∉ fp → w'.heap[b]? = w.heap[b]?)
def MarkTysSaid (d : Nat) : Prop := ∀ (B : Nat) (v : Value) (ts : List Ty) (fp : List Nat) (k : Int) (w : World), B ≤ w.heap.size → (∀ b, b ∈ fp → B ≤ b) → fp.Nodup → 0 ≤ k → k + Ty.sizes ts ≤ 1099511627776 → TysOwn w d v ts fp →
  Calls Tryd.prog 82 #[v, .int .i64 k] w (MarkTysEnd B d v ts fp k w)

set_option maxRecDepth 100000 in
set_option maxHeartbeats 1000000 in
theorem markTys_step (d : Nat) (ih : MarkTysSaid d) : MarkTysSaid (d + 1) := by
  intro B v ts fp k w hB hfB hnd hk0 hk1 h
  have IH := Lib.hid ih; clear ih
  have HFB := Lib.hid hfB; clear hfB
  have HND := Lib.hid hnd; clear hnd
  obtain ⟨a, cap, hd, fps, rfl, hcap, hcap2, hl, hf, hhd, hat⟩ := h
  have HHD := Lib.hid hhd; clear hhd
  have HAT := Lib.hid hat; clear hat
  go_enter Tryd.func82, Tryd.ntmps82
  go_wp2_with fail
  go_loopw [1, 5] (fun m i wr => ∃ (j : Nat), j ≤ ts.length ∧ i = .int .i64 j ∧ m = .int .i64 (k + Ty.sizes (ts.take j)) ∧
      (∀ t (h : t < ts.length), ∃ g off c0 c1 f, a = some ⟨g, off, none⟩ ∧ hd = [g] ∧ g < wr.heap.size ∧ wr.cell? ⟨g, off + t * 2, none⟩ = some c0 ∧ wr.frozen? ⟨g, off + t * 2, none⟩ = false ∧ wr.cell? ⟨g, off + t * 2 + 1, none⟩ = some c1 ∧ fps[t]? = some f ∧ TyOwn wr (d + 1) (.agg #[c0, c1]) (if t < j then ts[t].mark (k + Ty.sizes (ts.take t)) else ts[t]) f) ∧
      Below B w wr ∧ (∀ b, b < w.heap.size → b ∉ fp → wr.heap[b]? = w.heap[b]?)) (fun _ i _ => ts.length - (intOf i).toNat)
  case atStart => exact ⟨0, by omega, rfl, by simp [Ty.sizes], HAT.out, Below.refl _ _, fun _ _ _ => rfl⟩
  case round =>
    obtain ⟨j, hj, rfl, rfl, hrow, hb, hout⟩ := hrel
    have HR := Lib.hid hrow; clear hrow
    have HB := Lib.hid hb; clear hb
    have HO := Lib.hid hout; clear hout
    by_cases hlt : j < ts.length
    · obtain ⟨g, off, c0, c1, f, rfl, rfl, hg, e0, f0, e1, hfj, hty⟩ := HR.out j hlt
      rw [if_neg (Nat.lt_irrefl j)] at hty
      have HS := Lib.hid (Ty.sizes_take ts j hlt)
      have hle := Ty.sizes_le ts (j + 1)
      cases htj : ts[j] with
      | node kd us =>
        rw [htj] at hty
        obtain ⟨sl, hv, h0, h1, hus⟩ := hty
        have hc : c0 = .int .i64 kd ∧ c1 = sl := by injection hv with hv; injection hv with hv; simpa using hv
        obtain ⟨rfl, rfl⟩ := hc
        have hsz : ts[j].size = 1 + Ty.sizes us := by rw [htj]; rfl
        have HUS : Hid (TysOwn wr d c1 us f) := hus
        obtain ⟨a2, cap2, hd2, fps2, rfl, _⟩ := hus
        have HTJ := Lib.hid htj; clear htj
        subst hf
        have hnd := List.nodup_append.1 HND.out
        have HN2 := Lib.hid hnd.2.1
        have HG : Hid (∀ (t : Nat) (f' : List Nat) (b : Nat), fps[t]? = some f' → b ∈ f' → b ≠ g) := fun t f' b hf' hb e => hnd.2.2 g (by simp) b (flat_sub hf' hb) e.symm
        clear hnd hv
        have hgf : g ∉ f := fun hb => HG.out j f g hfj hb rfl
        have HFJ := Lib.hid hfj; clear hfj
        have W1 : B ≤ (wr.setCell ⟨g, off + j * 2, none⟩ (.int .i64 (k + Ty.sizes (ts.take j)))).heap.size := by
          rw [World.size_setCell]; exact Nat.le_trans hB HB.out.size
        have W2 := Lib.hid (show ∀ b, b ∈ f → B ≤ b from fun b hb => HFB.out b (List.mem_append_right _ (flat_sub HFJ.out hb)))
        have W3 := Lib.hid (flat_nodup HN2.out HFJ.out)
        have W4 : k + Ty.sizes (ts.take j) + 1 + Ty.sizes us ≤ 1099511627776 := by have := HS.out; omega
        have W5 : Hid (TysOwn (wr.setCell ⟨g, off + j * 2, none⟩ (.int .i64 (k + Ty.sizes (ts.take j)))) d (.slice a2 us.length cap2) us f) :=
          TysOwn.kept HUS.out (by rw [World.size_setCell]; exact Nat.le_refl _) fun b hb => heap_setCell_other _ _ _ _ (HG.out j f b HFJ.out hb)
        go_wp2_with fail
        refine (IH.out B _ us f (k + Ty.sizes (ts.take j) + 1) _ W1 W2.out W3.out (by omega) W4 W5.out).mono ?_
        rintro e w' ⟨rfl, ht2, hb1, hout1⟩
        have hz1 := hb1.size
        simp at hz1
        have hblk : ∀ b, b ≠ g → b ∉ f → b < wr.heap.size → w'.heap[b]? = wr.heap[b]? := fun b h1 h2 h3 => by
          rw [hout1 b (by simpa using h3) h2, heap_setCell_other _ _ _ _ h1]
        have hgb := hout1 g (by simpa using hg) hgf
        have HT2 := Lib.hid ht2; clear ht2
        have HB1 := Lib.hid ((HB.out.setCell (HFB.out g (by simp)) _).trans hb1); clear hb1
        go_wp2_with fail
        refine ⟨⟨j + 1, by omega, by go_num, by rw [HS.out, hsz]; go_num, fun t ht => ?_, HB1.out, fun b h1 h2 => ?_⟩, by simp [intOf]; omega⟩
        · obtain ⟨g', off', d0, d1, ft, q1, q2, q3, q4, q5, q6, q7, q8⟩ := HR.out t ht
          cases q1
          by_cases htj : t = j
          · subst htj
            rw [HFJ.out] at q7
            cases q7
            refine ⟨g, off, .int .i64 (k + Ty.sizes (ts.take t)), .slice a2 us.length cap2, f, rfl, rfl, by omega, ?_, ?_, ?_, HFJ.out, ?_⟩
            · rw [World.cell?_of_block hgb]; exact World.cell?_setCell_same _ _ _ e0
            · rw [World.frozen?_of_block hgb, World.frozen?_setCell]; exact f0
            · rw [World.cell?_of_block hgb, World.cell?_setCell_other _ _ _ _ (by simp)]; exact e1
            · rw [if_pos (by omega), HTJ.out]
              exact ⟨_, rfl, by omega, by omega, HT2.out⟩
          · refine ⟨g, off, d0, d1, ft, rfl, rfl, by omega, ?_, ?_, ?_, q7, ?_⟩
            · rw [World.cell?_of_block hgb, World.cell?_setCell_other _ _ _ _ (by simp; try omega)]; exact q4
            · rw [World.frozen?_of_block hgb, World.frozen?_setCell]; exact q5
            · rw [World.cell?_of_block hgb, World.cell?_setCell_other _ _ _ _ (by simp; try omega)]; exact q6
            · have e3 : (if t < j + 1 then ts[t].mark (k + Ty.sizes (ts.take t)) else ts[t]) = (if t < j then ts[t].mark (k + Ty.sizes (ts.take t)) else ts[t]) := by
                by_cases hlt2 : t < j
                · rw [if_pos hlt2, if_pos (by omega)]
                · rw [if_neg hlt2, if_neg (by omega)]
              rw [e3]
              exact q8.kept (by omega) fun b hb => hblk b (HG.out t ft b q7 hb) (flat_apart HN2.out q7 HFJ.out htj hb) (TyOwn.lt q8 b hb)
        · have hnb : b ≠ g := fun e => h2 (by rw [e]; simp)
          have hnf : b ∉ f := fun e => h2 (List.mem_append_right _ (flat_sub HFJ.out e))
          rw [hblk b hnb hnf (Nat.lt_of_lt_of_le h1 HB.out.size)]
          exact HO.out b h1 h2
    · have hjn : j = ts.length := by omega
      subst hjn
      go_wp2_with fail
      go_ret
      refine ⟨by rw [List.take_length]; rfl, ⟨a, cap, hd, fps, by rw [Ty.marks_length], by rw [Ty.marks_length]; exact hcap, hcap2, by rw [Ty.marks_length]; exact hl, hf, fun b hb => Nat.lt_of_lt_of_le (HHD.out b hb) HB.out.size, fun t ht => ?_⟩, HB.out, HO.out⟩
      rw [Ty.marks_length] at ht
      obtain ⟨g, off, c0, c1, f, q1, q2, q3, q4, q5, q6, q7, q8⟩ := HR.out t ht
      rw [if_pos ht] at q8
      exact ⟨g, off, c0, c1, f, q1, q2, q3, q4, q5, q6, q7, by rw [Ty.marks_get ts k t ht]; exact q8⟩
theorem markTys_zero : MarkTysSaid 0 := by
  intro B v ts fp k w hB hfB hnd hk0 hk1 h
  obtain ⟨a, cap, hd, fps, rfl, hcap, hcap2, hl, rfl, hhd, hat⟩ := h
  cases ts with
  | cons t r =>
    obtain ⟨_, _, _, _, _, _, _, _, _, _, _, _, hr⟩ := hat 0 (by simp)
    exact hr.elim
  | nil =>
    go_enter Tryd.func82, Tryd.ntmps82
    go_wp2_with fail
    go_loop [1, 5] (fun m i => m = .int .i64 k ∧ i = .int .i64 0) (fun _ _ => 0)
    case atStart => exact ⟨rfl, rfl⟩
    case round =>
      obtain ⟨rfl, rfl⟩ := hrel
      go_wp2_with fail
      go_ret
      exact ⟨by simp [Ty.sizes], ⟨a, cap, hd, fps, rfl, hcap, hcap2, hl, rfl, hhd, fun j hj => by simp [Ty.marks] at hj⟩, Below.refl _ _, fun _ _ _ => rfl⟩
theorem markTys_all : ∀ d, MarkTysSaid d
  | 0 => markTys_zero
  | d + 1 => markTys_step d (markTys_all d)
end Go.Proofs.YtdgfkmnnjhlpbaaDoor
/-
  Proved: laws.heldTypeS finds the numbers that marking wrote into the nodes below a tree's root, and changes no memory that was there; markType and heldType are the same one node up.
-/
namespace Go.Proofs.YtdgfkmnnjhlpbaaDoor
open Go.RowKit

def HeldEnd (n : Nat) (k : Int) (w : World) (e : Ending) (w' : World) : Prop := e = .returned (.int .i64 (k + n)) ∧ Below w.heap.size w w'
def HeldTysSaid (d : Nat) : Prop := ∀ (v : Value) (ts : List Ty) (k : Int) (w : World), 0 ≤ k → k + Ty.sizes ts ≤ 1099511627776 → TysAt w d v (Ty.marks ts k) →
  Calls Tryd.prog 83 #[v, .int .i64 k] w (HeldEnd (Ty.sizes ts) k w)

set_option maxRecDepth 100000 in
set_option maxHeartbeats 1000000 in
theorem heldTys_step (d : Nat) (ih : HeldTysSaid d) : HeldTysSaid (d + 1) := by
  intro v ts k w hk0 hk1 h
  have IH := Lib.hid ih; clear ih
  obtain ⟨a, cap, rfl, hcap, hcap2, hat⟩ := h
  rw [Ty.marks_length] at hcap ⊢
  have HAT := Lib.hid hat; clear hat
  go_enter Tryd.func83, Tryd.ntmps83
  go_wp2_with fail
  go_loopw [1, 5] (fun m i wr => ∃ (j : Nat), j ≤ ts.length ∧ i = .int .i64 j ∧ m = .int .i64 (k + Ty.sizes (ts.take j)) ∧ Below w.heap.size w wr) (fun _ i _ => ts.length - (intOf i).toNat)
  case atStart => exact ⟨0, by omega, rfl, by simp [Ty.sizes], Below.refl _ _⟩
  case round =>
    obtain ⟨j, hj, rfl, rfl, hb⟩ := hrel
    have HB := Lib.hid hb; clear hb
    by_cases hlt : j < ts.length
    · obtain ⟨b, off, x0, x1, rfl, hbl, hc0, hc1, hty⟩ := HAT.out j (by rw [Ty.marks_length]; exact hlt)
      rw [Ty.marks_get ts k j hlt] at hty
      have HS := Lib.hid (Ty.sizes_take ts j hlt)
      have hle := Ty.sizes_le ts (j + 1)
      cases htj : ts[j] with
      | node kd us =>
        have hsz : ts[j].size = 1 + Ty.sizes us := by rw [htj]; rfl
        rw [htj] at hty
        obtain ⟨sl, hv, h0, h1, hus⟩ := hty
        have hc : x0 = .int .i64 (k + Ty.sizes (ts.take j)) ∧ x1 = sl := by injection hv with hv; injection hv with hv; simpa using hv
        obtain ⟨rfl, rfl⟩ := hc
        have e0 : wr.cell? ⟨b, off + j * 2, none⟩ = some (.int .i64 (k + Ty.sizes (ts.take j))) := by rw [HB.out.cell (p := ⟨b, off + j * 2, none⟩) hbl]; exact hc0
        have e1 : wr.cell? ⟨b, off + j * 2 + 1, none⟩ = some x1 := by rw [HB.out.cell (p := ⟨b, off + j * 2 + 1, none⟩) hbl]; exact hc1
        have HUS : Hid (TysAt wr d x1 (Ty.marks us (k + Ty.sizes (ts.take j) + 1))) := TysAt.below hus HB.out
        obtain ⟨a2, cap2, rfl, _⟩ := hus
        clear hv hc0 hc1
        have W4 : k + Ty.sizes (ts.take j) + 1 + Ty.sizes us ≤ 1099511627776 := by have := HS.out; omega
        go_wp2_with fail
        refine (IH.out _ us (k + Ty.sizes (ts.take j) + 1) wr (by omega) W4 HUS.out).mono ?_
        rintro e w' ⟨rfl, hb1⟩
        have HB1 := Lib.hid (HB.out.trans (hb1.mono HB.out.size)); clear hb1
        go_wp2_with fail
        exact ⟨⟨j + 1, by omega, by go_num, by rw [HS.out, hsz]; go_num, HB1.out⟩, by simp [intOf]; omega⟩
    · have hjn : j = ts.length := by omega
      subst hjn
      go_wp2_with fail
      go_ret
      exact ⟨by rw [List.take_length]; rfl, HB.out⟩
theorem heldTys_zero : HeldTysSaid 0 := by
  intro v ts k w hk0 hk1 h
  obtain ⟨a, cap, rfl, hcap, hcap2, hat⟩ := h
  cases ts with
  | cons t r =>
    obtain ⟨_, _, _, _, _, _, _, _, hr⟩ := hat 0 (by simp [Ty.marks])
    exact hr.elim
  | nil =>
    go_enter Tryd.func83, Tryd.ntmps83
    go_wp2_with fail
    go_loop [1, 5] (fun m i => m = .int .i64 k ∧ i = .int .i64 0) (fun _ _ => 0)
    case atStart => exact ⟨rfl, rfl⟩
    case round =>
      obtain ⟨rfl, rfl⟩ := hrel
      go_wp2_with fail
      go_ret
      exact ⟨by simp [Ty.sizes], Below.refl _ _⟩
theorem heldTys_all : ∀ d, HeldTysSaid d
  | 0 => heldTys_zero
  | d + 1 => heldTys_step d (heldTys_all d)

/-- The tree with all nodes but the root numbered from k on. -/
def Ty.markIn : Ty → Int → Ty
  | .node kd us, k => .node kd (Ty.marks us k)
def MarkTyEnd (B d : Nat) (v : Value) (t : Ty) (fp : List Nat) (k : Int) (w : World) (e : Ending) (w' : World) : Prop :=
  e = .returned (.int .i64 (k + (t.size - 1 : Nat))) ∧ TyOwn w' d v (t.markIn k) fp ∧ Below B w w' ∧ (∀ b, b < w.heap.size → b ∉ fp → w'.heap[b]? = w.heap[b]?)
set_option maxRecDepth 100000 in
set_option maxHeartbeats 1000000 in
theorem markTy (B d : Nat) (v : Value) (t : Ty) (fp : List Nat) (k : Int) (w : World) (hB : B ≤ w.heap.size) (hfB : ∀ b, b ∈ fp → B ≤ b) (hnd : fp.Nodup) (hk0 : 0 ≤ k) (hk1 : k + t.size ≤ 1099511627776) (h : TyOwn w d v t fp) :
    Calls Tryd.prog 36 #[v, .int .i64 k] w (MarkTyEnd B d v t fp k w) := by
  cases d with
  | zero => exact h.elim
  | succ d =>
    cases t with
    | node kd us =>
      have hlt := h.lt
      obtain ⟨sl, rfl, h0, h1, h⟩ := h
      have e1 : Below w.heap.size w (w.alloc (.cells #[.int .i64 kd, sl] 31)) := (Below.refl _ _).alloc (Nat.le_refl _) _
      have HU : Hid (TysOwn (w.alloc (.cells #[.int .i64 kd, sl] 31)) d sl us fp) := TysOwn.kept h e1.size fun b hb => e1.block b (hlt b hb)
      have HE := Lib.hid e1; clear e1
      have HLT := Lib.hid hlt; clear hlt
      have HND := Lib.hid hnd; clear hnd
      have HFB := Lib.hid hfB; clear hfB
      have hsz : (Ty.node kd us).size = 1 + Ty.sizes us := rfl
      obtain ⟨a2, cap2, hd2, fps2, rfl, _⟩ := h
      go_enter Tryd.func36, Tryd.ntmps36
      go_wp2_with fail
      refine (markTys_all d B _ us fp k _ (by simp; omega) HFB.out HND.out hk0 (by omega) HU.out).mono ?_
      rintro e w' ⟨rfl, ht, hb1, hout⟩
      have HT := Lib.hid ht; clear ht
      have HB := Lib.hid hb1; clear hb1
      have HO := Lib.hid hout; clear hout
      go_wp2_with fail
      go_ret
      refine ⟨by rw [hsz, Nat.add_sub_cancel_left]; rfl, ⟨_, rfl, h0, h1, HT.out⟩, ((Below.refl _ _).alloc hB _).trans HB.out, fun b h1 h2 => ?_⟩
      rw [HO.out b (by simp; omega) h2]
      exact HE.out.block b h1
def HeldTyEnd (t : Ty) (k : Int) (w : World) (e : Ending) (w' : World) : Prop := e = .returned (.int .i64 (k + (t.size - 1 : Nat))) ∧ Below w.heap.size w w'
set_option maxRecDepth 100000 in
set_option maxHeartbeats 1000000 in
theorem heldTy (d : Nat) (v : Value) (t : Ty) (k : Int) (w : World) (hk0 : 0 ≤ k) (hk1 : k + t.size ≤ 1099511627776) (h : TyAt w d v (t.markIn k)) :
    Calls Tryd.prog 37 #[v, .int .i64 k] w (HeldTyEnd t k w) := by
  cases d with
  | zero => exact h.elim
  | succ d =>
    cases t with
    | node kd us =>
      obtain ⟨sl, rfl, h0, h1, h⟩ := h
      have e1 : Below w.heap.size w (w.alloc (.cells #[.int .i64 kd, sl] 31)) := (Below.refl _ _).alloc (Nat.le_refl _) _
      have HU : Hid (TysAt (w.alloc (.cells #[.int .i64 kd, sl] 31)) d sl (Ty.marks us k)) := TysAt.below h e1
      have HE := Lib.hid e1; clear e1
      have hsz : (Ty.node kd us).size = 1 + Ty.sizes us := rfl
      obtain ⟨a2, cap2, rfl, _⟩ := h
      go_enter Tryd.func37, Tryd.ntmps37
      go_wp2_with fail
      refine (heldTys_all d _ us k _ hk0 (by omega) HU.out).mono ?_
      rintro e w' ⟨rfl, hb1⟩
      have HB := Lib.hid (HE.out.trans (hb1.mono HE.out.size)); clear hb1
      go_wp2_with fail
      go_ret
      exact ⟨by rw [hsz, Nat.add_sub_cancel_left]; rfl, HB.out⟩
end Go.Proofs.YtdgfkmnnjhlpbaaDoor
/-
  Proved: plain facts on trees that own their blocks, with the blocks' bounds; laws.markType and laws.heldType on such trees.
-/
namespace Go.Proofs.YtdgfkmnnjhlpbaaDoor
open Go.RowKit

def OwnIn (w : World) (d : Nat) (v : Value) (t : Ty) (lo hi : Nat) : Prop := ∃ fp, TyOwn w d v t fp ∧ Fp lo hi fp ∧ hi ≤ w.heap.size
theorem OwnIn.at_ {w : World} {d : Nat} {v : Value} {t : Ty} {lo hi : Nat} (h : OwnIn w d v t lo hi) : TyAt w d v t := by obtain ⟨fp, h, _⟩ := h; exact TyOwn.at_ h
theorem OwnIn.below {w w' : World} {d : Nat} {v : Value} {t : Ty} {lo hi : Nat} (h : OwnIn w d v t lo hi) (hb : Below w.heap.size w w') : OwnIn w' d v t lo hi := by
  obtain ⟨fp, h, hf, hz⟩ := h
  exact ⟨fp, h.kept hb.size fun b hbf => hb.block b (Nat.lt_of_lt_of_le (hf.2 b hbf).2 hz), hf, Nat.le_trans hz hb.size⟩
theorem OwnIn.of {w0 w : World} {d : Nat} {v : Value} {t : Ty} {fp : List Nat} {lo : Nat} (h : TyOwn w d v t fp) (hf : Fp w0.heap.size w.heap.size fp) (hlo : lo ≤ w0.heap.size) : OwnIn w d v t lo w.heap.size :=
  ⟨fp, h, hf.mono hlo (Nat.le_refl _), Nat.le_refl _⟩
/-- All old blocks but those from lo up to hi are as they were. -/
def Kept (lo hi : Nat) (w w' : World) : Prop := w.heap.size ≤ w'.heap.size ∧ ∀ b, b < w.heap.size → (b < lo ∨ hi ≤ b) → w'.heap[b]? = w.heap[b]?
theorem OwnIn.beside {w w' : World} {d : Nat} {v : Value} {t : Ty} {lo hi lo2 hi2 : Nat} (h : OwnIn w d v t lo hi) (k : Kept lo2 hi2 w w') (hd : hi ≤ lo2 ∨ hi2 ≤ lo) : OwnIn w' d v t lo hi := by
  obtain ⟨fp, h, hf, hz⟩ := h
  exact ⟨fp, h.kept k.1 fun b hbf => k.2 b (by have := (hf.2 b hbf).2; omega) (by have := hf.2 b hbf; omega), hf, Nat.le_trans hz k.1⟩
theorem BoxAt.beside {w w' : World} {p lo hi : Nat} {cs : Array Value} (h : BoxAt w p cs) (k : Kept lo hi w w') (hd : p < lo ∨ hi ≤ p) : BoxAt w' p cs :=
  BoxAt.kept h k.1 (k.2 p h.1 hd)
theorem markOwn (B d : Nat) (v : Value) (t : Ty) (lo hi : Nat) (k : Int) (w : World) (hB : B ≤ lo) (hBw : B ≤ w.heap.size) (hk0 : 0 ≤ k) (hk1 : k + t.size ≤ 1099511627776) (h : OwnIn w d v t lo hi) :
    Calls Tryd.prog 36 #[v, .int .i64 k] w fun e w' => e = .returned (.int .i64 (k + (t.size - 1 : Nat))) ∧ OwnIn w' d v (t.markIn k) lo hi ∧ Below B w w' ∧ Kept lo hi w w' := by
  obtain ⟨fp, h, hf, hz⟩ := h
  refine (markTy B d v t fp k w hBw (fun b hb => by have := (hf.2 b hb).1; omega) hf.1 hk0 hk1 h).mono ?_
  rintro e w' ⟨rfl, h1, h2, h3⟩
  exact ⟨rfl, ⟨fp, h1, hf, Nat.le_trans hz h2.size⟩, h2, h2.size, fun b h4 h5 => h3 b h4 fun hm => by have := hf.2 b hm; omega⟩
theorem heldOwn (d : Nat) (v : Value) (t : Ty) (lo hi : Nat) (k : Int) (w : World) (hk0 : 0 ≤ k) (hk1 : k + t.size ≤ 1099511627776) (h : OwnIn w d v (t.markIn k) lo hi) :
    Calls Tryd.prog 37 #[v, .int .i64 k] w fun e w' => e = .returned (.int .i64 (k + (t.size - 1 : Nat))) ∧ Below w.heap.size w w' :=
  (heldTy d v t k w hk0 hk1 h.at_).mono fun _ _ h => h
end Go.Proofs.YtdgfkmnnjhlpbaaDoor
/-
  Proved: plain facts on four cells that lie behind one another, and on kinds.
-/
namespace Go.Proofs.YtdgfkmnnjhlpbaaDoor
open Go.RowKit

/-- Four cells that lie behind one another. -/
def FourAt (w : World) (b off : Nat) (c0 c1 c2 c3 : Value) : Prop :=
  b < w.heap.size ∧ w.cell? ⟨b, off, none⟩ = some c0 ∧ w.cell? ⟨b, off + 1, none⟩ = some c1 ∧ w.cell? ⟨b, off + 2, none⟩ = some c2 ∧ w.cell? ⟨b, off + 3, none⟩ = some c3
theorem FourAt.below {w w' : World} {b off : Nat} {c0 c1 c2 c3 : Value} (h : FourAt w b off c0 c1 c2 c3) (hb : Below w.heap.size w w') : FourAt w' b off c0 c1 c2 c3 := by
  obtain ⟨hl, h0, h1, h2, h3⟩ := h
  exact ⟨Nat.lt_of_lt_of_le hl hb.size, (hb.cell (p := ⟨b, off, none⟩) hl).trans h0, (hb.cell (p := ⟨b, off + 1, none⟩) hl).trans h1, (hb.cell (p := ⟨b, off + 2, none⟩) hl).trans h2, (hb.cell (p := ⟨b, off + 3, none⟩) hl).trans h3⟩
theorem kind_cases {k : Int} {n : Nat} (h : kindOk k n = true) : (k = 1 ∧ n = 0) ∨ (k = 2 ∧ n = 0) ∨ (k = 3 ∧ n = 0) ∨ (k = 4 ∧ n = 2) ∨ (k = 5 ∧ n = 2) := by
  unfold kindOk at h
  split at h
  · have := of_decide_eq_true h; omega
  · split at h
    · have := of_decide_eq_true h; omega
    · cases h
theorem FourAt.stored {w : World} {b off q j : Nat} {u c0 c1 c2 c3 : Value} (h : FourAt w b off c0 c1 c2 c3) (hne : b ≠ q) : FourAt (w.setCell ⟨q, j, none⟩ u) b off c0 c1 c2 c3 := by
  obtain ⟨hl, h0, h1, h2, h3⟩ := h
  have e : (w.setCell ⟨q, j, none⟩ u).heap[b]? = w.heap[b]? := heap_setCell_other _ _ _ _ (by simpa using hne)
  refine ⟨by simpa using hl, ?_, ?_, ?_, ?_⟩
  · rw [World.cell?_of_block (a := ⟨b, off, none⟩) e]; exact h0
  · rw [World.cell?_of_block (a := ⟨b, off + 1, none⟩) e]; exact h1
  · rw [World.cell?_of_block (a := ⟨b, off + 2, none⟩) e]; exact h2
  · rw [World.cell?_of_block (a := ⟨b, off + 3, none⟩) e]; exact h3
theorem OwnIn.stored {w : World} {d : Nat} {v : Value} {t : Ty} {lo hi q j : Nat} {u : Value} (h : OwnIn w d v t lo hi) (hq : q < lo) : OwnIn (w.setCell ⟨q, j, none⟩ u) d v t lo hi := by
  obtain ⟨fp, h, hf, hz⟩ := h
  refine ⟨fp, h.kept (by simp) fun b hb => ?_, hf, by simpa using hz⟩
  have := (hf.2 b hb).1
  exact heap_setCell_other _ _ _ _ (by simp; omega)
end Go.Proofs.YtdgfkmnnjhlpbaaDoor
/-
  Proved: spec.l4Text gives the text of a type's tree; the memory that was there stays as it was.
-/
namespace Go.Proofs.YtdgfkmnnjhlpbaaDoor
open Go.RowKit

set_option maxRecDepth 100000 in
set_option maxHeartbeats 4000000 in
theorem specText : ∀ (d : Nat) (v : Value) (t : Ty) (w : World), TyAt w d v t → t.form = true → t.size ≤ 1048577 →
    Calls Tryd.prog 101 #[v] w fun e w' => e = .returned (.string t.text) ∧ Below w.heap.size w w'
  | 0, _, _, _, h, _, _ => h.elim
  | d + 1, v, .node kd ts, w, h, hfm, hsz => by
    have IH : Hid (∀ (v : Value) (t : Ty) (w : World), TyAt w d v t → t.form = true → t.size ≤ 1048577 → Calls Tryd.prog 101 #[v] w fun e w' => e = .returned (.string t.text) ∧ Below w.heap.size w w') := specText d
    obtain ⟨sl, rfl, hk0, hk1, a, cap, rfl, hcap, hcap2, hat⟩ := h
    have HAT := Lib.hid hat; clear hat
    have HF := Lib.hid hfm
    have HS := Lib.hid hsz
    have hko : kindOk kd ts.length = true := by simp only [Ty.form, Bool.and_eq_true] at hfm; exact hfm.2
    clear hfm hsz hcap hcap2 hk0 hk1
    obtain ⟨n, hn⟩ : ∃ n, n = ts.length := ⟨_, rfl⟩
    have HN := Lib.hid hn
    rw [← hn] at hko ⊢
    clear hn
    rcases kind_cases hko with ⟨z1, _⟩ | ⟨z1, _⟩ | ⟨z1, _⟩ | ⟨z1, z2⟩ | ⟨z1, z2⟩ <;> clear hko
    · subst z1
      have HFIN : Hid ((Ty.node 1 ts).text = ⟨#[63]⟩) := by show _ = _; simp [Ty.text, textOf]
      go_enter Tryd.func101, Tryd.ntmps101
      go_wp2_with fail
      go_ret
      exact ⟨by rw [HFIN.out]; rfl, below_alloc _ _⟩
    · subst z1
      have HFIN : Hid ((Ty.node 2 ts).text = ⟨#[78]⟩) := by show _ = _; simp [Ty.text, textOf]
      go_enter Tryd.func101, Tryd.ntmps101
      go_wp2_with fail
      go_ret
      exact ⟨by rw [HFIN.out]; rfl, below_alloc _ _⟩
    · subst z1
      have HFIN : Hid ((Ty.node 3 ts).text = ⟨#[66]⟩) := by show _ = _; simp [Ty.text, textOf]
      go_enter Tryd.func101, Tryd.ntmps101
      go_wp2_with fail
      go_ret
      exact ⟨by rw [HFIN.out]; rfl, below_alloc _ _⟩
    · subst z1
      subst z2
      obtain ⟨t1, t2, k1, s1, n1, c1, k2, s2, n2, c2, b, off, hts, rfl, hbl0, g0, g1, g2, g3, ht1, ht2⟩ := two_of HN.out.symm HAT.out
      subst hts
      have X0 : Hid (FourAt w b off (.int .i64 k1) (.slice s1 n1 c1) (.int .i64 k2) (.slice s2 n2 c2)) := ⟨hbl0, g0, g1, g2, g3⟩
      clear HAT HN hbl0 g0 g1 g2 g3
      have F1 := Lib.hid (form_two HF.out).1
      have F2 := Lib.hid (form_two HF.out).2
      have z1 := t1.text_size
      have z2 := t2.text_size
      have hs2 := HS.out
      simp only [Ty.size, Ty.sizes] at hs2
      have Z1 := Lib.hid (show t1.size ≤ 1048577 by omega)
      have Z2 := Lib.hid (show t2.size ≤ 1048577 by omega)
      have m1 : ¬ (9223372036854775807 < 1 + t1.text.size) := by omega
      have m2 : ¬ (9223372036854775807 < 1 + t1.text.size + 1) := by omega
      have m3 : ¬ (9223372036854775807 < 1 + t1.text.size + 1 + t2.text.size) := by omega
      have m4 : ¬ (9223372036854775807 < 1 + t1.text.size + 1 + t2.text.size + 1) := by omega
      clear hs2 z1 z2
      have B : Hid (Below w.heap.size w (w.alloc (.cells #[.int .i64 4, .slice (some ⟨b, off, none⟩) 2 cap] 31))) := below_alloc _ _
      have H1 := Lib.hid (ht1.below B.out)
      have H2 := Lib.hid (ht2.below B.out)
      have X4 := Lib.hid (X0.out.below B.out)
      have XN : Hid (BoxAt (w.alloc (.cells #[.int .i64 4, .slice (some ⟨b, off, none⟩) 2 cap] 31)) w.heap.size #[.int .i64 4, .slice (some ⟨b, off, none⟩) 2 cap]) := BoxAt.new _ _ _
      clear ht1 ht2 X0
      go_enter Tryd.func101, Tryd.ntmps101
      go_wp2_with fail
      have hb := below_drew (w.alloc (.cells #[.int .i64 4, .slice (some ⟨b, off, none⟩) 2 cap] 31))
      replace B := Lib.hid (below_thru B.out (Nat.le_refl _) hb)
      replace H1 := Lib.hid (H1.out.below hb)
      replace H2 := Lib.hid (H2.out.below hb)
      replace XN := Lib.hid (XN.out.below hb)
      replace X4 := Lib.hid (X4.out.below hb)
      clear hb
      go_region_held3 (fun w' => w'.cell? ⟨w.heap.size, 1, none⟩ = some (.slice (some ⟨b, off, none⟩) 2 cap) ∧ w'.cell? ⟨b, off, none⟩ = some (.int .i64 k1) ∧ w'.cell? ⟨b, off + 1, none⟩ = some (.slice s1 n1 c1) ∧ w'.cell? ⟨b, off + 2, none⟩ = some (.int .i64 k2) ∧ w'.cell? ⟨b, off + 3, none⟩ = some (.slice s2 n2 c2)) (exact ⟨XN.out.2 1, X4.out.2.1, X4.out.2.2.1, X4.out.2.2.2.1, X4.out.2.2.2.2⟩)
        (first
         | (go_at_call_of 101 (Value.agg #[Value.int IntKind.i64 k1, Value.slice s1 n1 c1])
            refine (IH.out _ t1 _ H1.out F1.out Z1.out).mono ?_
            rintro e w1 ⟨rfl, hb⟩
            replace B := Lib.hid (below_thru B.out (Nat.le_refl _) hb)
            replace H1 := Lib.hid (H1.out.below hb)
            replace H2 := Lib.hid (H2.out.below hb)
            replace XN := Lib.hid (XN.out.below hb)
            replace X4 := Lib.hid (X4.out.below hb)
            clear hb)
         | (go_at_call_of 101 (Value.agg #[Value.int IntKind.i64 k2, Value.slice s2 n2 c2])
            refine (IH.out _ t2 _ H2.out F2.out Z2.out).mono ?_
            rintro e w2 ⟨rfl, hb⟩
            replace B := Lib.hid (below_thru B.out (Nat.le_refl _) hb)
            replace H1 := Lib.hid (H1.out.below hb)
            replace H2 := Lib.hid (H2.out.below hb)
            replace XN := Lib.hid (XN.out.below hb)
            replace X4 := Lib.hid (X4.out.below hb)
            clear hb))
      go_wp2_with fail
      go_ret
      exact ⟨by rw [Ty.text_arrow]; rfl, B.out⟩
    · subst z1
      subst z2
      obtain ⟨t1, t2, k1, s1, n1, c1, k2, s2, n2, c2, b, off, hts, rfl, hbl0, g0, g1, g2, g3, ht1, ht2⟩ := two_of HN.out.symm HAT.out
      subst hts
      have X0 : Hid (FourAt w b off (.int .i64 k1) (.slice s1 n1 c1) (.int .i64 k2) (.slice s2 n2 c2)) := ⟨hbl0, g0, g1, g2, g3⟩
      clear HAT HN hbl0 g0 g1 g2 g3
      have F1 := Lib.hid (form_two HF.out).1
      have F2 := Lib.hid (form_two HF.out).2
      have z1 := t1.text_size
      have z2 := t2.text_size
      have hs2 := HS.out
      simp only [Ty.size, Ty.sizes] at hs2
      have Z1 := Lib.hid (show t1.size ≤ 1048577 by omega)
      have Z2 := Lib.hid (show t2.size ≤ 1048577 by omega)
      have m1 : ¬ (9223372036854775807 < 1 + t1.text.size) := by omega
      have m2 : ¬ (9223372036854775807 < 1 + t1.text.size + 1) := by omega
      have m3 : ¬ (9223372036854775807 < 1 + t1.text.size + 1 + t2.text.size) := by omega
      have m4 : ¬ (9223372036854775807 < 1 + t1.text.size + 1 + t2.text.size + 1) := by omega
      clear hs2 z1 z2
      have B : Hid (Below w.heap.size w (w.alloc (.cells #[.int .i64 5, .slice (some ⟨b, off, none⟩) 2 cap] 31))) := below_alloc _ _
      have H1 := Lib.hid (ht1.below B.out)
      have H2 := Lib.hid (ht2.below B.out)
      have X4 := Lib.hid (X0.out.below B.out)
      have XN : Hid (BoxAt (w.alloc (.cells #[.int .i64 5, .slice (some ⟨b, off, none⟩) 2 cap] 31)) w.heap.size #[.int .i64 5, .slice (some ⟨b, off, none⟩) 2 cap]) := BoxAt.new _ _ _
      clear ht1 ht2 X0
      go_enter Tryd.func101, Tryd.ntmps101
      go_wp2_with fail
      have hb := below_drew (w.alloc (.cells #[.int .i64 5, .slice (some ⟨b, off, none⟩) 2 cap] 31))
      replace B := Lib.hid (below_thru B.out (Nat.le_refl _) hb)
      replace H1 := Lib.hid (H1.out.below hb)
      replace H2 := Lib.hid (H2.out.below hb)
      replace XN := Lib.hid (XN.out.below hb)
      replace X4 := Lib.hid (X4.out.below hb)
      clear hb
      go_region_held3 (fun w' => w'.cell? ⟨w.heap.size, 1, none⟩ = some (.slice (some ⟨b, off, none⟩) 2 cap) ∧ w'.cell? ⟨b, off, none⟩ = some (.int .i64 k1) ∧ w'.cell? ⟨b, off + 1, none⟩ = some (.slice s1 n1 c1) ∧ w'.cell? ⟨b, off + 2, none⟩ = some (.int .i64 k2) ∧ w'.cell? ⟨b, off + 3, none⟩ = some (.slice s2 n2 c2)) (exact ⟨XN.out.2 1, X4.out.2.1, X4.out.2.2.1, X4.out.2.2.2.1, X4.out.2.2.2.2⟩)
        (first
         | (go_at_call_of 101 (Value.agg #[Value.int IntKind.i64 k1, Value.slice s1 n1 c1])
            refine (IH.out _ t1 _ H1.out F1.out Z1.out).mono ?_
            rintro e w1 ⟨rfl, hb⟩
            replace B := Lib.hid (below_thru B.out (Nat.le_refl _) hb)
            replace H1 := Lib.hid (H1.out.below hb)
            replace H2 := Lib.hid (H2.out.below hb)
            replace XN := Lib.hid (XN.out.below hb)
            replace X4 := Lib.hid (X4.out.below hb)
            clear hb)
         | (go_at_call_of 101 (Value.agg #[Value.int IntKind.i64 k2, Value.slice s2 n2 c2])
            refine (IH.out _ t2 _ H2.out F2.out Z2.out).mono ?_
            rintro e w2 ⟨rfl, hb⟩
            replace B := Lib.hid (below_thru B.out (Nat.le_refl _) hb)
            replace H1 := Lib.hid (H1.out.below hb)
            replace H2 := Lib.hid (H2.out.below hb)
            replace XN := Lib.hid (XN.out.below hb)
            replace X4 := Lib.hid (X4.out.below hb)
            clear hb))
      go_wp2_with fail
      go_ret
      exact ⟨by rw [Ty.text_pair]; rfl, B.out⟩
end Go.Proofs.YtdgfkmnnjhlpbaaDoor
/-
  Proved: spec.FormatType gives the text of a valid type, the empty text for others; the memory that was there stays as it was.
-/
namespace Go.Proofs.YtdgfkmnnjhlpbaaDoor
open Go.RowKit

set_option maxRecDepth 100000 in
set_option maxHeartbeats 1000000 in
theorem specFormatType (d : Nat) (v : Value) (t : Ty) (w : World) (h : TyAt w d v t) (hsz : t.size ≤ 1048577) :
    Calls Tryd.prog 55 #[v] w fun e w' => e = .returned (.string (formatText t)) ∧ Below w.heap.size w w' := by
  have HT := Lib.hid h
  obtain ⟨yk, ya, yn, yc, rfl⟩ := agg_parts h
  clear h
  have B : Hid (Below w.heap.size w (w.alloc (.cells #[.int .i64 yk, .slice ya yn yc] 31))) := below_alloc _ _
  have HA := Lib.hid (HT.out.below B.out)
  have XA : Hid (BoxAt (w.alloc (.cells #[.int .i64 yk, .slice ya yn yc] 31)) w.heap.size #[.int .i64 yk, .slice ya yn yc]) := BoxAt.new _ _ _
  clear HT
  go_enter Tryd.func55, Tryd.ntmps55
  go_wp2_with fail
  refine (specValid d _ t _ HA.out hsz).mono ?_
  rintro e w1 ⟨rfl, hb⟩
  replace B := Lib.hid (below_thru B.out (Nat.le_refl _) hb)
  replace HA := Lib.hid (HA.out.below hb)
  replace XA := Lib.hid (XA.out.below hb)
  clear hb
  cases hv : t.valid with
  | false =>
    have HV := Lib.hid hv; clear hv
    go_wp2_with fail
    go_ret
    exact ⟨by rw [format_bad HV.out]; rfl, B.out⟩
  | true =>
    have HV := Lib.hid hv
    have hfm : t.form = true := by simp only [Ty.valid, Bool.and_eq_true] at hv; exact hv.2
    clear hv
    have a0 := XA.out.2 0
    have a1 := XA.out.2 1
    go_wp2_with fail
    refine (specText d _ t _ HA.out hfm hsz).mono ?_
    rintro e w2 ⟨rfl, hb⟩
    have B2 := Lib.hid (below_thru B.out (Nat.le_refl _) hb)
    clear hb hfm
    go_wp2_with fail
    go_ret
    exact ⟨by rw [format_good HV.out]; rfl, B2.out⟩
end Go.Proofs.YtdgfkmnnjhlpbaaDoor
/-
  Proved: a decimal numeral of an int has at most 21 bytes; no program.
-/
namespace Go.Proofs.YtdgfkmnnjhlpbaaDoor
open Go.RowKit

theorem itoa_size (n : Int) (h0 : -9223372036854775808 ≤ n) (h1 : n ≤ 9223372036854775807) : (ByteArray.mk (Lib.itoa n).toArray).size ≤ 21 := by
  rw [show (ByteArray.mk (Lib.itoa n).toArray).size = (Lib.itoa n).toArray.size from rfl, List.size_toArray]
  exact Lib.itoa_length_le n h0 h1
end Go.Proofs.YtdgfkmnnjhlpbaaDoor
/-
  Proved: spec.FormatAction gives the text of a valid action, the empty text for others; the memory that was there stays as it was.
-/
namespace Go.Proofs.YtdgfkmnnjhlpbaaDoor
open Go.RowKit

theorem most_pos (kn : Int) : (0 < (if kn = 2 ∨ kn = 18 ∨ kn = 7 ∨ kn = 8 then actMost kn else -1)) ↔ 0 < actMost kn := by
  by_cases h : kn = 2 ∨ kn = 18 ∨ kn = 7 ∨ kn = 8
  · rw [if_pos h]
  · rw [if_neg h]
    have h2 : actMost kn = 0 := by
      unfold actMost
      rw [if_neg (by omega), if_neg (by omega), if_neg (by omega)]
    omega
set_option maxRecDepth 100000 in
theorem specWords (w : World) : Calls Tryd.prog 50 #[] w fun e w' => ∃ b, e = .returned (.slice (some ⟨b, 0, none⟩) 20 20) ∧ (∀ k : Nat, k < 20 → w'.cell? ⟨b, k, none⟩ = some (.string (actWord (k + 1)))) ∧ Below w.heap.size w w' := by
  go_enter Tryd.func50, Tryd.ntmps50
  go_wp2_with fail
  go_ret
  refine ⟨w.heap.size, rfl, fun k h1 => ?_, below_alloc _ _⟩
  have hx := (BoxAt.new w (actWords.map Value.string).toArray 9).2 k
  refine Eq.trans hx ?_
  have hk : k < actWords.length := by simpa using h1
  rw [List.getElem?_toArray, List.getElem?_map, List.getElem?_eq_getElem hk]
  unfold actWord
  rw [Nat.add_sub_cancel, List.getD_eq_getElem?_getD, List.getElem?_eq_getElem hk]
  rfl
set_option maxRecDepth 100000 in
set_option maxHeartbeats 4000000 in
theorem specActText (d : Nat) (v : Value) (t : Act) (w : World) (h : ActAt w d v t) (hn : t.bulk ≤ 1048576) :
    Calls Tryd.prog 12 #[v] w fun e w' => e = .returned (.string t.text) ∧ Below w.heap.size w w' := by
  cases t with
  | mk kd nm n ty =>
    have HIN := Lib.hid h
    have HBK := Lib.hid hn
    obtain ⟨tk, ta, tn, tc, rfl, hk0, hk1, hn0, hn1, hnm, hty⟩ := h
    dsimp only at hk0 hk1 hn0 hn1 hnm hty ⊢
    have hbk : (Act.mk kd nm n ty).bulk = nm.size + (ty.size - 1) := rfl
    have hsz : ty.size ≤ 1048577 := by omega
    have hns : nm.size ≤ 1048576 := by omega
    clear hn hbk
    have B : Hid (Below w.heap.size w (w.alloc (.cells #[.int .i64 kd, .string nm, .int .i64 n, .int .i64 tk, .slice ta tn tc] 33))) := below_alloc _ _
    have HA := Lib.hid (HIN.out.below B.out)
    have HTY := Lib.hid (hty.below B.out)
    have XA : Hid (BoxAt (w.alloc (.cells #[.int .i64 kd, .string nm, .int .i64 n, .int .i64 tk, .slice ta tn tc] 33)) w.heap.size #[.int .i64 kd, .string nm, .int .i64 n, .int .i64 tk, .slice ta tn tc]) := BoxAt.new _ _ _
    clear hty HIN
    go_enter Tryd.func12, Tryd.ntmps12
    go_wp2_with fail
    refine (specAction d _ (Act.mk kd nm n ty) _ HA.out HBK.out).mono ?_
    rintro e w1 ⟨rfl, hb⟩
    replace B := Lib.hid (below_thru B.out (Nat.le_refl _) hb)
    replace HA := Lib.hid (HA.out.below hb)
    replace HTY := Lib.hid (HTY.out.below hb)
    replace XA := Lib.hid (XA.out.below hb)
    clear hb
    cases hv : (Act.mk kd nm n ty).okB with
    | false =>
      have HV := Lib.hid (act_bad hv); clear hv
      go_wp2_with fail
      go_ret
      exact ⟨by rw [HV.out]; rfl, B.out⟩
    | true =>
      have hrg := act_range hv
      have HV := Lib.hid (act_good hv); clear hv
      dsimp only at hrg
      obtain ⟨j, rfl⟩ : ∃ j : Nat, kd = (j : Int) + 1 := ⟨(kd - 1).toNat, by omega⟩
      have hr2 : j < 20 := by omega
      have hr3 : (0 : Int) ≤ (j : Int) := by omega
      have hr4 : (j : Int) < 20 := by omega
      have hwr : IntKind.i64.wrap (j : Int) = (j : Int) := IntWalk.i64_in _ (by omega)
      clear hrg
      have hws := actWord_size (j + 1)
      have hts := formatText_size ty
      have hfs : (ByteArray.mk (Lib.itoa n).toArray).size ≤ 21 := itoa_size n hn0 hn1
      have CN : ∀ W, Calls Tryd.prog 51 #[.int .i64 ((j : Int) + 1)] W fun e w' => e = .returned (.bool (actNamed ((j : Int) + 1))) ∧ w' = W := fun W => specNamed ((j : Int) + 1) W
      have CT : ∀ W, Calls Tryd.prog 54 #[.int .i64 ((j : Int) + 1)] W fun e w' => e = .returned (.bool (actTyped ((j : Int) + 1))) ∧ w' = W := fun W => specTyped ((j : Int) + 1) W
      have CM : ∀ W, Calls Tryd.prog 52 #[.int .i64 ((j : Int) + 1)] W fun e w' => e = .returned (.int .i64 (if ((j : Int) + 1) = 2 ∨ ((j : Int) + 1) = 18 ∨ ((j : Int) + 1) = 7 ∨ ((j : Int) + 1) = 8 then actMost ((j : Int) + 1) else -1)) ∧ w' = W := fun W => specMost ((j : Int) + 1) W
      have CI : ∀ W, Calls Tryd.prog 53 #[.int .i64 n] W fun e w' => e = .returned (.string ⟨(Lib.itoa n).toArray⟩) ∧ Below W.heap.size W w' := fun W => specFormat n hn0 hn1 W
      have CF : ∀ (W : World) (v : Value) (_ : TyAt W d v ty), Calls Tryd.prog 55 #[v] W fun e w' => e = .returned (.string (formatText ty)) ∧ Below W.heap.size W w' := fun W v h => specFormatType d v ty W h hsz
      have hmo : (0 < (if ((j : Int) + 1) = 2 ∨ ((j : Int) + 1) = 18 ∨ ((j : Int) + 1) = 7 ∨ ((j : Int) + 1) = 8 then actMost ((j : Int) + 1) else -1)) ↔ 0 < actMost ((j : Int) + 1) := most_pos ((j : Int) + 1)
      have HVV : Hid ((Act.mk ((j : Int) + 1) nm n ty).text = actSay (actWord (j + 1)) nm ⟨(Lib.itoa n).toArray⟩ (formatText ty) (actNamed ((j : Int) + 1)) (decide (0 < actMost ((j : Int) + 1))) (actTyped ((j : Int) + 1))) := by have h : (Act.mk ((j : Int) + 1) nm n ty).text = actSay (actWord (((j : Int) + 1)).toNat) nm ⟨(Lib.itoa n).toArray⟩ (formatText ty) (actNamed ((j : Int) + 1)) (decide (0 < actMost ((j : Int) + 1))) (actTyped ((j : Int) + 1)) := HV.out; rw [show (((j : Int) + 1)).toNat = j + 1 by omega] at h; exact h
      clear HV
      generalize hmq : (if ((j : Int) + 1) = 2 ∨ ((j : Int) + 1) = 18 ∨ ((j : Int) + 1) = 7 ∨ ((j : Int) + 1) = 8 then actMost ((j : Int) + 1) else -1) = mo at CM hmo
      clear hmq
      generalize hmb : decide (0 < actMost ((j : Int) + 1)) = bm at HVV
      have hmo2 : decide (0 < mo) = bm := by rw [← hmb]; exact decide_eq_decide.2 hmo
      clear hmo hmb
      generalize actNamed ((j : Int) + 1) = bn at HVV CN
      generalize actTyped ((j : Int) + 1) = bt at HVV CT
      generalize (ByteArray.mk (Lib.itoa n).toArray) = fs at HVV CI hfs
      generalize formatText ty = ts at HVV CF hts
      have HCN := Lib.hid CN
      have HCT := Lib.hid CT
      have HCM := Lib.hid CM
      have HCI := Lib.hid CI
      have HCF := Lib.hid CF
      clear CN CT CM CI CF
      have hmq2 : Hid (decide (0 < mo) = bm) := hmo2
      clear hmo2
      have c0 := XA.out.2 0
      have c1 := XA.out.2 1
      have c2 := XA.out.2 2
      have c3 := XA.out.2 3
      have c4 := XA.out.2 4
      go_wp2_with fail
      have hbd := below_drew w1
      replace B := Lib.hid (below_thru B.out (Nat.le_refl _) hbd)
      replace HTY := Lib.hid (HTY.out.below hbd)
      replace XA := Lib.hid (XA.out.below hbd)
      clear hbd c0 c1 c2 c3 c4
      have c0 := XA.out.2 0
      go_region_law (first
        | (go_simp
           go_at_call 50
           refine (specWords _).mono ?_
           rintro e w2 ⟨bw, rfl, hwc, hb⟩
           have cw := hwc j hr2
           have B2 := Lib.hid (below_thru B.out (Nat.le_refl _) hb)
           have HTY2 := Lib.hid (HTY.out.below hb)
           have XA2 := Lib.hid (XA.out.below hb)
           have c0' := XA2.out.2 0
           clear hb hwc))
      all_goals
        replace B := B2
        replace HTY := HTY2
        replace XA := XA2
        clear c0 c0'
        generalize actWord (j + 1) = wd at *
        have c0 := XA.out.2 0
        have c1 := XA.out.2 1
        have c2 := XA.out.2 2
        have c3 := XA.out.2 3
        have c4 := XA.out.2 4
        have s0 : ¬ (9223372036854775807 < wd.size + 1) := by omega
        have s1 : ¬ (9223372036854775807 < wd.size + 1 + nm.size) := by omega
        have s2 : ¬ (9223372036854775807 < wd.size + 1 + fs.size) := by omega
        have s3 : ¬ (9223372036854775807 < wd.size + 1 + nm.size + 1) := by omega
        have s4 : ¬ (9223372036854775807 < wd.size + 1 + nm.size + 1 + fs.size) := by omega
        have s5 : ¬ (9223372036854775807 < wd.size + 1 + ts.size) := by omega
        have s6 : ¬ (9223372036854775807 < wd.size + 1 + nm.size + 1 + ts.size) := by omega
        have s7 : ¬ (9223372036854775807 < wd.size + 1 + fs.size + 1) := by omega
        have s8 : ¬ (9223372036854775807 < wd.size + 1 + fs.size + 1 + ts.size) := by omega
        have s9 : ¬ (9223372036854775807 < wd.size + 1 + nm.size + 1 + fs.size + 1) := by omega
        have s10 : ¬ (9223372036854775807 < wd.size + 1 + nm.size + 1 + fs.size + 1 + ts.size) := by omega
        clear hws hts hfs hns hsz
        go_wp2_with fail
        refine (HCN.out _).mono ?_
        rintro e w' ⟨rfl, rfl⟩
        cases bn with
        | false =>
          go_wp2_with fail
          refine (HCM.out _).mono ?_
          rintro e w' ⟨rfl, rfl⟩
          have hmd := hmq2.out
          cases bm with
          | false =>
            go_wp2_with fail
            refine (HCT.out _).mono ?_
            rintro e w' ⟨rfl, rfl⟩
            cases bt with
            | false =>
              go_wp2_with fail
              go_ret
              exact ⟨by rw [HVV.out, actSay_eq]; rfl, B.out⟩
            | true =>
              go_wp2_with fail
              refine (HCF.out _ _ HTY.out).mono ?_
              rintro e w5 ⟨rfl, hb⟩
              replace B := Lib.hid (below_thru B.out (Nat.le_refl _) hb)
              replace XA := Lib.hid (XA.out.below hb)
              clear hb
              go_wp2_with fail
              go_ret
              exact ⟨by rw [HVV.out, actSay_eq]; rfl, B.out⟩
          | true =>
            go_wp2_with fail
            refine (HCI.out _).mono ?_
            clear c0 c1 c2 c3 c4
            rintro e w4 ⟨rfl, hb⟩
            replace B := Lib.hid (below_thru B.out (Nat.le_refl _) hb)
            replace HTY := Lib.hid (HTY.out.below hb)
            replace XA := Lib.hid (XA.out.below hb)
            clear hb
            have c0 := XA.out.2 0
            have c1 := XA.out.2 1
            have c2 := XA.out.2 2
            have c3 := XA.out.2 3
            have c4 := XA.out.2 4
            go_wp2_with fail
            refine (HCT.out _).mono ?_
            rintro e w' ⟨rfl, rfl⟩
            cases bt with
            | false =>
              go_wp2_with fail
              go_ret
              exact ⟨by rw [HVV.out, actSay_eq]; rfl, B.out⟩
            | true =>
              go_wp2_with fail
              refine (HCF.out _ _ HTY.out).mono ?_
              rintro e w5 ⟨rfl, hb⟩
              replace B := Lib.hid (below_thru B.out (Nat.le_refl _) hb)
              replace XA := Lib.hid (XA.out.below hb)
              clear hb
              go_wp2_with fail
              go_ret
              exact ⟨by rw [HVV.out, actSay_eq]; rfl, B.out⟩
        | true =>
          go_wp2_with fail
          refine (HCM.out _).mono ?_
          rintro e w' ⟨rfl, rfl⟩
          have hmd := hmq2.out
          cases bm with
          | false =>
            go_wp2_with fail
            refine (HCT.out _).mono ?_
            rintro e w' ⟨rfl, rfl⟩
            cases bt with
            | false =>
              go_wp2_with fail
              go_ret
              exact ⟨by rw [HVV.out, actSay_eq]; rfl, B.out⟩
            | true =>
              go_wp2_with fail
              refine (HCF.out _ _ HTY.out).mono ?_
              rintro e w5 ⟨rfl, hb⟩
              replace B := Lib.hid (below_thru B.out (Nat.le_refl _) hb)
              replace XA := Lib.hid (XA.out.below hb)
              clear hb
              go_wp2_with fail
              go_ret
              exact ⟨by rw [HVV.out, actSay_eq]; rfl, B.out⟩
          | true =>
            go_wp2_with fail
            refine (HCI.out _).mono ?_
            clear c0 c1 c2 c3 c4
            rintro e w4 ⟨rfl, hb⟩
            replace B := Lib.hid (below_thru B.out (Nat.le_refl _) hb)
            replace HTY := Lib.hid (HTY.out.below hb)
            replace XA := Lib.hid (XA.out.below hb)
            clear hb
            have c0 := XA.out.2 0
            have c1 := XA.out.2 1
            have c2 := XA.out.2 2
            have c3 := XA.out.2 3
            have c4 := XA.out.2 4
            go_wp2_with fail
            refine (HCT.out _).mono ?_
            rintro e w' ⟨rfl, rfl⟩
            cases bt with
            | false =>
              go_wp2_with fail
              go_ret
              exact ⟨by rw [HVV.out, actSay_eq]; rfl, B.out⟩
            | true =>
              go_wp2_with fail
              refine (HCF.out _ _ HTY.out).mono ?_
              rintro e w5 ⟨rfl, hb⟩
              replace B := Lib.hid (below_thru B.out (Nat.le_refl _) hb)
              replace XA := Lib.hid (XA.out.below hb)
              clear hb
              go_wp2_with fail
              go_ret
              exact ⟨by rw [HVV.out, actSay_eq]; rfl, B.out⟩
end Go.Proofs.YtdgfkmnnjhlpbaaDoor
/-
  Proved: which kinds of actions have a name, a type, a number (impl.actionHasName, actionHasType, greatestNumber); the world stays as it was.
-/
namespace Go.Proofs.YtdgfkmnnjhlpbaaDoor
open Go.RowKit

set_option maxRecDepth 100000 in
theorem implNamed (k : Int) (w : World) : Calls Tryd.prog 57 #[.int .i64 k] w fun e w' => e = .returned (.bool (actNamed k)) ∧ w' = w := by
  by_cases h0 : k = 6
  · subst h0
    go_enter Tryd.func57, Tryd.ntmps57
    go_wp2_with fail
    go_ret
    exact ⟨rfl, rfl⟩
  · skip
    by_cases h1 : k = 9
    · subst h1
      go_enter Tryd.func57, Tryd.ntmps57
      go_wp2_with fail
      go_ret
      exact ⟨rfl, rfl⟩
    · skip
      by_cases h2 : k = 20
      · subst h2
        go_enter Tryd.func57, Tryd.ntmps57
        go_wp2_with fail
        go_ret
        exact ⟨rfl, rfl⟩
      · skip
        go_enter Tryd.func57, Tryd.ntmps57
        go_wp2_with fail
        go_ret
        exact ⟨by simp [actNamed, h0, h1, h2], rfl⟩
set_option maxRecDepth 100000 in
theorem implTyped (k : Int) (w : World) : Calls Tryd.prog 60 #[.int .i64 k] w fun e w' => e = .returned (.bool (actTyped k)) ∧ w' = w := by
  by_cases h0 : k = 9
  · subst h0
    go_enter Tryd.func60, Tryd.ntmps60
    go_wp2_with fail
    go_ret
    exact ⟨rfl, rfl⟩
  · skip
    by_cases h1 : k = 17
    · subst h1
      go_enter Tryd.func60, Tryd.ntmps60
      go_wp2_with fail
      go_ret
      exact ⟨rfl, rfl⟩
    · skip
      by_cases h2 : k = 19
      · subst h2
        go_enter Tryd.func60, Tryd.ntmps60
        go_wp2_with fail
        go_ret
        exact ⟨rfl, rfl⟩
      · skip
        go_enter Tryd.func60, Tryd.ntmps60
        go_wp2_with fail
        go_ret
        exact ⟨by simp [actTyped, h0, h1, h2], rfl⟩
set_option maxRecDepth 100000 in
theorem implMost (k : Int) (w : World) : Calls Tryd.prog 102 #[.int .i64 k] w fun e w' => e = .returned (.int .i64 (actMost k)) ∧ w' = w := by
  by_cases h0 : k = 2
  · subst h0
    go_enter Tryd.func102, Tryd.ntmps102
    go_wp2_with fail
    go_ret
    exact ⟨rfl, rfl⟩
  · skip
    by_cases h1 : k = 18
    · subst h1
      go_enter Tryd.func102, Tryd.ntmps102
      go_wp2_with fail
      go_ret
      exact ⟨rfl, rfl⟩
    · skip
      by_cases h2 : k = 7
      · subst h2
        go_enter Tryd.func102, Tryd.ntmps102
        go_wp2_with fail
        go_ret
        exact ⟨rfl, rfl⟩
      · skip
        by_cases h3 : k = 8
        · subst h3
          go_enter Tryd.func102, Tryd.ntmps102
          go_wp2_with fail
          go_ret
          exact ⟨rfl, rfl⟩
        · skip
          go_enter Tryd.func102, Tryd.ntmps102
          go_wp2_with fail
          go_ret
          exact ⟨by simp [actMost, h0, h1, h2, h3], rfl⟩
end Go.Proofs.YtdgfkmnnjhlpbaaDoor
/-
  Proved: impl.isWord says whether a text is one of the three words; the memory that was there stays as it was.
-/
namespace Go.Proofs.YtdgfkmnnjhlpbaaDoor
open Go.RowKit

set_option maxRecDepth 100000 in
theorem implWord (s : ByteArray) (w : World) : Calls Tryd.prog 127 #[.string s] w fun e w' => e = .returned (.bool (wordB s)) ∧ w = w' := by
  cases h1 : (s.toList == [105, 102]) with
  | true =>
    go_enter Tryd.func127, Tryd.ntmps127
    go_wp2_with fail
    go_ret
    exact ⟨by simp [wordB, h1], rfl⟩
  | false =>
    cases h2 : (s.toList == [102, 115, 116]) with
    | true =>
      go_enter Tryd.func127, Tryd.ntmps127
      go_wp2_with fail
      go_ret
      exact ⟨by simp [wordB, h1, h2], rfl⟩
    | false =>
      cases h3 : (s.toList == [115, 110, 100]) with
      | true =>
        go_enter Tryd.func127, Tryd.ntmps127
        go_wp2_with fail
        go_ret
        exact ⟨by simp [wordB, h1, h2, h3], rfl⟩
      | false =>
        go_enter Tryd.func127, Tryd.ntmps127
        go_wp2_with fail
        go_ret
        exact ⟨by simp [wordB, h1, h2, h3], rfl⟩
end Go.Proofs.YtdgfkmnnjhlpbaaDoor
/-
  Proved: impl.IsName says whether a text is a name; the memory that was there stays as it was.
-/
namespace Go.Proofs.YtdgfkmnnjhlpbaaDoor
open Go.RowKit

theorem below_iter (w : World) (s : ByteArray) (k : Nat) : Below w.heap.size w (w.iter s k) := (Below.refl _ _).alloc (Nat.le_refl _) _
set_option maxRecDepth 100000 in
set_option maxHeartbeats 4000000 in
theorem implName (s : ByteArray) (w : World) (hs : s.size ≤ 9223372036854775807) : Calls Tryd.prog 103 #[.string s] w fun e w' => e = .returned (.bool (nameB s)) ∧ Below w.heap.size w w' := by
  by_cases r1 : 1 ≤ s.size
  case neg =>
    have hz : s.size = 0 := by omega
    have hl : s.toList = [] := List.eq_nil_of_length_eq_zero (by rw [size_of_toList]; exact hz)
    have h1 : (s.toList == []) = true := by rw [hl]; rfl
    have h2 : s.toList.isEmpty = true := by rw [hl]; rfl
    have HR := Lib.hid r1
    clear hz hl r1
    go_enter Tryd.func103, Tryd.ntmps103
    go_wp2_with fail
    go_ret
    exact ⟨by simp [nameB, HR.out], Below.refl _ _⟩
  have h1 : (s.toList == []) = false := toList_some r1
  have h2 : s.toList.isEmpty = false := by cases hh : s.toList with | nil => rw [hh] at h1; cases h1 | cons a r => rfl
  by_cases r2 : s.size ≤ 5
  case neg =>
    have i2 : (5 : Int) < (s.size : Int) := by omega
    go_enter Tryd.func103, Tryd.ntmps103
    go_wp2_with fail
    go_ret
    exact ⟨by simp [nameB, r2], Below.refl _ _⟩
  have i2 : ¬ ((5 : Int) < (s.size : Int)) := by omega
  cases hw : wordB s with
  | true =>
    go_enter Tryd.func103, Tryd.ntmps103
    go_wp2_with fail
    refine (implWord s w).mono ?_
    rintro e w1 ⟨rfl, rfl⟩
    go_wp2_with fail
    go_ret
    exact ⟨by simp [nameB, hw], Below.refl _ _⟩
  | false =>
    have HNB : Hid (nameB s = okB s s.size) := by show _ = _; simp [nameB, hw, r1, r2]
    go_enter Tryd.func103, Tryd.ntmps103
    go_wp2_with fail
    refine (implWord s w).mono ?_
    rintro e w1 ⟨rfl, rfl⟩
    go_wp2_with fail
    go_loopw [3] (fun _ wr => ∃ k : Nat, wr = w.iter s k ∧ k ≤ s.size ∧ okB s k = true) (fun _ wr => s.size - wr.iterPos w.heap.size)
    case atStart => exact ⟨0, rfl, by omega, rfl⟩
    case round =>
      obtain ⟨k, rfl, hk, hf⟩ := hrel
      have HF := Lib.hid hf; clear hf
      by_cases hlt : k < s.size
      · have HSUC := Lib.hid (okB_succ s k hlt)
        by_cases hasc : (s[k]'hlt).toNat < 128
        · have hnx : ∀ ty, (Instr.next (.pointer (some ⟨w.heap.size, 0, none⟩)) true ty).run Tryd.prog (w.iter s k) = _ := fun ty => run_next_ascii w s k ty hlt hasc
          by_cases l1 : 97 ≤ (s[k]'hlt).toNat ∧ (s[k]'hlt).toNat ≤ 122
          · have OK := Lib.hid (okAt_letter (k := k) l1.1 l1.2)
            obtain ⟨l1a, l1b⟩ := l1
            have l1d : decide ((97 : Int) ≤ ((s[k]'hlt).toNat : Int)) = true := by simpa using (by omega : (97 : Int) ≤ ((s[k]'hlt).toNat : Int))
            have l2d : decide (((s[k]'hlt).toNat : Int) ≤ 122) = true := by simpa using (by omega : ((s[k]'hlt).toNat : Int) ≤ 122)
            clear l1a l1b
            go_wp2_with fail
            all_goals exact ⟨⟨k + 1, rfl, hlt, by rw [HSUC.out, HF.out, OK.out]; rfl⟩, by simp; omega⟩
          · by_cases l3 : 97 ≤ (s[k]'hlt).toNat
            · skip
              by_cases z : k = 0
              · have OK := Lib.hid (okAt_bad (c := (s[k]'hlt).toNat) (k := k) (by omega) (Or.inl z))
                have l1d : decide ((97 : Int) ≤ ((s[k]'hlt).toNat : Int)) = true := by simpa using (by omega : (97 : Int) ≤ ((s[k]'hlt).toNat : Int))
                have l2d : decide (((s[k]'hlt).toNat : Int) ≤ 122) = false := by simpa using (by omega : (122 : Int) < ((s[k]'hlt).toNat : Int))
                have zb : ((k : Int) == 0) = true := by simp [z]
                clear l1 l3 z
                go_wp2_with fail
                all_goals go_ret
                all_goals exact ⟨by rw [HNB.out, okB_false s (k + 1) s.size (by rw [HSUC.out, HF.out, OK.out]; rfl) hlt]; rfl, below_iter _ _ _⟩
              · have zb : ((k : Int) == 0) = false := by simpa using z
                have z1 : 1 ≤ k := by omega
                by_cases g1 : 48 ≤ (s[k]'hlt).toNat ∧ (s[k]'hlt).toNat ≤ 57
                · have OK := Lib.hid (okAt_digit (k := k) z1 g1.1 g1.2)
                  obtain ⟨g1a, g1b⟩ := g1
                  have l1d : decide ((97 : Int) ≤ ((s[k]'hlt).toNat : Int)) = true := by simpa using (by omega : (97 : Int) ≤ ((s[k]'hlt).toNat : Int))
                  have l2d : decide (((s[k]'hlt).toNat : Int) ≤ 122) = false := by simpa using (by omega : (122 : Int) < ((s[k]'hlt).toNat : Int))
                  have g1d : decide ((48 : Int) ≤ ((s[k]'hlt).toNat : Int)) = true := by simpa using (by omega : (48 : Int) ≤ ((s[k]'hlt).toNat : Int))
                  have g2d : decide (((s[k]'hlt).toNat : Int) ≤ 57) = true := by simpa using (by omega : ((s[k]'hlt).toNat : Int) ≤ 57)
                  clear z l1 l3 g1a g1b
                  go_wp2_with fail
                  all_goals exact ⟨⟨k + 1, rfl, hlt, by rw [HSUC.out, HF.out, OK.out]; rfl⟩, by simp; omega⟩
                · have OK := Lib.hid (okAt_bad (c := (s[k]'hlt).toNat) (k := k) (by omega) (Or.inr (by omega)))
                  by_cases g2 : 48 ≤ (s[k]'hlt).toNat
                  · skip
                    have l1d : decide ((97 : Int) ≤ ((s[k]'hlt).toNat : Int)) = true := by simpa using (by omega : (97 : Int) ≤ ((s[k]'hlt).toNat : Int))
                    have l2d : decide (((s[k]'hlt).toNat : Int) ≤ 122) = false := by simpa using (by omega : (122 : Int) < ((s[k]'hlt).toNat : Int))
                    have g1d : decide ((48 : Int) ≤ ((s[k]'hlt).toNat : Int)) = true := by simpa using (by omega : (48 : Int) ≤ ((s[k]'hlt).toNat : Int))
                    have g2d : decide (((s[k]'hlt).toNat : Int) ≤ 57) = false := by simpa using (by omega : (57 : Int) < ((s[k]'hlt).toNat : Int))
                    clear z l1 l3 g1 g2
                    go_wp2_with fail
                    all_goals go_ret
                    all_goals exact ⟨by rw [HNB.out, okB_false s (k + 1) s.size (by rw [HSUC.out, HF.out, OK.out]; rfl) hlt]; rfl, below_iter _ _ _⟩
                  · skip
                    have l1d : decide ((97 : Int) ≤ ((s[k]'hlt).toNat : Int)) = true := by simpa using (by omega : (97 : Int) ≤ ((s[k]'hlt).toNat : Int))
                    have l2d : decide (((s[k]'hlt).toNat : Int) ≤ 122) = false := by simpa using (by omega : (122 : Int) < ((s[k]'hlt).toNat : Int))
                    have g1d : decide ((48 : Int) ≤ ((s[k]'hlt).toNat : Int)) = false := by simpa using (by omega : ((s[k]'hlt).toNat : Int) < 48)
                    clear z l1 l3 g1 g2
                    go_wp2_with fail
                    all_goals go_ret
                    all_goals exact ⟨by rw [HNB.out, okB_false s (k + 1) s.size (by rw [HSUC.out, HF.out, OK.out]; rfl) hlt]; rfl, below_iter _ _ _⟩
            · skip
              by_cases z : k = 0
              · have OK := Lib.hid (okAt_bad (c := (s[k]'hlt).toNat) (k := k) (by omega) (Or.inl z))
                have l1d : decide ((97 : Int) ≤ ((s[k]'hlt).toNat : Int)) = false := by simpa using (by omega : ((s[k]'hlt).toNat : Int) < 97)
                have zb : ((k : Int) == 0) = true := by simp [z]
                clear l1 l3 z
                go_wp2_with fail
                all_goals go_ret
                all_goals exact ⟨by rw [HNB.out, okB_false s (k + 1) s.size (by rw [HSUC.out, HF.out, OK.out]; rfl) hlt]; rfl, below_iter _ _ _⟩
              · have zb : ((k : Int) == 0) = false := by simpa using z
                have z1 : 1 ≤ k := by omega
                by_cases g1 : 48 ≤ (s[k]'hlt).toNat ∧ (s[k]'hlt).toNat ≤ 57
                · have OK := Lib.hid (okAt_digit (k := k) z1 g1.1 g1.2)
                  obtain ⟨g1a, g1b⟩ := g1
                  have l1d : decide ((97 : Int) ≤ ((s[k]'hlt).toNat : Int)) = false := by simpa using (by omega : ((s[k]'hlt).toNat : Int) < 97)
                  have g1d : decide ((48 : Int) ≤ ((s[k]'hlt).toNat : Int)) = true := by simpa using (by omega : (48 : Int) ≤ ((s[k]'hlt).toNat : Int))
                  have g2d : decide (((s[k]'hlt).toNat : Int) ≤ 57) = true := by simpa using (by omega : ((s[k]'hlt).toNat : Int) ≤ 57)
                  clear z l1 l3 g1a g1b
                  go_wp2_with fail
                  all_goals exact ⟨⟨k + 1, rfl, hlt, by rw [HSUC.out, HF.out, OK.out]; rfl⟩, by simp; omega⟩
                · have OK := Lib.hid (okAt_bad (c := (s[k]'hlt).toNat) (k := k) (by omega) (Or.inr (by omega)))
                  by_cases g2 : 48 ≤ (s[k]'hlt).toNat
                  · skip
                    have l1d : decide ((97 : Int) ≤ ((s[k]'hlt).toNat : Int)) = false := by simpa using (by omega : ((s[k]'hlt).toNat : Int) < 97)
                    have g1d : decide ((48 : Int) ≤ ((s[k]'hlt).toNat : Int)) = true := by simpa using (by omega : (48 : Int) ≤ ((s[k]'hlt).toNat : Int))
                    have g2d : decide (((s[k]'hlt).toNat : Int) ≤ 57) = false := by simpa using (by omega : (57 : Int) < ((s[k]'hlt).toNat : Int))
                    clear z l1 l3 g1 g2
                    go_wp2_with fail
                    all_goals go_ret
                    all_goals exact ⟨by rw [HNB.out, okB_false s (k + 1) s.size (by rw [HSUC.out, HF.out, OK.out]; rfl) hlt]; rfl, below_iter _ _ _⟩
                  · skip
                    have l1d : decide ((97 : Int) ≤ ((s[k]'hlt).toNat : Int)) = false := by simpa using (by omega : ((s[k]'hlt).toNat : Int) < 97)
                    have g1d : decide ((48 : Int) ≤ ((s[k]'hlt).toNat : Int)) = false := by simpa using (by omega : ((s[k]'hlt).toNat : Int) < 48)
                    clear z l1 l3 g1 g2
                    go_wp2_with fail
                    all_goals go_ret
                    all_goals exact ⟨by rw [HNB.out, okB_false s (k + 1) s.size (by rw [HSUC.out, HF.out, OK.out]; rfl) hlt]; rfl, below_iter _ _ _⟩
        · have hnx : ∀ ty, (Instr.next (.pointer (some ⟨w.heap.size, 0, none⟩)) true ty).run Tryd.prog (w.iter s k) = _ := fun ty => run_next_any w s k ty hlt
          have hd := (decode_high s k hlt (by omega)).1
          have OK : Hid (okAt (s[k]'hlt).toNat k = false) := okAt_bad (by omega) (Or.inr (by omega))
          have m1 : decide ((97 : Int) ≤ ((Utf8.decode s k).1 : Int)) = true := by simpa using (by omega : (97 : Int) ≤ ((Utf8.decode s k).1 : Int))
          have m2 : decide (((Utf8.decode s k).1 : Int) ≤ 122) = false := by simpa using (by omega : (122 : Int) < ((Utf8.decode s k).1 : Int))
          have m3 : decide ((48 : Int) ≤ ((Utf8.decode s k).1 : Int)) = true := by simpa using (by omega : (48 : Int) ≤ ((Utf8.decode s k).1 : Int))
          have m4 : decide (((Utf8.decode s k).1 : Int) ≤ 57) = false := by simpa using (by omega : (57 : Int) < ((Utf8.decode s k).1 : Int))
          by_cases z : k = 0
          · have zb : ((k : Int) == 0) = true := by simp [z]
            clear z
            go_wp2_with fail
            go_ret
            exact ⟨by rw [HNB.out, okB_false s (k + 1) s.size (by rw [HSUC.out, HF.out, OK.out]; rfl) hlt]; rfl, below_iter _ _ _⟩
          · have zb : ((k : Int) == 0) = false := by simpa using z
            clear z
            go_wp2_with fail
            go_ret
            exact ⟨by rw [HNB.out, okB_false s (k + 1) s.size (by rw [HSUC.out, HF.out, OK.out]; rfl) hlt]; rfl, below_iter _ _ _⟩
      · have hnx : ∀ ty, (Instr.next (.pointer (some ⟨w.heap.size, 0, none⟩)) true ty).run Tryd.prog (w.iter s k) = _ := fun ty => run_next_end w s k ty hlt
        have hks : k = s.size := by omega
        have HK := Lib.hid hks
        clear hks
        go_wp2_with fail
        go_ret
        exact ⟨by rw [HNB.out, ← HK.out, HF.out]; rfl, below_iter _ _ _⟩
end Go.Proofs.YtdgfkmnnjhlpbaaDoor
/-
  Proved: the method parts of each of the five nodes gives the parts of a type (none for the first three), and leaves the memory that was there as it was; which function a call of parts through the interface runs.
-/
namespace Go.Proofs.YtdgfkmnnjhlpbaaDoor
open Go.RowKit

theorem meth_unknown (n : Nat) (w : World) : (method (n + 1) 137 (.agg #[]) "loop.example/g00585/impl.parts").run Tryd.prog w = .ok (173, .agg #[]) w := by kernel_rfl
theorem meth_num (n : Nat) (w : World) : (method (n + 1) 138 (.agg #[]) "loop.example/g00585/impl.parts").run Tryd.prog w = .ok (174, .agg #[]) w := by kernel_rfl
theorem meth_bool (n : Nat) (w : World) : (method (n + 1) 139 (.agg #[]) "loop.example/g00585/impl.parts").run Tryd.prog w = .ok (175, .agg #[]) w := by kernel_rfl
theorem meth_arrow (n : Nat) (w : World) (a b c d : Value) : (method (n + 1) 141 (.agg #[a, b, c, d]) "loop.example/g00585/impl.parts").run Tryd.prog w = .ok (176, .agg #[a, b, c, d]) w := by kernel_rfl
theorem meth_pair (n : Nat) (w : World) (a b c d : Value) : (method (n + 1) 143 (.agg #[a, b, c, d]) "loop.example/g00585/impl.parts").run Tryd.prog w = .ok (177, .agg #[a, b, c, d]) w := by kernel_rfl

set_option maxRecDepth 100000 in
theorem parts_unknown (w : World) : Calls Tryd.prog 173 #[.agg #[]] w fun e w' => e = .returned (.slice none 0 0) ∧ Below w.heap.size w w' := by
  go_enter Tryd.func173, Tryd.ntmps173
  go_wp2_with fail
  go_ret
  exact ⟨rfl, below_alloc _ _⟩
set_option maxRecDepth 100000 in
theorem parts_num (w : World) : Calls Tryd.prog 174 #[.agg #[]] w fun e w' => e = .returned (.slice none 0 0) ∧ Below w.heap.size w w' := by
  go_enter Tryd.func174, Tryd.ntmps174
  go_wp2_with fail
  go_ret
  exact ⟨rfl, below_alloc _ _⟩
set_option maxRecDepth 100000 in
theorem parts_bool (w : World) : Calls Tryd.prog 175 #[.agg #[]] w fun e w' => e = .returned (.slice none 0 0) ∧ Below w.heap.size w w' := by
  go_enter Tryd.func175, Tryd.ntmps175
  go_wp2_with fail
  go_ret
  exact ⟨rfl, below_alloc _ _⟩
def PartsEnd (w0 : World) (d : Nat) (t1 t2 : Ty) (w : World) (e : Ending) (w' : World) : Prop :=
  ∃ b, e = .returned (.slice (some ⟨b, 0, none⟩) 2 2) ∧ RowIn (TyAt w0 d) w' w.heap.size (.slice (some ⟨b, 0, none⟩) 2 2) [t1, t2] ∧ Below w.heap.size w w'
theorem tys_two {w0 w : World} {d b lo : Nat} {t1 t2 : Ty} {k1 k2 : Int} {s1 s2 : Value} (hlo : lo ≤ b) (hb : b < w.heap.size) (h0 : w.cell? ⟨b, 0, none⟩ = some (.int .i64 k1)) (h1 : w.cell? ⟨b, 1, none⟩ = some s1) (h2 : w.cell? ⟨b, 2, none⟩ = some (.int .i64 k2)) (h3 : w.cell? ⟨b, 3, none⟩ = some s2)
    (ht1 : TyAt w0 d (.agg #[.int .i64 k1, s1]) t1) (ht2 : TyAt w0 d (.agg #[.int .i64 k2, s2]) t2) : RowIn (TyAt w0 d) w lo (.slice (some ⟨b, 0, none⟩) 2 2) [t1, t2] := by
  refine ⟨_, _, rfl, Nat.le_refl _, by simp, fun j hj => ?_⟩
  match j, hj with
  | 0, _ => exact ⟨b, 0, _, _, rfl, hlo, hb, by simpa using h0, by simpa using h1, ht1⟩
  | 1, _ => exact ⟨b, 0, _, _, rfl, hlo, hb, by simpa using h2, by simpa using h3, ht2⟩
theorem box_four {w : World} {a b c d : Value} {T : TypeId} : BoxAt ((w.alloc (.cells #[a, b, c, d] T)).alloc (.cells #[a, b, c, d] 31)) (w.heap.size + 1) #[a, b, c, d] := by
  have h := BoxAt.new (w.alloc (.cells #[a, b, c, d] T)) #[a, b, c, d] 31
  rw [show (w.alloc (.cells #[a, b, c, d] T)).heap.size = w.heap.size + 1 from by simp] at h
  exact h
set_option maxRecDepth 100000 in
set_option maxHeartbeats 1000000 in
theorem parts_arrow (w0 : World) (d : Nat) (t1 t2 : Ty) (k1 k2 : Int) (v1 v2 : Value) (w : World) (h1 : TyAt w0 d (.agg #[.int .i64 k1, v1]) t1) (h2 : TyAt w0 d (.agg #[.int .i64 k2, v2]) t2) :
    Calls Tryd.prog 176 #[.agg #[.int .i64 k1, v1, .int .i64 k2, v2]] w (PartsEnd w0 d t1 t2 w) := by
  obtain ⟨_, s1, n1, c1, _, rfl⟩ := at_parts h1
  obtain ⟨_, s2, n2, c2, _, rfl⟩ := at_parts h2
  have H1 := Lib.hid h1
  have H2 := Lib.hid h2
  clear h1 h2
  go_enter Tryd.func176, Tryd.ntmps176
  go_wp2_with fail
  go_ret
  have X := ((Below.refl w.heap.size w).alloc (Nat.le_refl _) (.cells #[.int .i64 k1, .slice s1 n1 c1, .int .i64 k2, .slice s2 n2 c2] 141)).alloc (by simp) (.cells #[.int .i64 k1, .slice s1 n1 c1, .int .i64 k2, .slice s2 n2 c2] 31)
  have Y := box_four (w := w) (a := .int .i64 k1) (b := .slice s1 n1 c1) (c := .int .i64 k2) (d := .slice s2 n2 c2) (T := 141)
  exact ⟨_, rfl, tys_two (by omega) Y.1 (Y.2 0) (Y.2 1) (Y.2 2) (Y.2 3) H1.out H2.out, X⟩
set_option maxRecDepth 100000 in
set_option maxHeartbeats 1000000 in
theorem parts_pair (w0 : World) (d : Nat) (t1 t2 : Ty) (k1 k2 : Int) (v1 v2 : Value) (w : World) (h1 : TyAt w0 d (.agg #[.int .i64 k1, v1]) t1) (h2 : TyAt w0 d (.agg #[.int .i64 k2, v2]) t2) :
    Calls Tryd.prog 177 #[.agg #[.int .i64 k1, v1, .int .i64 k2, v2]] w (PartsEnd w0 d t1 t2 w) := by
  obtain ⟨_, s1, n1, c1, _, rfl⟩ := at_parts h1
  obtain ⟨_, s2, n2, c2, _, rfl⟩ := at_parts h2
  have H1 := Lib.hid h1
  have H2 := Lib.hid h2
  clear h1 h2
  go_enter Tryd.func177, Tryd.ntmps177
  go_wp2_with fail
  go_ret
  have X := ((Below.refl w.heap.size w).alloc (Nat.le_refl _) (.cells #[.int .i64 k1, .slice s1 n1 c1, .int .i64 k2, .slice s2 n2 c2] 143)).alloc (by simp) (.cells #[.int .i64 k1, .slice s1 n1 c1, .int .i64 k2, .slice s2 n2 c2] 31)
  have Y := box_four (w := w) (a := .int .i64 k1) (b := .slice s1 n1 c1) (c := .int .i64 k2) (d := .slice s2 n2 c2) (T := 143)
  exact ⟨_, rfl, tys_two (by omega) Y.1 (Y.2 0) (Y.2 1) (Y.2 2) (Y.2 3) H1.out H2.out, X⟩
end Go.Proofs.YtdgfkmnnjhlpbaaDoor
/-
  Proved: impl.typeWithin says whether a type's tree has the form of a type and fits into the room and the depth that are left; it counts the room down, and touches nothing else.
-/
namespace Go.Proofs.YtdgfkmnnjhlpbaaDoor
open Go.RowKit

def within (t : Ty) (r dp : Int) : Bool := decide ((t.size : Int) ≤ r) && decide ((t.depth : Int) ≤ dp) && t.form
def WithinEnd (p : Nat) (r dp : Int) (t : Ty) (w : World) (e : Ending) (w' : World) : Prop :=
  ∃ r' : Int, e = .returned (.bool (within t r dp)) ∧ w'.cell? ⟨p, 0, none⟩ = some (.int .i64 r') ∧ w'.frozen? ⟨p, 0, none⟩ = false ∧ r - t.size ≤ r' ∧ r' ≤ r ∧ (within t r dp = true → r' = r - t.size) ∧
    Below p w w' ∧ (∀ b, b < w.heap.size → b ≠ p → w'.heap[b]? = w.heap[b]?)
/-- What the count leaves of memory: below p nothing has changed, nor any old block but p; the room holds r. -/
def Room (p : Nat) (r : Int) (w w' : World) : Prop :=
  w'.cell? ⟨p, 0, none⟩ = some (.int .i64 r) ∧ w'.frozen? ⟨p, 0, none⟩ = false ∧ Below p w w' ∧ (∀ b, b < w.heap.size → b ≠ p → w'.heap[b]? = w.heap[b]?)
theorem Room.stored {p : Nat} {r : Int} {x : Value} {w w2 : World} (hp : p < w.heap.size) (hb : Below w.heap.size w w2) (e0 : w2.cell? ⟨p, 0, none⟩ = some x) (e1 : w2.frozen? ⟨p, 0, none⟩ = false) : Room p r w (w2.setCell ⟨p, 0, none⟩ (.int .i64 r)) := by
  refine ⟨by simp [go_sem, e0], by simp [go_sem, e1], (hb.mono (Nat.le_of_lt hp)).setCell (Nat.le_refl _) _, fun b h1 h2 => ?_⟩
  rw [heap_setCell_other _ _ _ _ h2]
  exact hb.block b h1
theorem Room.below {p : Nat} {r : Int} {w w1 w2 : World} (hp : p < w.heap.size) (h : Room p r w w1) (hb : Below w1.heap.size w1 w2) : Room p r w w2 := by
  obtain ⟨h0, h1, h2, h3⟩ := h
  have hz := h2.size
  refine ⟨(hb.cell (p := ⟨p, 0, none⟩) (Nat.lt_of_lt_of_le hp hz)).trans h0, (hb.frozen (p := ⟨p, 0, none⟩) (Nat.lt_of_lt_of_le hp hz)).trans h1, h2.trans (hb.mono (by omega)), fun b hb1 hb2 => ?_⟩
  rw [hb.block b (by omega)]
  exact h3 b hb1 hb2
theorem Room.on {p : Nat} {r r2 : Int} {w w1 w2 : World} (h : Room p r w w1) (h2 : Room p r2 w1 w2) : Room p r2 w w2 := by
  obtain ⟨_, _, g2, g3⟩ := h
  obtain ⟨k0, k1, k2, k3⟩ := h2
  refine ⟨k0, k1, g2.trans k2, fun b hb1 hb2 => ?_⟩
  rw [k3 b (by have := g2.size; omega) hb2]
  exact g3 b hb1 hb2
theorem WithinEnd.of {p : Nat} {r dp r' : Int} {t : Ty} {w w' : World} {b : Bool} (hb : within t r dp = b) (hr : Room p r' w w') (h1 : r - t.size ≤ r') (h2 : r' ≤ r) (h3 : b = true → r' = r - t.size) : WithinEnd p r dp t w (.returned (.bool b)) w' := by
  subst hb
  exact ⟨r', rfl, hr.1, hr.2.1, h1, h2, h3, hr.2.2.1, hr.2.2.2⟩
theorem WithinEnd.room {p : Nat} {r dp : Int} {t : Ty} {w w' : World} {e : Ending} (h : WithinEnd p r dp t w e w') : ∃ r', e = .returned (.bool (within t r dp)) ∧ Room p r' w w' ∧ r - t.size ≤ r' ∧ r' ≤ r ∧ (within t r dp = true → r' = r - t.size) := by
  obtain ⟨r', h0, h1, h2, h3, h4, h5, h6, h7⟩ := h
  exact ⟨r', h0, ⟨h1, h2, h6, h7⟩, h3, h4, h5⟩
theorem Ty.depths_get (ts : List Ty) (k : Nat) (h : k < ts.length) : ts[k].depth ≤ Ty.depths ts := by
  induction ts generalizing k with
  | nil => simp at h
  | cons s r ih =>
    cases k with
    | zero => simp only [List.getElem_cons_zero, Ty.depths]; omega
    | succ k => simp only [List.getElem_cons_succ, Ty.depths]; have := ih k (by simpa using h); omega
theorem within_true {t : Ty} {r dp : Int} (h : within t r dp = true) : (t.size : Int) ≤ r ∧ (t.depth : Int) ≤ dp ∧ t.form = true := by
  simp only [within, Bool.and_eq_true, decide_eq_true_eq] at h
  exact ⟨h.1.1, h.1.2, h.2⟩
theorem within_sub {kd r dp r2 : Int} {ts : List Ty} {k : Nat} (h : k < ts.length) (hr : r2 = r - 1 - Ty.sizes (ts.take k)) (hf : within ts[k] r2 (dp - 1) = false) : within (.node kd ts) r dp = false := by
  cases hw : within (.node kd ts) r dp with
  | false => rfl
  | true =>
    obtain ⟨w1, w2, w3⟩ := within_true hw
    simp only [Ty.size, Ty.depth, Ty.form, Bool.and_eq_true] at w1 w2 w3
    have h1 := Ty.sizes_take ts k h
    have h2 := Ty.sizes_le ts (k + 1)
    have h3 := Ty.depths_get ts k h
    have h4 : ts[k].form = true := by
      have e := Ty.forms_take ts k h
      cases hfk : ts[k].form with
      | true => rfl
      | false =>
        rw [hfk, Bool.and_false] at e
        have := Ty.forms_false ts (k + 1) e
        rw [this] at w3; exact absurd w3.1 (by simp)
    have : within ts[k] r2 (dp - 1) = true := by
      simp only [within, Bool.and_eq_true, decide_eq_true_eq]
      exact ⟨⟨by omega, by omega⟩, h4⟩
    rw [this] at hf; cases hf
theorem within_mk {t : Ty} {r dp : Int} (h1 : (t.size : Int) ≤ r) (h2 : (t.depth : Int) ≤ dp) (h3 : t.form = true) : within t r dp = true := by
  simp only [within, Bool.and_eq_true, decide_eq_true_eq]
  exact ⟨⟨h1, h2⟩, h3⟩
set_option maxRecDepth 100000 in
set_option maxHeartbeats 4000000 in
theorem implWithin (w0 : World) : ∀ (d : Nat) (v : Value) (t : Ty) (p : Nat) (r dp : Int) (w : World), TyAt w0 d v t → Below w0.heap.size w0 w → w0.heap.size ≤ p → t.size ≤ 1048577 → p < w.heap.size → 0 ≤ r → r ≤ 1048576 → 0 ≤ dp → dp ≤ 100 →
    w.cell? ⟨p, 0, none⟩ = some (.int .i64 r) → w.frozen? ⟨p, 0, none⟩ = false →
    Calls Tryd.prog 116 #[v, .pointer (some ⟨p, 0, none⟩), .int .i64 dp] w (WithinEnd p r dp t w)
  | 0, _, _, _, _, _, _, h, _, _, _, _, _, _, _, _, _, _ => h.elim
  | d + 1, v, .node kd ts, p, r, dp, w, h, hw0, hp0, hsz, hp, hr0, hr1, hd0, hd1, hcell, hfroz => by
    have IH : Hid (∀ (v : Value) (t : Ty) (p : Nat) (r dp : Int) (w : World), TyAt w0 d v t → Below w0.heap.size w0 w → w0.heap.size ≤ p → t.size ≤ 1048577 → p < w.heap.size → 0 ≤ r → r ≤ 1048576 → 0 ≤ dp → dp ≤ 100 →
      w.cell? ⟨p, 0, none⟩ = some (.int .i64 r) → w.frozen? ⟨p, 0, none⟩ = false →
      Calls Tryd.prog 116 #[v, .pointer (some ⟨p, 0, none⟩), .int .i64 dp] w (WithinEnd p r dp t w)) := implWithin w0 d
    have hlen : ts.length ≤ 1152921504606846976 := by have := Ty.length_le ts; simp [Ty.size] at hsz; omega
    have HSZ : Hid (1 + Ty.sizes ts ≤ 1048577) := by simp [Ty.size] at hsz; show _ ≤ _; omega
    have hszi : (Ty.node kd ts).size = 1 + Ty.sizes ts := rfl
    have HSI := Lib.hid hszi
    clear hsz hszi
    have HT := Lib.hid h
    obtain ⟨sk, sa, sn, sc, rfl⟩ := agg_parts h
    clear h
    have HW0 := Lib.hid hw0; clear hw0
    have hb := HW0.out.alloc HW0.out.size (.cells #[.int .i64 sk, .slice sa sn sc] 31)
    have HW1 := Lib.hid hb; clear hb
    have hpw : ¬ (p = w.heap.size) := by omega
    go_enter Tryd.func116, Tryd.ntmps116
    go_wp2_with fail
    refine (implNode w0 d _ kd ts _ HT.out HW1.out hlen).mono ?_
    rintro e w2 ⟨n, rfl, hnode, hb⟩
    have B2 := Lib.hid (below_on (below_alloc w _) hb (by simp)); clear hb HW1
    have e0 := (B2.out.cell (p := ⟨p, 0, none⟩) hp).trans hcell
    have e1 := (B2.out.frozen (p := ⟨p, 0, none⟩) hp).trans hfroz
    have R2 := Lib.hid (Room.stored (r := r - 1) hp B2.out e0 e1)
    clear hcell hfroz
    have fin : ∀ b, within (.node kd ts) r dp = b → b = false → WithinEnd p r dp (.node kd ts) w (.returned (.bool b)) (w2.setCell ⟨p, 0, none⟩ (.int .i64 (r - 1))) := fun b h1 h2 =>
      WithinEnd.of h1 R2.out (by rw [HSI.out]; omega) (by omega) (fun h => by rw [h2] at h; cases h)
    have FIN := Lib.hid fin; clear fin
    have HSG : Hid (Ty.size (.node kd ts) = 1 + Ty.sizes ts) := HSI.out
    by_cases hkb : kindOk kd ts.length = false
    · have hn : n = .nilIface := by
        rcases hnode with ⟨_, h⟩ | ⟨h, _⟩ | ⟨h, _⟩
        · exact h
        · rw [hkb] at h; cases h
        · rw [hkb] at h; cases h
      subst hn
      go_wp2_with fail
      go_ret
      exact FIN.out _ (by simp [within, Ty.form, hkb]) rfl
    have hko : kindOk kd ts.length = true := by simpa using hkb
    have HKO := Lib.hid hko; clear hko hkb
    have early : r < 1 ∨ dp = 0 → within (.node kd ts) r dp = false := fun h => by
      cases hw : within (.node kd ts) r dp with
      | false => rfl
      | true =>
        obtain ⟨w1, w2, w3⟩ := within_true hw
        simp only [Ty.size, Ty.depth] at w1 w2
        omega
    have EARLY := Lib.hid early; clear early
    by_cases hr : r < 1
    · rcases hnode with ⟨h, _⟩ | ⟨_, rfl, ⟨rfl, rfl⟩ | ⟨rfl, rfl⟩ | ⟨rfl, rfl⟩⟩ | ⟨_, t1, t2, k1, s1, k2, s2, rfl, ht1, ht2, ⟨rfl, rfl⟩ | ⟨rfl, rfl⟩⟩
      · rw [HKO.out] at h; cases h
      all_goals (go_wp2_with fail; go_ret; exact FIN.out _ (EARLY.out (Or.inl hr)) rfl)
    by_cases hd : dp = 0
    · have hdb : (dp == 0) = true := by simp [hd]
      rcases hnode with ⟨h, _⟩ | ⟨_, rfl, ⟨rfl, rfl⟩ | ⟨rfl, rfl⟩ | ⟨rfl, rfl⟩⟩ | ⟨_, t1, t2, k1, s1, k2, s2, rfl, ht1, ht2, ⟨rfl, rfl⟩ | ⟨rfl, rfl⟩⟩
      · rw [HKO.out] at h; cases h
      all_goals (go_wp2_with fail; go_ret; exact FIN.out _ (EARLY.out (Or.inr hd)) rfl)
    have hdb : (dp == 0) = false := by simp [hd]
    clear FIN EARLY
    rcases hnode with ⟨h, _⟩ | ⟨_, rfl, ⟨rfl, rfl⟩ | ⟨rfl, rfl⟩ | ⟨rfl, rfl⟩⟩ | ⟨_, t1, t2, k1, s1, k2, s2, rfl, ht1, ht2, ⟨rfl, rfl⟩ | ⟨rfl, rfl⟩⟩
    · rw [HKO.out] at h; cases h
    · have hm := meth_unknown
      go_wp2_with fail
      refine (parts_unknown _).mono ?_
      rintro e w4 ⟨rfl, hb⟩
      have R4 := Lib.hid (R2.out.below hp hb)
      have HZ : Hid (w.heap.size ≤ w2.heap.size) := B2.out.size
      have hz4 := hb.size
      rw [World.size_setCell] at hz4
      clear hb R2 e0 e1 B2 hm
      have hz2 : w.heap.size ≤ w2.heap.size := HZ.out
      clear HZ
      go_wp2_with fail
      go_loopw [32] (fun i wr => ∃ k : Nat, k ≤ 0 ∧ i = .int .i64 k ∧ 0 ≤ r - 1 - (Ty.sizes (List.take k []) : Int) ∧ (Ty.depths (List.take k []) : Int) ≤ dp - 1 ∧ Ty.forms (List.take k []) = true ∧ Room p (r - 1 - Ty.sizes (List.take k [])) w wr ∧ w4.heap.size ≤ wr.heap.size ∧ (∀ b, b < w4.heap.size → b ≠ p → wr.heap[b]? = w4.heap[b]?)) (fun i _ => 0 - (intOf i).toNat)
      case atStart => exact ⟨0, by omega, rfl, by simp [Ty.sizes]; omega, by simp [Ty.depths]; omega, by simp [Ty.forms], by simpa [Ty.sizes] using R4.out, Nat.le_refl _, fun _ _ _ => rfl⟩
      case round =>
        obtain ⟨k, hk, rfl, hs, hds, hf, hroom, hz, hkeep⟩ := hrel
        have HS := Lib.hid hs
        have HD := Lib.hid hds
        have HF := Lib.hid hf
        have HR := Lib.hid hroom
        have HK := Lib.hid hkeep
        clear hs hds hf hroom hkeep
        obtain rfl : k = 0 := by omega
        have hfin : within (.node 1 []) r dp = true := by
          have h1 : 0 ≤ r - 1 - (Ty.sizes [] : Int) := HS.out
          have h2 : (Ty.depths [] : Int) ≤ dp - 1 := HD.out
          have h3 : Ty.forms [] = true := HF.out
          have h4 := HKO.out
          exact within_mk (show ((1 + Ty.sizes [] : Nat) : Int) ≤ r by omega) (show ((1 + Ty.depths [] : Nat) : Int) ≤ dp by omega) (by simp only [Ty.form, h3, h4, Bool.and_self])
        have HFIN := Lib.hid hfin; clear hfin
        have h1 : 0 ≤ r - 1 - (Ty.sizes [] : Int) := HS.out
        have hlo : r - ↑(1 + Ty.sizes []) ≤ r - 1 - ↑(Ty.sizes []) := by omega
        have HLO := Lib.hid hlo; clear hlo h1
        go_wp2_with fail
        go_ret
        exact WithinEnd.of (r' := r - 1 - ↑(Ty.sizes [])) HFIN.out HR.out (by rw [HSG.out]; exact HLO.out) (by omega) (fun _ => by rw [HSG.out]; omega)
    · have hm := meth_num
      go_wp2_with fail
      refine (parts_num _).mono ?_
      rintro e w4 ⟨rfl, hb⟩
      have R4 := Lib.hid (R2.out.below hp hb)
      have HZ : Hid (w.heap.size ≤ w2.heap.size) := B2.out.size
      have hz4 := hb.size
      rw [World.size_setCell] at hz4
      clear hb R2 e0 e1 B2 hm
      have hz2 : w.heap.size ≤ w2.heap.size := HZ.out
      clear HZ
      go_wp2_with fail
      go_loopw [32] (fun i wr => ∃ k : Nat, k ≤ 0 ∧ i = .int .i64 k ∧ 0 ≤ r - 1 - (Ty.sizes (List.take k []) : Int) ∧ (Ty.depths (List.take k []) : Int) ≤ dp - 1 ∧ Ty.forms (List.take k []) = true ∧ Room p (r - 1 - Ty.sizes (List.take k [])) w wr ∧ w4.heap.size ≤ wr.heap.size ∧ (∀ b, b < w4.heap.size → b ≠ p → wr.heap[b]? = w4.heap[b]?)) (fun i _ => 0 - (intOf i).toNat)
      case atStart => exact ⟨0, by omega, rfl, by simp [Ty.sizes]; omega, by simp [Ty.depths]; omega, by simp [Ty.forms], by simpa [Ty.sizes] using R4.out, Nat.le_refl _, fun _ _ _ => rfl⟩
      case round =>
        obtain ⟨k, hk, rfl, hs, hds, hf, hroom, hz, hkeep⟩ := hrel
        have HS := Lib.hid hs
        have HD := Lib.hid hds
        have HF := Lib.hid hf
        have HR := Lib.hid hroom
        have HK := Lib.hid hkeep
        clear hs hds hf hroom hkeep
        obtain rfl : k = 0 := by omega
        have hfin : within (.node 2 []) r dp = true := by
          have h1 : 0 ≤ r - 1 - (Ty.sizes [] : Int) := HS.out
          have h2 : (Ty.depths [] : Int) ≤ dp - 1 := HD.out
          have h3 : Ty.forms [] = true := HF.out
          have h4 := HKO.out
          exact within_mk (show ((1 + Ty.sizes [] : Nat) : Int) ≤ r by omega) (show ((1 + Ty.depths [] : Nat) : Int) ≤ dp by omega) (by simp only [Ty.form, h3, h4, Bool.and_self])
        have HFIN := Lib.hid hfin; clear hfin
        have h1 : 0 ≤ r - 1 - (Ty.sizes [] : Int) := HS.out
        have hlo : r - ↑(1 + Ty.sizes []) ≤ r - 1 - ↑(Ty.sizes []) := by omega
        have HLO := Lib.hid hlo; clear hlo h1
        go_wp2_with fail
        go_ret
        exact WithinEnd.of (r' := r - 1 - ↑(Ty.sizes [])) HFIN.out HR.out (by rw [HSG.out]; exact HLO.out) (by omega) (fun _ => by rw [HSG.out]; omega)
    · have hm := meth_bool
      go_wp2_with fail
      refine (parts_bool _).mono ?_
      rintro e w4 ⟨rfl, hb⟩
      have R4 := Lib.hid (R2.out.below hp hb)
      have HZ : Hid (w.heap.size ≤ w2.heap.size) := B2.out.size
      have hz4 := hb.size
      rw [World.size_setCell] at hz4
      clear hb R2 e0 e1 B2 hm
      have hz2 : w.heap.size ≤ w2.heap.size := HZ.out
      clear HZ
      go_wp2_with fail
      go_loopw [32] (fun i wr => ∃ k : Nat, k ≤ 0 ∧ i = .int .i64 k ∧ 0 ≤ r - 1 - (Ty.sizes (List.take k []) : Int) ∧ (Ty.depths (List.take k []) : Int) ≤ dp - 1 ∧ Ty.forms (List.take k []) = true ∧ Room p (r - 1 - Ty.sizes (List.take k [])) w wr ∧ w4.heap.size ≤ wr.heap.size ∧ (∀ b, b < w4.heap.size → b ≠ p → wr.heap[b]? = w4.heap[b]?)) (fun i _ => 0 - (intOf i).toNat)
      case atStart => exact ⟨0, by omega, rfl, by simp [Ty.sizes]; omega, by simp [Ty.depths]; omega, by simp [Ty.forms], by simpa [Ty.sizes] using R4.out, Nat.le_refl _, fun _ _ _ => rfl⟩
      case round =>
        obtain ⟨k, hk, rfl, hs, hds, hf, hroom, hz, hkeep⟩ := hrel
        have HS := Lib.hid hs
        have HD := Lib.hid hds
        have HF := Lib.hid hf
        have HR := Lib.hid hroom
        have HK := Lib.hid hkeep
        clear hs hds hf hroom hkeep
        obtain rfl : k = 0 := by omega
        have hfin : within (.node 3 []) r dp = true := by
          have h1 : 0 ≤ r - 1 - (Ty.sizes [] : Int) := HS.out
          have h2 : (Ty.depths [] : Int) ≤ dp - 1 := HD.out
          have h3 : Ty.forms [] = true := HF.out
          have h4 := HKO.out
          exact within_mk (show ((1 + Ty.sizes [] : Nat) : Int) ≤ r by omega) (show ((1 + Ty.depths [] : Nat) : Int) ≤ dp by omega) (by simp only [Ty.form, h3, h4, Bool.and_self])
        have HFIN := Lib.hid hfin; clear hfin
        have h1 : 0 ≤ r - 1 - (Ty.sizes [] : Int) := HS.out
        have hlo : r - ↑(1 + Ty.sizes []) ≤ r - 1 - ↑(Ty.sizes []) := by omega
        have HLO := Lib.hid hlo; clear hlo h1
        go_wp2_with fail
        go_ret
        exact WithinEnd.of (r' := r - 1 - ↑(Ty.sizes [])) HFIN.out HR.out (by rw [HSG.out]; exact HLO.out) (by omega) (fun _ => by rw [HSG.out]; omega)
    · have H1 := Lib.hid ht1
      have H2 := Lib.hid ht2
      clear ht1 ht2
      have hm := fun (n : Nat) (w : World) => meth_arrow n w (.int .i64 k1) s1 (.int .i64 k2) s2
      go_wp2_with fail
      refine (parts_arrow w0 d t1 t2 k1 k2 s1 s2 _ H1.out H2.out).mono ?_
      rintro e w4 ⟨bb, rfl, hrow, hb⟩
      have R4 := Lib.hid (R2.out.below hp hb)
      have HZ : Hid (w.heap.size ≤ w2.heap.size) := B2.out.size
      have hz4 := hb.size
      rw [World.size_setCell] at hz4
      clear hb R2 e0 e1 B2 hm
      have hz2 : w.heap.size ≤ w2.heap.size := HZ.out
      clear HZ
      have HROW : Hid (∀ j (h : j < 2), ∃ x0 x1, p < bb ∧ bb < w4.heap.size ∧ w4.cell? ⟨bb, j * 2, none⟩ = some x0 ∧ w4.cell? ⟨bb, j * 2 + 1, none⟩ = some x1 ∧ TyAt w0 d (.agg #[x0, x1]) ([t1, t2][j]'h)) := fun j hj => by
        obtain ⟨a9, c9, he, _, _, hat⟩ := hrow
        obtain ⟨b9, o9, x0, x1, ha, h1, h2, h3, h4, h5⟩ := hat j hj
        simp only [Value.slice.injEq] at he
        obtain ⟨rfl, _⟩ := he
        injection ha with ha
        injection ha with ha1 ha2
        subst ha1 ha2
        rw [World.size_setCell] at h1
        exact ⟨x0, x1, by omega, h2, by simpa using h3, by simpa using h4, h5⟩
      clear hrow H1 H2
      go_wp2_with fail
      go_loopw [32] (fun i wr => ∃ k : Nat, k ≤ 2 ∧ i = .int .i64 k ∧ 0 ≤ r - 1 - (Ty.sizes (List.take k [t1, t2]) : Int) ∧ (Ty.depths (List.take k [t1, t2]) : Int) ≤ dp - 1 ∧ Ty.forms (List.take k [t1, t2]) = true ∧ Room p (r - 1 - Ty.sizes (List.take k [t1, t2])) w wr ∧ w4.heap.size ≤ wr.heap.size ∧ (∀ b, b < w4.heap.size → b ≠ p → wr.heap[b]? = w4.heap[b]?)) (fun i _ => 2 - (intOf i).toNat)
      case atStart => exact ⟨0, by omega, rfl, by simp [Ty.sizes]; omega, by simp [Ty.depths]; omega, by simp [Ty.forms], by simpa [Ty.sizes] using R4.out, Nat.le_refl _, fun _ _ _ => rfl⟩
      case round =>
        obtain ⟨k, hk, rfl, hs, hds, hf, hroom, hz, hkeep⟩ := hrel
        have HS := Lib.hid hs
        have HD := Lib.hid hds
        have HF := Lib.hid hf
        have HR := Lib.hid hroom
        have HK := Lib.hid hkeep
        clear hs hds hf hroom hkeep
        by_cases hlt : k < 2
        · obtain ⟨x0, x1, hpb, hbl, hc0, hc1, ht⟩ := HROW.out k hlt
          obtain ⟨yk, ya, yn, yc, rfl, rfl⟩ := at_parts ht
          have x0 : wr.cell? ⟨bb, k * 2, none⟩ = some (.int .i64 yk) := by rw [World.cell?_of_block (HK.out bb hbl (by omega))]; exact hc0
          have x1 : wr.cell? ⟨bb, k * 2 + 1, none⟩ = some (.slice ya yn yc) := by rw [World.cell?_of_block (HK.out bb hbl (by omega))]; exact hc1
          have hpp := below_alloc wr (.cells #[.int .i64 yk, .slice ya yn yc] 31)
          have HTK := Lib.hid ht
          have HRP := Lib.hid (HR.out.below hp hpp)
          have HWP : Hid (Below w0.heap.size w0 (wr.alloc (.cells #[.int .i64 yk, .slice ya yn yc] 31))) := HW0.out.trans (HRP.out.2.2.1.mono hp0)
          have hg := Ty.size_get [t1, t2] k hlt
          have hzk : Ty.size ([t1, t2][k]'hlt) ≤ 1048577 := by have := HSZ.out; omega
          have hpk : p < (wr.alloc (.cells #[.int .i64 yk, .slice ya yn yc] 31)).heap.size := by simp; omega
          obtain ⟨rr, hrr⟩ : ∃ rr, rr = r - 1 - (Ty.sizes (List.take k [t1, t2]) : Int) := ⟨_, rfl⟩
          rw [← hrr] at HRP HS
          have HRR := Lib.hid hrr; clear hrr
          have g0 : 0 ≤ rr := HS.out
          have g1 : rr ≤ 1048576 := by have := HRR.out; omega
          have gd : 0 ≤ dp - 1 := by omega
          clear ht hc0 hc1 hpp hg
          go_wp2_with fail
          refine (IH.out _ _ p rr (dp - 1) _ HTK.out HWP.out hp0 hzk hpk g0 g1 gd (by omega) HRP.out.1 HRP.out.2.1).mono ?_
          rintro e w6 hend
          obtain ⟨r6, rfl, hr6, h1, h2, h3⟩ := hend.room
          have HR6 := Lib.hid (HRP.out.on hr6)
          have HK6 : Hid (∀ b, b < w4.heap.size → b ≠ p → w6.heap[b]? = w4.heap[b]?) := fun b hb1 hb2 => by
            rw [hr6.2.2.2 b (by simp; omega) hb2, heap_alloc_old _ _ (by omega)]
            exact HK.out b hb1 hb2
          have hz6 : w4.heap.size ≤ w6.heap.size := by have := hr6.2.2.1.size; simp at this; omega
          clear hend hr6
          cases hw : within ([t1, t2][k]'hlt) rr (dp - 1) with
          | true =>
            have h4 := h3 hw
            obtain ⟨u1, u2, u3⟩ := within_true hw
            subst h4
            have HU3 := Lib.hid u3
            have T1 := Lib.hid (Ty.sizes_take [t1, t2] k hlt)
            have T2 := Lib.hid (Ty.depths_take [t1, t2] k hlt)
            have T3 := Lib.hid (Ty.forms_take [t1, t2] k hlt)
            have HW := Lib.hid hw
            have U2 := Lib.hid u2
            have U1 := Lib.hid u1
            clear h1 h2 h3 u3 u2 u1 hw
            have eq1 : Hid (rr - ↑(Ty.size ([t1, t2][k]'hlt)) = r - 1 - ↑(Ty.sizes (List.take (k + 1) [t1, t2]))) := by rw [T1.out]; have := HRR.out; show _ = _; omega
            go_wp2_with fail
            exact ⟨⟨k + 1, by omega, by go_num, by rw [← eq1.out]; have := U1.out; omega, by rw [T2.out]; have := HD.out; have := U2.out; omega, by rw [T3.out, HF.out, HU3.out]; rfl, by rw [← eq1.out]; exact HR6.out, hz6, HK6.out⟩, by simp [intOf]; omega⟩
          | false =>
            have hfin := within_sub (kd := 4) (r := r) (dp := dp) hlt HRR.out hw
            have HFIN := Lib.hid hfin
            have hsz1 := Ty.sizes_take [t1, t2] k hlt
            have hsz2 := Ty.sizes_le [t1, t2] (k + 1)
            have hq := HRR.out
            have hlo : r - ↑(1 + Ty.sizes [t1, t2]) ≤ r6 := by omega
            have hhi : r6 ≤ r := by omega
            clear hfin hw hsz1 hsz2 hq h1 h2 h3
            go_wp2_with fail
            go_ret
            exact WithinEnd.of HFIN.out HR6.out (by rw [HSG.out]; exact hlo) hhi (fun h => by cases h)
        · obtain rfl : k = 2 := by omega
          have hfin : within (.node 4 [t1, t2]) r dp = true := by
            have h1 : 0 ≤ r - 1 - (Ty.sizes [t1, t2] : Int) := HS.out
            have h2 : (Ty.depths [t1, t2] : Int) ≤ dp - 1 := HD.out
            have h3 : Ty.forms [t1, t2] = true := HF.out
            have h4 := HKO.out
            exact within_mk (show ((1 + Ty.sizes [t1, t2] : Nat) : Int) ≤ r by omega) (show ((1 + Ty.depths [t1, t2] : Nat) : Int) ≤ dp by omega) (by simp only [Ty.form, h3, h4, Bool.and_self])
          have HFIN := Lib.hid hfin; clear hfin
          have h1 : 0 ≤ r - 1 - (Ty.sizes [t1, t2] : Int) := HS.out
          have hlo : r - ↑(1 + Ty.sizes [t1, t2]) ≤ r - 1 - ↑(Ty.sizes [t1, t2]) := by omega
          have HLO := Lib.hid hlo; clear hlo h1
          go_wp2_with fail
          go_ret
          exact WithinEnd.of (r' := r - 1 - ↑(Ty.sizes [t1, t2])) HFIN.out HR.out (by rw [HSG.out]; exact HLO.out) (by omega) (fun _ => by rw [HSG.out]; omega)
    · have H1 := Lib.hid ht1
      have H2 := Lib.hid ht2
      clear ht1 ht2
      have hm := fun (n : Nat) (w : World) => meth_pair n w (.int .i64 k1) s1 (.int .i64 k2) s2
      go_wp2_with fail
      refine (parts_pair w0 d t1 t2 k1 k2 s1 s2 _ H1.out H2.out).mono ?_
      rintro e w4 ⟨bb, rfl, hrow, hb⟩
      have R4 := Lib.hid (R2.out.below hp hb)
      have HZ : Hid (w.heap.size ≤ w2.heap.size) := B2.out.size
      have hz4 := hb.size
      rw [World.size_setCell] at hz4
      clear hb R2 e0 e1 B2 hm
      have hz2 : w.heap.size ≤ w2.heap.size := HZ.out
      clear HZ
      have HROW : Hid (∀ j (h : j < 2), ∃ x0 x1, p < bb ∧ bb < w4.heap.size ∧ w4.cell? ⟨bb, j * 2, none⟩ = some x0 ∧ w4.cell? ⟨bb, j * 2 + 1, none⟩ = some x1 ∧ TyAt w0 d (.agg #[x0, x1]) ([t1, t2][j]'h)) := fun j hj => by
        obtain ⟨a9, c9, he, _, _, hat⟩ := hrow
        obtain ⟨b9, o9, x0, x1, ha, h1, h2, h3, h4, h5⟩ := hat j hj
        simp only [Value.slice.injEq] at he
        obtain ⟨rfl, _⟩ := he
        injection ha with ha
        injection ha with ha1 ha2
        subst ha1 ha2
        rw [World.size_setCell] at h1
        exact ⟨x0, x1, by omega, h2, by simpa using h3, by simpa using h4, h5⟩
      clear hrow H1 H2
      go_wp2_with fail
      go_loopw [32] (fun i wr => ∃ k : Nat, k ≤ 2 ∧ i = .int .i64 k ∧ 0 ≤ r - 1 - (Ty.sizes (List.take k [t1, t2]) : Int) ∧ (Ty.depths (List.take k [t1, t2]) : Int) ≤ dp - 1 ∧ Ty.forms (List.take k [t1, t2]) = true ∧ Room p (r - 1 - Ty.sizes (List.take k [t1, t2])) w wr ∧ w4.heap.size ≤ wr.heap.size ∧ (∀ b, b < w4.heap.size → b ≠ p → wr.heap[b]? = w4.heap[b]?)) (fun i _ => 2 - (intOf i).toNat)
      case atStart => exact ⟨0, by omega, rfl, by simp [Ty.sizes]; omega, by simp [Ty.depths]; omega, by simp [Ty.forms], by simpa [Ty.sizes] using R4.out, Nat.le_refl _, fun _ _ _ => rfl⟩
      case round =>
        obtain ⟨k, hk, rfl, hs, hds, hf, hroom, hz, hkeep⟩ := hrel
        have HS := Lib.hid hs
        have HD := Lib.hid hds
        have HF := Lib.hid hf
        have HR := Lib.hid hroom
        have HK := Lib.hid hkeep
        clear hs hds hf hroom hkeep
        by_cases hlt : k < 2
        · obtain ⟨x0, x1, hpb, hbl, hc0, hc1, ht⟩ := HROW.out k hlt
          obtain ⟨yk, ya, yn, yc, rfl, rfl⟩ := at_parts ht
          have x0 : wr.cell? ⟨bb, k * 2, none⟩ = some (.int .i64 yk) := by rw [World.cell?_of_block (HK.out bb hbl (by omega))]; exact hc0
          have x1 : wr.cell? ⟨bb, k * 2 + 1, none⟩ = some (.slice ya yn yc) := by rw [World.cell?_of_block (HK.out bb hbl (by omega))]; exact hc1
          have hpp := below_alloc wr (.cells #[.int .i64 yk, .slice ya yn yc] 31)
          have HTK := Lib.hid ht
          have HRP := Lib.hid (HR.out.below hp hpp)
          have HWP : Hid (Below w0.heap.size w0 (wr.alloc (.cells #[.int .i64 yk, .slice ya yn yc] 31))) := HW0.out.trans (HRP.out.2.2.1.mono hp0)
          have hg := Ty.size_get [t1, t2] k hlt
          have hzk : Ty.size ([t1, t2][k]'hlt) ≤ 1048577 := by have := HSZ.out; omega
          have hpk : p < (wr.alloc (.cells #[.int .i64 yk, .slice ya yn yc] 31)).heap.size := by simp; omega
          obtain ⟨rr, hrr⟩ : ∃ rr, rr = r - 1 - (Ty.sizes (List.take k [t1, t2]) : Int) := ⟨_, rfl⟩
          rw [← hrr] at HRP HS
          have HRR := Lib.hid hrr; clear hrr
          have g0 : 0 ≤ rr := HS.out
          have g1 : rr ≤ 1048576 := by have := HRR.out; omega
          have gd : 0 ≤ dp - 1 := by omega
          clear ht hc0 hc1 hpp hg
          go_wp2_with fail
          refine (IH.out _ _ p rr (dp - 1) _ HTK.out HWP.out hp0 hzk hpk g0 g1 gd (by omega) HRP.out.1 HRP.out.2.1).mono ?_
          rintro e w6 hend
          obtain ⟨r6, rfl, hr6, h1, h2, h3⟩ := hend.room
          have HR6 := Lib.hid (HRP.out.on hr6)
          have HK6 : Hid (∀ b, b < w4.heap.size → b ≠ p → w6.heap[b]? = w4.heap[b]?) := fun b hb1 hb2 => by
            rw [hr6.2.2.2 b (by simp; omega) hb2, heap_alloc_old _ _ (by omega)]
            exact HK.out b hb1 hb2
          have hz6 : w4.heap.size ≤ w6.heap.size := by have := hr6.2.2.1.size; simp at this; omega
          clear hend hr6
          cases hw : within ([t1, t2][k]'hlt) rr (dp - 1) with
          | true =>
            have h4 := h3 hw
            obtain ⟨u1, u2, u3⟩ := within_true hw
            subst h4
            have HU3 := Lib.hid u3
            have T1 := Lib.hid (Ty.sizes_take [t1, t2] k hlt)
            have T2 := Lib.hid (Ty.depths_take [t1, t2] k hlt)
            have T3 := Lib.hid (Ty.forms_take [t1, t2] k hlt)
            have HW := Lib.hid hw
            have U2 := Lib.hid u2
            have U1 := Lib.hid u1
            clear h1 h2 h3 u3 u2 u1 hw
            have eq1 : Hid (rr - ↑(Ty.size ([t1, t2][k]'hlt)) = r - 1 - ↑(Ty.sizes (List.take (k + 1) [t1, t2]))) := by rw [T1.out]; have := HRR.out; show _ = _; omega
            go_wp2_with fail
            exact ⟨⟨k + 1, by omega, by go_num, by rw [← eq1.out]; have := U1.out; omega, by rw [T2.out]; have := HD.out; have := U2.out; omega, by rw [T3.out, HF.out, HU3.out]; rfl, by rw [← eq1.out]; exact HR6.out, hz6, HK6.out⟩, by simp [intOf]; omega⟩
          | false =>
            have hfin := within_sub (kd := 5) (r := r) (dp := dp) hlt HRR.out hw
            have HFIN := Lib.hid hfin
            have hsz1 := Ty.sizes_take [t1, t2] k hlt
            have hsz2 := Ty.sizes_le [t1, t2] (k + 1)
            have hq := HRR.out
            have hlo : r - ↑(1 + Ty.sizes [t1, t2]) ≤ r6 := by omega
            have hhi : r6 ≤ r := by omega
            clear hfin hw hsz1 hsz2 hq h1 h2 h3
            go_wp2_with fail
            go_ret
            exact WithinEnd.of HFIN.out HR6.out (by rw [HSG.out]; exact hlo) hhi (fun h => by cases h)
        · obtain rfl : k = 2 := by omega
          have hfin : within (.node 5 [t1, t2]) r dp = true := by
            have h1 : 0 ≤ r - 1 - (Ty.sizes [t1, t2] : Int) := HS.out
            have h2 : (Ty.depths [t1, t2] : Int) ≤ dp - 1 := HD.out
            have h3 : Ty.forms [t1, t2] = true := HF.out
            have h4 := HKO.out
            exact within_mk (show ((1 + Ty.sizes [t1, t2] : Nat) : Int) ≤ r by omega) (show ((1 + Ty.depths [t1, t2] : Nat) : Int) ≤ dp by omega) (by simp only [Ty.form, h3, h4, Bool.and_self])
          have HFIN := Lib.hid hfin; clear hfin
          have h1 : 0 ≤ r - 1 - (Ty.sizes [t1, t2] : Int) := HS.out
          have hlo : r - ↑(1 + Ty.sizes [t1, t2]) ≤ r - 1 - ↑(Ty.sizes [t1, t2]) := by omega
          have HLO := Lib.hid hlo; clear hlo h1
          go_wp2_with fail
          go_ret
          exact WithinEnd.of (r' := r - 1 - ↑(Ty.sizes [t1, t2])) HFIN.out HR.out (by rw [HSG.out]; exact HLO.out) (by omega) (fun _ => by rw [HSG.out]; omega)
end Go.Proofs.YtdgfkmnnjhlpbaaDoor
/-
  Proved: impl.IsNote says whether a type's tree is a note; it leaves the memory that was there as it was.
-/
namespace Go.Proofs.YtdgfkmnnjhlpbaaDoor
open Go.RowKit

theorem within_note (t : Ty) : within t 15 5 = t.note := by
  have e1 : decide ((t.size : Int) ≤ 15) = decide (t.size ≤ 15) := decide_eq_decide.2 (by omega)
  have e2 : decide ((t.depth : Int) ≤ 5) = decide (t.depth ≤ 5) := decide_eq_decide.2 (by omega)
  unfold within Ty.note Ty.valid
  rw [e1, e2]
  by_cases h1 : t.size ≤ 15 <;> by_cases h2 : t.depth ≤ 5
  · have h3 : t.size ≤ 800 := by omega
    have h4 : t.depth ≤ 24 := by omega
    simp [h1, h2, h3, h4]
  · simp [h2]
  · simp [h1]
  · simp [h1]

set_option maxRecDepth 100000 in
set_option maxHeartbeats 1000000 in
theorem implNote (d : Nat) (v : Value) (t : Ty) (w : World) (h : TyAt w d v t) (hsz : t.size ≤ 1048577) :
    Calls Tryd.prog 104 #[v] w fun e w' => e = .returned (.bool t.note) ∧ Below w.heap.size w w' := by
  have HT := Lib.hid h
  obtain ⟨yk, ya, yn, yc, rfl⟩ := agg_parts h
  clear h
  have X : Hid (Below w.heap.size w ((w.alloc (.cells #[.int .i64 yk, .slice ya yn yc] 31)).alloc (.cells #[.int .i64 15] 3))) := ((Below.refl _ _).alloc (Nat.le_refl _) _).alloc (by simp) _
  go_enter Tryd.func104, Tryd.ntmps104
  go_wp2_with fail
  refine (implWithin w d _ t (w.heap.size + 1) 15 5 _ HT.out X.out (by omega) hsz (by simp) (by omega) (by omega) (by omega) (by omega) (by simp [go_sem]) (by simp [go_sem])).mono ?_
  intro e w' hend
  obtain ⟨r', rfl, hr, _⟩ := hend.room
  have HB := Lib.hid (X.out.trans (hr.2.2.1.mono (Nat.le_succ _)))
  clear hend hr
  go_wp2_with fail
  go_ret
  exact ⟨by rw [within_note]; rfl, HB.out⟩
end Go.Proofs.YtdgfkmnnjhlpbaaDoor
/-
  Proved: impl.EqualType says whether two trees are equal, and leaves the memory that was there as it was.
-/
namespace Go.Proofs.YtdgfkmnnjhlpbaaDoor
open Go.RowKit

set_option maxRecDepth 100000 in
set_option maxHeartbeats 2000000 in
theorem implEqual : ∀ (d : Nat) (v1 v2 : Value) (t1 t2 : Ty) (w : World), TyAt w d v1 t1 → TyAt w d v2 t2 →
    Calls Tryd.prog 105 #[v1, v2] w fun e w' => e = .returned (.bool (t1.beq t2)) ∧ Below w.heap.size w w'
  | 0, _, _, _, _, _, h, _ => h.elim
  | d + 1, v1, v2, .node k1 cs, .node k2 bs, w, h1, h2 => by
    have IH : Hid (∀ (v1 v2 : Value) (t1 t2 : Ty) (w : World), TyAt w d v1 t1 → TyAt w d v2 t2 → Calls Tryd.prog 105 #[v1, v2] w fun e w' => e = .returned (.bool (t1.beq t2)) ∧ Below w.heap.size w w') := implEqual d
    obtain ⟨s1, rfl, hk0, hk1, a1, cap1, rfl, hcap1, hm1, hat1⟩ := h1
    obtain ⟨s2, rfl, hk2, hk3, a2, cap2, rfl, hcap2, hm2, hat2⟩ := h2
    have HA1 := Lib.hid hat1; clear hat1
    have HA2 := Lib.hid hat2; clear hat2
    by_cases q1 : k1 = k2
    · subst q1
      by_cases q2 : bs.length = cs.length
      · have HFIN : Hid ((Ty.node k1 cs).beq (Ty.node k1 bs) = Ty.beqs cs bs) := by show _ = _; simp [Ty.beq]
        rw [q2]
        go_enter Tryd.func105, Tryd.ntmps105
        go_wp2_with fail
        go_loopw [23] (fun i wr => ∃ k : Nat, k ≤ cs.length ∧ i = .int .i64 k ∧ Ty.beqs (cs.take k) (bs.take k) = true ∧ Below (w.heap.size + 2) ((w.alloc (.cells #[.int .i64 k1, .slice a1 cs.length cap1] 31)).alloc (.cells #[.int .i64 k1, .slice a2 cs.length cap2] 31)) wr) (fun i _ => cs.length - (intOf i).toNat)
        case atStart => exact ⟨0, by omega, rfl, by simp [Ty.beqs], Below.refl _ _⟩
        case round =>
          obtain ⟨k, hk, rfl, hf, hb⟩ := hrel
          have HF := Lib.hid hf; clear hf
          have y1 := two_first hb 1
          have y2 := two_next hb 1
          have HB := Lib.hid (two_below hb)
          have HBX := Lib.hid hb; clear hb
          by_cases hlt : k < cs.length
          · have hlt2 : k < bs.length := by omega
            obtain ⟨b1, off1, x0, x1, rfl, hbl1, hc10, hc11, ht1⟩ := HA1.out k hlt
            obtain ⟨b2, off2, z0, z1, rfl, hbl2, hc20, hc21, ht2⟩ := HA2.out k hlt2
            have c10 : wr.cell? ⟨b1, off1 + k * 2, none⟩ = some x0 := by rw [HB.out.cell (p := ⟨b1, off1 + k * 2, none⟩) hbl1]; exact hc10
            have c11 : wr.cell? ⟨b1, off1 + k * 2 + 1, none⟩ = some x1 := by rw [HB.out.cell (p := ⟨b1, off1 + k * 2 + 1, none⟩) hbl1]; exact hc11
            have c20 : wr.cell? ⟨b2, off2 + k * 2, none⟩ = some z0 := by rw [HB.out.cell (p := ⟨b2, off2 + k * 2, none⟩) hbl2]; exact hc20
            have c21 : wr.cell? ⟨b2, off2 + k * 2 + 1, none⟩ = some z1 := by rw [HB.out.cell (p := ⟨b2, off2 + k * 2 + 1, none⟩) hbl2]; exact hc21
            have HT1 := Lib.hid (ht1.below HB.out.drew)
            have HT2 := Lib.hid (ht2.below HB.out.drew)
            clear ht1 ht2 hc10 hc11 hc20 hc21
            go_wp2_with fail
            go_still_tail 10, (by kernel_rfl)
            change wpList _ _ _ _ _ wr.drew
            go_wp2_with fail
            refine (IH.out _ _ _ _ wr.drew HT1.out HT2.out).mono ?_
            rintro e w' ⟨rfl, hb1⟩
            have HN := Lib.hid (two_on HBX.out.drew hb1); clear hb1
            have HTK := Lib.hid (Ty.beqs_take cs bs k hlt hlt2)
            cases hfk : cs[k].beq bs[k] with
            | true =>
              have HFK := Lib.hid hfk; clear hfk
              go_wp2_with fail
              exact ⟨⟨k + 1, by omega, by go_num, by rw [HTK.out, HF.out, HFK.out]; rfl, HN.out⟩, by simp [intOf]; omega⟩
            | false =>
              have HFK := Lib.hid hfk; clear hfk
              go_wp2_with fail
              go_ret
              have e : Ty.beqs cs bs = false := Ty.beqs_false cs bs (k + 1) (by rw [HTK.out, HF.out, HFK.out]; rfl) q2.symm
              exact ⟨by rw [HFIN.out, e]; rfl, two_below HN.out⟩
          · obtain rfl : k = cs.length := by omega
            have e : Hid (Ty.beqs cs bs = true) := by
              have := HF.out
              rw [List.take_length, ← q2, List.take_length] at this; exact this
            go_wp2_with fail
            go_ret
            exact ⟨by rw [HFIN.out, e.out]; rfl, HB.out⟩
      · have HFIN : Hid ((Ty.node k1 cs).beq (Ty.node k1 bs) = false) := by show _ = _; simp [Ty.beq, Ty.beqs_len cs bs (fun e => q2 e.symm)]
        have q3 : ¬ ((cs.length : Int) = (bs.length : Int)) := by omega
        go_enter Tryd.func105, Tryd.ntmps105
        go_wp2_with fail
        go_ret
        exact ⟨by rw [HFIN.out]; rfl, ((Below.refl _ _).alloc (Nat.le_refl _) _).alloc (by simp) _⟩
    · have HFIN : Hid ((Ty.node k1 cs).beq (Ty.node k2 bs) = false) := by show _ = _; simp [Ty.beq, q1]
      go_enter Tryd.func105, Tryd.ntmps105
      go_wp2_with fail
      go_ret
      exact ⟨by rw [HFIN.out]; rfl, ((Below.refl _ _).alloc (Nat.le_refl _) _).alloc (by simp) _⟩
end Go.Proofs.YtdgfkmnnjhlpbaaDoor
/-
  Proved: impl.IsAction says whether an action is valid; it leaves the memory that was there as it was.
-/
namespace Go.Proofs.YtdgfkmnnjhlpbaaDoor
open Go.RowKit

theorem nil_at (w : World) {d : Nat} {v : Value} {t : Ty} (h : TyAt w d v t) : TyAt w d (.agg #[.int .i64 0, .slice none 0 0]) (.node 0 []) := by
  cases d with
  | zero => exact h.elim
  | succ d => exact ⟨_, rfl, by omega, by omega, none, 0, rfl, Nat.le_refl _, by omega, fun j hj => by simp at hj⟩

set_option maxRecDepth 100000 in
set_option maxHeartbeats 4000000 in
theorem implAction (d : Nat) (v : Value) (t : Act) (w : World) (h : ActAt w d v t) (hn : t.bulk ≤ 1048576) :
    Calls Tryd.prog 56 #[v] w fun e w' => e = .returned (.bool t.okB) ∧ Below w.heap.size w w' := by
  cases t with
  | mk kd nm n ty =>
    obtain ⟨tk, ta, tn, tc, rfl, hk0, hk1, hn0, hn1, hnm, hty⟩ := h
    dsimp only at hk0 hk1 hn0 hn1 hnm hty ⊢
    have hsz : ty.size ≤ 1048577 := by have : (Act.mk kd nm n ty).bulk = nm.size + (ty.size - 1) := rfl; omega
    clear hn
    have HQ := Lib.hid (okB_of kd nm n ty)
    have HNL := Lib.hid (ty_isNil hty)
    have B : Hid (Below w.heap.size w (w.alloc (.cells #[.int .i64 kd, .string nm, .int .i64 n, .int .i64 tk, .slice ta tn tc] 33))) := below_alloc _ _
    have HTY := Lib.hid (hty.below B.out)
    have XA : Hid (BoxAt (w.alloc (.cells #[.int .i64 kd, .string nm, .int .i64 n, .int .i64 tk, .slice ta tn tc] 33)) w.heap.size #[.int .i64 kd, .string nm, .int .i64 n, .int .i64 tk, .slice ta tn tc]) := BoxAt.new _ _ _
    clear hty
    have CN : ∀ W, Calls Tryd.prog 57 #[.int .i64 kd] W fun e w' => e = .returned (.bool (actNamed kd)) ∧ w' = W := fun W => implNamed kd W
    have CT : ∀ W, Calls Tryd.prog 60 #[.int .i64 kd] W fun e w' => e = .returned (.bool (actTyped kd)) ∧ w' = W := fun W => implTyped kd W
    have CM : ∀ W, Calls Tryd.prog 102 #[.int .i64 kd] W fun e w' => e = .returned (.int .i64 (actMost kd)) ∧ w' = W := fun W => implMost kd W
    have CS : ∀ W, Calls Tryd.prog 103 #[.string nm] W fun e w' => e = .returned (.bool (nameB nm)) ∧ Below W.heap.size W w' := fun W => implName nm W hnm
    have HZN : Hid (nm.size = 0 → nameB nm = false) := fun h => name_none h
    generalize actNamed kd = bn at HQ CN
    generalize nameB nm = bb at HQ CS HZN
    generalize actTyped kd = bt at HQ CT
    generalize actMost kd = mo at HQ CM
    have HCN := Lib.hid CN
    have HCT := Lib.hid CT
    have HCM := Lib.hid CM
    have HCS := Lib.hid CS
    clear CN CT CM CS
    go_enter Tryd.func56, Tryd.ntmps56
    go_wp2_with fail
    by_cases q1 : kd < 1
    · have e1 : decide (kd < 1) = true := decide_eq_true q1
      have c0 := XA.out.2 0
      have c2 := XA.out.2 2
      go_quiet ((first
        | (go_at_call 102; exact Calls.quiet_of_same (HCM.out _))))
      go_wp2_with fail
      go_ret
      exact ⟨by rw [HQ.out]; rw [decide_eq_false (by omega : ¬ (1 ≤ kd))]; rfl, below_q B.out nq⟩
    · have e1 : decide (kd < 1) = false := decide_eq_false q1
      by_cases q2 : 20 < kd
      · have e2 : decide (20 < kd) = true := decide_eq_true q2
        have c0 := XA.out.2 0
        have c2 := XA.out.2 2
        go_quiet ((first
          | (go_at_call 102; exact Calls.quiet_of_same (HCM.out _))))
        go_wp2_with fail
        go_ret
        exact ⟨by rw [HQ.out]; rw [decide_eq_false (by omega : ¬ (kd ≤ 20))]; simp, below_q B.out nq⟩
      · have e2 : decide (20 < kd) = false := decide_eq_false q2
        by_cases q3 : n < 0
        · have e3 : decide (n < 0) = true := decide_eq_true q3
          have c0 := XA.out.2 0
          have c2 := XA.out.2 2
          go_quiet ((first
            | (go_at_call 102; exact Calls.quiet_of_same (HCM.out _))))
          go_wp2_with fail
          go_ret
          exact ⟨by rw [HQ.out]; rw [decide_eq_false (by omega : ¬ (0 ≤ n))]; simp, below_q B.out nq⟩
        · have e3 : decide (n < 0) = false := decide_eq_false q3
          by_cases q4 : mo < n
          · have e4 : decide (mo < n) = true := decide_eq_true q4
            have c0 := XA.out.2 0
            have c2 := XA.out.2 2
            go_quiet ((first
              | (go_at_call 102; exact Calls.quiet_of_same (HCM.out _))))
            go_wp2_with fail
            go_ret
            exact ⟨by rw [HQ.out]; rw [decide_eq_false (by omega : ¬ (n ≤ mo))]; simp, below_q B.out nq⟩
          · have e4 : decide (mo < n) = false := decide_eq_false q4
            have c0 := XA.out.2 0
            have c2 := XA.out.2 2
            go_quiet ((first
              | (go_at_call 102; exact Calls.quiet_of_same (HCM.out _))))
            replace q1 : 1 ≤ kd := by omega
            replace q2 : kd ≤ 20 := by omega
            replace q3 : 0 ≤ n := by omega
            replace q4 : n ≤ mo := by omega
            clear e1 e2 e3 e4
            have hb : Below (w.alloc (.cells #[.int .i64 kd, .string nm, .int .i64 n, .int .i64 tk, .slice ta tn tc] 33)).heap.size (w.alloc (.cells #[.int .i64 kd, .string nm, .int .i64 n, .int .i64 tk, .slice ta tn tc] 33)) ((w.alloc (.cells #[.int .i64 kd, .string nm, .int .i64 n, .int .i64 tk, .slice ta tn tc] 33)).drewN nq) := below_q (Below.refl _ _) nq
            replace B := Lib.hid (below_thru B.out (Nat.le_refl _) hb)
            replace HTY := Lib.hid (HTY.out.below hb)
            replace XA := Lib.hid (XA.out.below hb)
            clear hb
            generalize (w.alloc (.cells #[.int .i64 kd, .string nm, .int .i64 n, .int .i64 tk, .slice ta tn tc] 33)).drewN nq = wq at B HTY XA ⊢
            clear c0 c2
            go_wp2_with fail
            by_cases hz : nm.size = 0
            · have ez := text_none hz
              have hb0 := HZN.out hz
              subst hb0
              cases bn with
              | true =>
                have c0 := XA.out.2 0
                have c1 := XA.out.2 1
                go_quiet ((first
                  | (go_at_call 57; exact Calls.quiet_of_same (HCN.out _))))
                go_wp2_with fail
                go_ret
                exact ⟨by rw [HQ.out]; simp [hz], below_q B.out nq⟩
              | false =>
                have c0 := XA.out.2 0
                have c1 := XA.out.2 1
                go_quiet ((first
                  | (go_at_call 57; exact Calls.quiet_of_same (HCN.out _))))
                have hb : Below wq.heap.size wq (wq.drewN nq) := below_q (Below.refl _ _) nq
                replace B := Lib.hid (below_thru B.out (Nat.le_refl _) hb)
                replace HTY := Lib.hid (HTY.out.below hb)
                replace XA := Lib.hid (XA.out.below hb)
                clear hb
                clear c0 c1
                have c0 := XA.out.2 0
                go_wp2_with fail
                clear c0
                refine (HCT.out _).mono ?_
                rintro e w1 ⟨rfl, hw⟩
                subst hw
                cases bt with
                | true =>
                  have c3 := XA.out.2 3
                  have c4 := XA.out.2 4
                  go_wp2_with fail
                  clear c3 c4
                  refine (implNote d _ ty _ HTY.out hsz).mono ?_
                  rintro e w2 ⟨rfl, hb⟩
                  replace B := Lib.hid (below_thru B.out (Nat.le_refl _) hb)
                  replace HTY := Lib.hid (HTY.out.below hb)
                  replace XA := Lib.hid (XA.out.below hb)
                  clear hb
                  go_wp2_with fail
                  go_ret
                  exact ⟨by rw [HQ.out]; simp [q1, q2, q3, q4, hz], B.out⟩
                | false =>
                  have c3 := XA.out.2 3
                  have c4 := XA.out.2 4
                  go_wp2_with fail
                  clear c3 c4
                  refine (implEqual d _ _ ty (.node 0 []) _ HTY.out (nil_at _ HTY.out)).mono ?_
                  rintro e w2 ⟨rfl, hb⟩
                  replace B := Lib.hid (below_thru B.out (Nat.le_refl _) hb)
                  replace HTY := Lib.hid (HTY.out.below hb)
                  replace XA := Lib.hid (XA.out.below hb)
                  clear hb
                  go_wp2_with fail
                  go_ret
                  exact ⟨by rw [HQ.out]; rw [beq_nil]; cases hil : ty.isNil <;> simp [q1, q2, q3, q4, hz, note_nil, hil], B.out⟩
            · have ez := toList_some (s := nm) (by omega)
              cases bn with
              | false =>
                have c0 := XA.out.2 0
                have c1 := XA.out.2 1
                go_quiet ((first
                  | (go_at_call 57; exact Calls.quiet_of_same (HCN.out _))))
                go_wp2_with fail
                go_ret
                exact ⟨by rw [HQ.out]; simp [hz], below_q B.out nq⟩
              | true =>
                cases bb with
                | false =>
                  have hb := below_drew wq
                  replace B := Lib.hid (below_thru B.out (Nat.le_refl _) hb)
                  replace HTY := Lib.hid (HTY.out.below hb)
                  replace XA := Lib.hid (XA.out.below hb)
                  clear hb
                  first
                    | (go_region_held3 (fun w' => w'.cell? ⟨w.heap.size, 0, none⟩ = some (.int .i64 kd) ∧ w'.cell? ⟨w.heap.size, 1, none⟩ = some (.string nm)) (exact ⟨XA.out.2 0, XA.out.2 1⟩)
                       (first
                        | (go_at_call 57
                           refine (HCN.out _).mono ?_
                           rintro e w1 ⟨rfl, hw⟩
                           subst hw)
                        | (go_at_call 103
                           refine (HCS.out _).mono ?_
                           rintro e w1 ⟨rfl, hb⟩
                           replace B := Lib.hid (below_thru B.out (Nat.le_refl _) hb)
                           replace HTY := Lib.hid (HTY.out.below hb)
                           replace XA := Lib.hid (XA.out.below hb)
                           clear hb)))
                    | fail
                  go_wp2_with fail
                  go_ret
                  exact ⟨by rw [HQ.out]; simp, B.out⟩
                | true =>
                  have hb := below_drew wq
                  replace B := Lib.hid (below_thru B.out (Nat.le_refl _) hb)
                  replace HTY := Lib.hid (HTY.out.below hb)
                  replace XA := Lib.hid (XA.out.below hb)
                  clear hb
                  first
                    | (go_region_held3 (fun w' => w'.cell? ⟨w.heap.size, 0, none⟩ = some (.int .i64 kd) ∧ w'.cell? ⟨w.heap.size, 1, none⟩ = some (.string nm)) (exact ⟨XA.out.2 0, XA.out.2 1⟩)
                       (first
                        | (go_at_call 57
                           refine (HCN.out _).mono ?_
                           rintro e w1 ⟨rfl, hw⟩
                           subst hw)
                        | (go_at_call 103
                           refine (HCS.out _).mono ?_
                           rintro e w1 ⟨rfl, hb⟩
                           replace B := Lib.hid (below_thru B.out (Nat.le_refl _) hb)
                           replace HTY := Lib.hid (HTY.out.below hb)
                           replace XA := Lib.hid (XA.out.below hb)
                           clear hb)))
                    | fail
                  have c0 := XA.out.2 0
                  go_wp2_with fail
                  clear c0
                  refine (HCT.out _).mono ?_
                  rintro e w1 ⟨rfl, hw⟩
                  subst hw
                  cases bt with
                  | true =>
                    have c3 := XA.out.2 3
                    have c4 := XA.out.2 4
                    go_wp2_with fail
                    clear c3 c4
                    refine (implNote d _ ty _ HTY.out hsz).mono ?_
                    rintro e w2 ⟨rfl, hb⟩
                    replace B := Lib.hid (below_thru B.out (Nat.le_refl _) hb)
                    replace HTY := Lib.hid (HTY.out.below hb)
                    replace XA := Lib.hid (XA.out.below hb)
                    clear hb
                    go_wp2_with fail
                    go_ret
                    exact ⟨by rw [HQ.out]; simp [q1, q2, q3, q4], B.out⟩
                  | false =>
                    have c3 := XA.out.2 3
                    have c4 := XA.out.2 4
                    go_wp2_with fail
                    clear c3 c4
                    refine (implEqual d _ _ ty (.node 0 []) _ HTY.out (nil_at _ HTY.out)).mono ?_
                    rintro e w2 ⟨rfl, hb⟩
                    replace B := Lib.hid (below_thru B.out (Nat.le_refl _) hb)
                    replace HTY := Lib.hid (HTY.out.below hb)
                    replace XA := Lib.hid (XA.out.below hb)
                    clear hb
                    go_wp2_with fail
                    go_ret
                    exact ⟨by rw [HQ.out]; rw [beq_nil]; cases hil : ty.isNil <;> simp [q1, q2, q3, q4, note_nil, hil], B.out⟩
end Go.Proofs.YtdgfkmnnjhlpbaaDoor
/-
  Proved: what an assertion on one of the five nodes yields (closed facts on the program's tables).
-/
namespace Go.Proofs.YtdgfkmnnjhlpbaaDoor
open Go.RowKit

theorem as_unknown_unknown (w : World) : (Instr.typeAssert (.iface 137 (.agg #[])) 134 137 true).run Tryd.prog w = .ok (.tuple #[.agg #[], .bool true]) w := by kernel_rfl
theorem as_unknown_num (w : World) : (Instr.typeAssert (.iface 137 (.agg #[])) 134 138 true).run Tryd.prog w = .ok (.tuple #[.agg #[], .bool false]) w := by kernel_rfl
theorem as_unknown_bool (w : World) : (Instr.typeAssert (.iface 137 (.agg #[])) 134 139 true).run Tryd.prog w = .ok (.tuple #[.agg #[], .bool false]) w := by kernel_rfl
theorem as_unknown_arrow (w : World) : (Instr.typeAssert (.iface 137 (.agg #[])) 134 141 true).run Tryd.prog w = .ok (.tuple #[.agg #[.int .i64 0, .slice none 0 0, .int .i64 0, .slice none 0 0], .bool false]) w := by kernel_rfl
theorem as_unknown_pair (w : World) : (Instr.typeAssert (.iface 137 (.agg #[])) 134 143 true).run Tryd.prog w = .ok (.tuple #[.agg #[.int .i64 0, .slice none 0 0, .int .i64 0, .slice none 0 0], .bool false]) w := by kernel_rfl
theorem as_num_unknown (w : World) : (Instr.typeAssert (.iface 138 (.agg #[])) 134 137 true).run Tryd.prog w = .ok (.tuple #[.agg #[], .bool false]) w := by kernel_rfl
theorem as_num_num (w : World) : (Instr.typeAssert (.iface 138 (.agg #[])) 134 138 true).run Tryd.prog w = .ok (.tuple #[.agg #[], .bool true]) w := by kernel_rfl
theorem as_num_bool (w : World) : (Instr.typeAssert (.iface 138 (.agg #[])) 134 139 true).run Tryd.prog w = .ok (.tuple #[.agg #[], .bool false]) w := by kernel_rfl
theorem as_num_arrow (w : World) : (Instr.typeAssert (.iface 138 (.agg #[])) 134 141 true).run Tryd.prog w = .ok (.tuple #[.agg #[.int .i64 0, .slice none 0 0, .int .i64 0, .slice none 0 0], .bool false]) w := by kernel_rfl
theorem as_num_pair (w : World) : (Instr.typeAssert (.iface 138 (.agg #[])) 134 143 true).run Tryd.prog w = .ok (.tuple #[.agg #[.int .i64 0, .slice none 0 0, .int .i64 0, .slice none 0 0], .bool false]) w := by kernel_rfl
theorem as_bool_unknown (w : World) : (Instr.typeAssert (.iface 139 (.agg #[])) 134 137 true).run Tryd.prog w = .ok (.tuple #[.agg #[], .bool false]) w := by kernel_rfl
theorem as_bool_num (w : World) : (Instr.typeAssert (.iface 139 (.agg #[])) 134 138 true).run Tryd.prog w = .ok (.tuple #[.agg #[], .bool false]) w := by kernel_rfl
theorem as_bool_bool (w : World) : (Instr.typeAssert (.iface 139 (.agg #[])) 134 139 true).run Tryd.prog w = .ok (.tuple #[.agg #[], .bool true]) w := by kernel_rfl
theorem as_bool_arrow (w : World) : (Instr.typeAssert (.iface 139 (.agg #[])) 134 141 true).run Tryd.prog w = .ok (.tuple #[.agg #[.int .i64 0, .slice none 0 0, .int .i64 0, .slice none 0 0], .bool false]) w := by kernel_rfl
theorem as_bool_pair (w : World) : (Instr.typeAssert (.iface 139 (.agg #[])) 134 143 true).run Tryd.prog w = .ok (.tuple #[.agg #[.int .i64 0, .slice none 0 0, .int .i64 0, .slice none 0 0], .bool false]) w := by kernel_rfl
theorem as_arrow_unknown (a b c d : Value) (w : World) : (Instr.typeAssert (.iface 141 (.agg #[a, b, c, d])) 134 137 true).run Tryd.prog w = .ok (.tuple #[.agg #[], .bool false]) w := by kernel_rfl
theorem as_arrow_num (a b c d : Value) (w : World) : (Instr.typeAssert (.iface 141 (.agg #[a, b, c, d])) 134 138 true).run Tryd.prog w = .ok (.tuple #[.agg #[], .bool false]) w := by kernel_rfl
theorem as_arrow_bool (a b c d : Value) (w : World) : (Instr.typeAssert (.iface 141 (.agg #[a, b, c, d])) 134 139 true).run Tryd.prog w = .ok (.tuple #[.agg #[], .bool false]) w := by kernel_rfl
theorem as_arrow_arrow (a b c d : Value) (w : World) : (Instr.typeAssert (.iface 141 (.agg #[a, b, c, d])) 134 141 true).run Tryd.prog w = .ok (.tuple #[.agg #[a, b, c, d], .bool true]) w := by kernel_rfl
theorem as_arrow_pair (a b c d : Value) (w : World) : (Instr.typeAssert (.iface 141 (.agg #[a, b, c, d])) 134 143 true).run Tryd.prog w = .ok (.tuple #[.agg #[.int .i64 0, .slice none 0 0, .int .i64 0, .slice none 0 0], .bool false]) w := by kernel_rfl
theorem as_pair_unknown (a b c d : Value) (w : World) : (Instr.typeAssert (.iface 143 (.agg #[a, b, c, d])) 134 137 true).run Tryd.prog w = .ok (.tuple #[.agg #[], .bool false]) w := by kernel_rfl
theorem as_pair_num (a b c d : Value) (w : World) : (Instr.typeAssert (.iface 143 (.agg #[a, b, c, d])) 134 138 true).run Tryd.prog w = .ok (.tuple #[.agg #[], .bool false]) w := by kernel_rfl
theorem as_pair_bool (a b c d : Value) (w : World) : (Instr.typeAssert (.iface 143 (.agg #[a, b, c, d])) 134 139 true).run Tryd.prog w = .ok (.tuple #[.agg #[], .bool false]) w := by kernel_rfl
theorem as_pair_arrow (a b c d : Value) (w : World) : (Instr.typeAssert (.iface 143 (.agg #[a, b, c, d])) 134 141 true).run Tryd.prog w = .ok (.tuple #[.agg #[.int .i64 0, .slice none 0 0, .int .i64 0, .slice none 0 0], .bool false]) w := by kernel_rfl
theorem as_pair_pair (a b c d : Value) (w : World) : (Instr.typeAssert (.iface 143 (.agg #[a, b, c, d])) 134 143 true).run Tryd.prog w = .ok (.tuple #[.agg #[a, b, c, d], .bool true]) w := by kernel_rfl
end Go.Proofs.YtdgfkmnnjhlpbaaDoor
/-
  Proved: impl.IsValidType says whether a type's tree is a valid type; it leaves the memory that was there as it was.
-/
namespace Go.Proofs.YtdgfkmnnjhlpbaaDoor
open Go.RowKit

theorem within_valid (t : Ty) : within t 800 24 = t.valid := by
  have e1 : decide ((t.size : Int) ≤ 800) = decide (t.size ≤ 800) := decide_eq_decide.2 (by omega)
  have e2 : decide ((t.depth : Int) ≤ 24) = decide (t.depth ≤ 24) := decide_eq_decide.2 (by omega)
  unfold within Ty.valid
  rw [e1, e2]
set_option maxRecDepth 100000 in
set_option maxHeartbeats 1000000 in
theorem implValid (d : Nat) (v : Value) (t : Ty) (w : World) (h : TyAt w d v t) (hsz : t.size ≤ 1048577) :
    Calls Tryd.prog 79 #[v] w fun e w' => e = .returned (.bool t.valid) ∧ Below w.heap.size w w' := by
  have HT := Lib.hid h
  obtain ⟨yk, ya, yn, yc, rfl⟩ := agg_parts h
  clear h
  have X : Hid (Below w.heap.size w ((w.alloc (.cells #[.int .i64 yk, .slice ya yn yc] 31)).alloc (.cells #[.int .i64 800] 3))) := ((Below.refl _ _).alloc (Nat.le_refl _) _).alloc (by simp) _
  go_enter Tryd.func79, Tryd.ntmps79
  go_wp2_with fail
  refine (implWithin w d _ t (w.heap.size + 1) 800 24 _ HT.out X.out (by omega) hsz (by simp) (by omega) (by omega) (by omega) (by omega) (by simp [go_sem]) (by simp [go_sem])).mono ?_
  intro e w' hend
  obtain ⟨r', rfl, hr, _⟩ := hend.room
  have HB := Lib.hid (X.out.trans (hr.2.2.1.mono (Nat.le_succ _)))
  clear hend hr
  go_wp2_with fail
  go_ret
  exact ⟨by rw [within_valid]; rfl, HB.out⟩
end Go.Proofs.YtdgfkmnnjhlpbaaDoor
/-
  Proved: impl.typeText gives the text of a type's tree; the memory that was there stays as it was.
-/
namespace Go.Proofs.YtdgfkmnnjhlpbaaDoor
open Go.RowKit

set_option maxRecDepth 100000 in
set_option maxHeartbeats 4000000 in
theorem implText : ∀ (d : Nat) (v : Value) (t : Ty) (w : World), TyAt w d v t → t.form = true → t.size ≤ 1048577 →
    Calls Tryd.prog 107 #[v] w fun e w' => e = .returned (.string t.text) ∧ Below w.heap.size w w'
  | 0, _, _, _, h, _, _ => h.elim
  | d + 1, v, .node kd ts, w, h, hfm, hsz => by
    have IH : Hid (∀ (v : Value) (t : Ty) (w : World), TyAt w d v t → t.form = true → t.size ≤ 1048577 → Calls Tryd.prog 107 #[v] w fun e w' => e = .returned (.string t.text) ∧ Below w.heap.size w w') := implText d
    have HT := Lib.hid h
    obtain ⟨yk, ya, yn, yc, rfl⟩ := agg_parts h
    clear h
    have HF := Lib.hid hfm
    have hko : kindOk kd ts.length = true := by simp only [Ty.form, Bool.and_eq_true] at hfm; exact hfm.2
    have hlen : ts.length ≤ 1152921504606846976 := by
      have : ts.length = 0 ∨ ts.length = 2 := kind_len hko
      omega
    have HKO := Lib.hid hko
    clear hfm hko
    have B : Hid (Below w.heap.size w (w.alloc (.cells #[.int .i64 yk, .slice ya yn yc] 31))) := below_alloc _ _
    go_enter Tryd.func107, Tryd.ntmps107
    go_wp2_with fail
    refine (implNode w d _ kd ts _ HT.out B.out hlen).mono ?_
    rintro e w2 ⟨n, rfl, hnode, hb⟩
    replace B := Lib.hid (below_thru B.out (Nat.le_refl _) hb)
    have hz2 := B.out.size
    clear hb HT
    rcases hnode with ⟨h, _⟩ | ⟨_, rfl, ⟨rfl, rfl⟩ | ⟨rfl, rfl⟩ | ⟨rfl, rfl⟩⟩ | ⟨_, t1, t2, k1, s1, k2, s2, rfl, ht1, ht2, ⟨rfl, rfl⟩ | ⟨rfl, rfl⟩⟩
    · rw [HKO.out] at h; cases h
    · have as_unknown := as_unknown_unknown
      go_wp2_with fail
      go_ret
      exact ⟨rfl, (B.out.alloc (by omega) _)⟩
    · have as_unknown := as_num_unknown
      have as_num := as_num_num
      go_wp2_with fail
      go_ret
      exact ⟨rfl, (B.out.alloc (by omega) _)⟩
    · have as_unknown := as_bool_unknown
      have as_num := as_bool_num
      have as_bool := as_bool_bool
      go_wp2_with fail
      go_ret
      exact ⟨rfl, (B.out.alloc (by omega) _)⟩
    · obtain ⟨_, a1, n1, c1, _, rfl⟩ := at_parts ht1
      obtain ⟨_, a2, n2, c2, _, rfl⟩ := at_parts ht2
      have as_unknown := as_arrow_unknown (.int .i64 k1) (.slice a1 n1 c1) (.int .i64 k2) (.slice a2 n2 c2)
      have as_num := as_arrow_num (.int .i64 k1) (.slice a1 n1 c1) (.int .i64 k2) (.slice a2 n2 c2)
      have as_bool := as_arrow_bool (.int .i64 k1) (.slice a1 n1 c1) (.int .i64 k2) (.slice a2 n2 c2)
      have as_arrow := as_arrow_arrow (.int .i64 k1) (.slice a1 n1 c1) (.int .i64 k2) (.slice a2 n2 c2)
      have F1 := Lib.hid (form_two HF.out).1
      have F2 := Lib.hid (form_two HF.out).2
      have z1 := t1.text_size
      have z2 := t2.text_size
      simp only [Ty.size, Ty.sizes] at hsz
      have Z1 := Lib.hid (show t1.size ≤ 1048577 by omega)
      have Z2 := Lib.hid (show t2.size ≤ 1048577 by omega)
      have m1 : ¬ (9223372036854775807 < 1 + t1.text.size) := by omega
      have m2 : ¬ (9223372036854775807 < 1 + t1.text.size + 1) := by omega
      have m3 : ¬ (9223372036854775807 < 1 + t1.text.size + 1 + t2.text.size) := by omega
      have m4 : ¬ (9223372036854775807 < 1 + t1.text.size + 1 + t2.text.size + 1) := by omega
      clear hsz z1 z2
      have hb := below_alloc w2 (.cells #[.int .i64 k1, .slice a1 n1 c1, .int .i64 k2, .slice a2 n2 c2] 141)
      have H1 := Lib.hid (ht1.below (below_thru B.out (Nat.le_refl _) hb))
      have H2 := Lib.hid (ht2.below (below_thru B.out (Nat.le_refl _) hb))
      replace B := Lib.hid (below_thru B.out (Nat.le_refl _) hb)
      have XN : Hid (BoxAt (w2.alloc (.cells #[.int .i64 k1, .slice a1 n1 c1, .int .i64 k2, .slice a2 n2 c2] 141)) w2.heap.size #[.int .i64 k1, .slice a1 n1 c1, .int .i64 k2, .slice a2 n2 c2]) := BoxAt.new _ _ _
      clear hb ht1 ht2
      go_wp2_with fail
      have hb := below_drew (w2.alloc (.cells #[.int .i64 k1, .slice a1 n1 c1, .int .i64 k2, .slice a2 n2 c2] 141))
      replace B := Lib.hid (below_thru B.out (Nat.le_refl _) hb)
      replace H1 := Lib.hid (H1.out.below hb)
      replace H2 := Lib.hid (H2.out.below hb)
      replace XN := Lib.hid (XN.out.below hb)
      clear hb
      go_region_held3 (fun w' => w'.cell? ⟨w2.heap.size, 0, none⟩ = some (.int .i64 k1) ∧ w'.cell? ⟨w2.heap.size, 1, none⟩ = some (.slice a1 n1 c1) ∧ w'.cell? ⟨w2.heap.size, 2, none⟩ = some (.int .i64 k2) ∧ w'.cell? ⟨w2.heap.size, 3, none⟩ = some (.slice a2 n2 c2)) (exact ⟨XN.out.2 0, XN.out.2 1, XN.out.2 2, XN.out.2 3⟩)
        (first
         | (go_at_call_of 107 (Value.agg #[Value.int IntKind.i64 k1, Value.slice a1 n1 c1])
            refine (IH.out _ t1 _ H1.out F1.out Z1.out).mono ?_
            rintro e w3 ⟨rfl, hb⟩
            replace B := Lib.hid (below_thru B.out (Nat.le_refl _) hb)
            replace H1 := Lib.hid (H1.out.below hb)
            replace H2 := Lib.hid (H2.out.below hb)
            replace XN := Lib.hid (XN.out.below hb)
            clear hb)
         | (go_at_call_of 107 (Value.agg #[Value.int IntKind.i64 k2, Value.slice a2 n2 c2])
            refine (IH.out _ t2 _ H2.out F2.out Z2.out).mono ?_
            rintro e w4 ⟨rfl, hb⟩
            replace B := Lib.hid (below_thru B.out (Nat.le_refl _) hb)
            replace H1 := Lib.hid (H1.out.below hb)
            replace H2 := Lib.hid (H2.out.below hb)
            replace XN := Lib.hid (XN.out.below hb)
            clear hb))
      go_wp2_with fail
      go_ret
      exact ⟨by rw [Ty.text_arrow]; rfl, B.out⟩
    · obtain ⟨_, a1, n1, c1, _, rfl⟩ := at_parts ht1
      obtain ⟨_, a2, n2, c2, _, rfl⟩ := at_parts ht2
      have as_unknown := as_pair_unknown (.int .i64 k1) (.slice a1 n1 c1) (.int .i64 k2) (.slice a2 n2 c2)
      have as_num := as_pair_num (.int .i64 k1) (.slice a1 n1 c1) (.int .i64 k2) (.slice a2 n2 c2)
      have as_bool := as_pair_bool (.int .i64 k1) (.slice a1 n1 c1) (.int .i64 k2) (.slice a2 n2 c2)
      have as_arrow := as_pair_arrow (.int .i64 k1) (.slice a1 n1 c1) (.int .i64 k2) (.slice a2 n2 c2)
      have as_pair := as_pair_pair (.int .i64 k1) (.slice a1 n1 c1) (.int .i64 k2) (.slice a2 n2 c2)
      have F1 := Lib.hid (form_two HF.out).1
      have F2 := Lib.hid (form_two HF.out).2
      have z1 := t1.text_size
      have z2 := t2.text_size
      simp only [Ty.size, Ty.sizes] at hsz
      have Z1 := Lib.hid (show t1.size ≤ 1048577 by omega)
      have Z2 := Lib.hid (show t2.size ≤ 1048577 by omega)
      have m1 : ¬ (9223372036854775807 < 1 + t1.text.size) := by omega
      have m2 : ¬ (9223372036854775807 < 1 + t1.text.size + 1) := by omega
      have m3 : ¬ (9223372036854775807 < 1 + t1.text.size + 1 + t2.text.size) := by omega
      have m4 : ¬ (9223372036854775807 < 1 + t1.text.size + 1 + t2.text.size + 1) := by omega
      clear hsz z1 z2
      have hb := below_alloc w2 (.cells #[.int .i64 k1, .slice a1 n1 c1, .int .i64 k2, .slice a2 n2 c2] 143)
      have H1 := Lib.hid (ht1.below (below_thru B.out (Nat.le_refl _) hb))
      have H2 := Lib.hid (ht2.below (below_thru B.out (Nat.le_refl _) hb))
      replace B := Lib.hid (below_thru B.out (Nat.le_refl _) hb)
      have XN : Hid (BoxAt (w2.alloc (.cells #[.int .i64 k1, .slice a1 n1 c1, .int .i64 k2, .slice a2 n2 c2] 143)) w2.heap.size #[.int .i64 k1, .slice a1 n1 c1, .int .i64 k2, .slice a2 n2 c2]) := BoxAt.new _ _ _
      clear hb ht1 ht2
      go_wp2_with fail
      have hb := below_drew (w2.alloc (.cells #[.int .i64 k1, .slice a1 n1 c1, .int .i64 k2, .slice a2 n2 c2] 143))
      replace B := Lib.hid (below_thru B.out (Nat.le_refl _) hb)
      replace H1 := Lib.hid (H1.out.below hb)
      replace H2 := Lib.hid (H2.out.below hb)
      replace XN := Lib.hid (XN.out.below hb)
      clear hb
      go_region_held3 (fun w' => w'.cell? ⟨w2.heap.size, 0, none⟩ = some (.int .i64 k1) ∧ w'.cell? ⟨w2.heap.size, 1, none⟩ = some (.slice a1 n1 c1) ∧ w'.cell? ⟨w2.heap.size, 2, none⟩ = some (.int .i64 k2) ∧ w'.cell? ⟨w2.heap.size, 3, none⟩ = some (.slice a2 n2 c2)) (exact ⟨XN.out.2 0, XN.out.2 1, XN.out.2 2, XN.out.2 3⟩)
        (first
         | (go_at_call_of 107 (Value.agg #[Value.int IntKind.i64 k1, Value.slice a1 n1 c1])
            refine (IH.out _ t1 _ H1.out F1.out Z1.out).mono ?_
            rintro e w3 ⟨rfl, hb⟩
            replace B := Lib.hid (below_thru B.out (Nat.le_refl _) hb)
            replace H1 := Lib.hid (H1.out.below hb)
            replace H2 := Lib.hid (H2.out.below hb)
            replace XN := Lib.hid (XN.out.below hb)
            clear hb)
         | (go_at_call_of 107 (Value.agg #[Value.int IntKind.i64 k2, Value.slice a2 n2 c2])
            refine (IH.out _ t2 _ H2.out F2.out Z2.out).mono ?_
            rintro e w4 ⟨rfl, hb⟩
            replace B := Lib.hid (below_thru B.out (Nat.le_refl _) hb)
            replace H1 := Lib.hid (H1.out.below hb)
            replace H2 := Lib.hid (H2.out.below hb)
            replace XN := Lib.hid (XN.out.below hb)
            clear hb))
      go_wp2_with fail
      go_ret
      exact ⟨by rw [Ty.text_pair]; rfl, B.out⟩
end Go.Proofs.YtdgfkmnnjhlpbaaDoor
/-
  Proved: impl.FormatType gives the text of a valid type, the empty text for others; the memory that was there stays as it was.
-/
namespace Go.Proofs.YtdgfkmnnjhlpbaaDoor
open Go.RowKit

set_option maxRecDepth 100000 in
set_option maxHeartbeats 1000000 in
theorem implFormatType (d : Nat) (v : Value) (t : Ty) (w : World) (h : TyAt w d v t) (hsz : t.size ≤ 1048577) :
    Calls Tryd.prog 61 #[v] w fun e w' => e = .returned (.string (formatText t)) ∧ Below w.heap.size w w' := by
  have HT := Lib.hid h
  obtain ⟨yk, ya, yn, yc, rfl⟩ := agg_parts h
  clear h
  have B : Hid (Below w.heap.size w (w.alloc (.cells #[.int .i64 yk, .slice ya yn yc] 31))) := below_alloc _ _
  have HA := Lib.hid (HT.out.below B.out)
  have XA : Hid (BoxAt (w.alloc (.cells #[.int .i64 yk, .slice ya yn yc] 31)) w.heap.size #[.int .i64 yk, .slice ya yn yc]) := BoxAt.new _ _ _
  clear HT
  go_enter Tryd.func61, Tryd.ntmps61
  go_wp2_with fail
  refine (implValid d _ t _ HA.out hsz).mono ?_
  rintro e w1 ⟨rfl, hb⟩
  replace B := Lib.hid (below_thru B.out (Nat.le_refl _) hb)
  replace HA := Lib.hid (HA.out.below hb)
  replace XA := Lib.hid (XA.out.below hb)
  clear hb
  cases hv : t.valid with
  | false =>
    have HV := Lib.hid hv; clear hv
    go_wp2_with fail
    go_ret
    exact ⟨by rw [format_bad HV.out]; rfl, B.out⟩
  | true =>
    have HV := Lib.hid hv
    have hfm : t.form = true := by simp only [Ty.valid, Bool.and_eq_true] at hv; exact hv.2
    clear hv
    have a0 := XA.out.2 0
    have a1 := XA.out.2 1
    go_wp2_with fail
    refine (implText d _ t _ HA.out hfm hsz).mono ?_
    rintro e w2 ⟨rfl, hb⟩
    have B2 := Lib.hid (below_thru B.out (Nat.le_refl _) hb)
    clear hb hfm
    go_wp2_with fail
    go_ret
    exact ⟨by rw [format_good HV.out]; rfl, B2.out⟩
end Go.Proofs.YtdgfkmnnjhlpbaaDoor
/-
  Proved: impl.FormatAction gives the text of a valid action, the empty text for others; the memory that was there stays as it was.
-/
namespace Go.Proofs.YtdgfkmnnjhlpbaaDoor
open Go.RowKit

set_option maxRecDepth 100000 in
theorem implHasNum (k : Int) (w : World) : Calls Tryd.prog 58 #[.int .i64 k] w fun e w' => e = .returned (.bool (decide (0 < actMost k))) ∧ w' = w := by
  go_enter Tryd.func58, Tryd.ntmps58
  go_wp2_with fail
  refine (implMost k _).mono ?_
  rintro e w1 ⟨rfl, rfl⟩
  go_wp2_with fail
  go_ret
  exact ⟨rfl, rfl⟩
set_option maxRecDepth 100000 in
set_option maxHeartbeats 4000000 in
theorem implActText (d : Nat) (v : Value) (t : Act) (w : World) (h : ActAt w d v t) (hn : t.bulk ≤ 1048576) (hw : WordsAt w) (hp : Pow10At w) :
    Calls Tryd.prog 14 #[v] w fun e w' => e = .returned (.string t.text) ∧ Below w.heap.size w w' := by
  cases t with
  | mk kd nm n ty =>
    have HIN := Lib.hid h
    have HBK := Lib.hid hn
    obtain ⟨tk, ta, tn, tc, rfl, hk0, hk1, hn0, hn1, hnm, hty⟩ := h
    dsimp only at hk0 hk1 hn0 hn1 hnm hty ⊢
    have hbk : (Act.mk kd nm n ty).bulk = nm.size + (ty.size - 1) := rfl
    have hsz : ty.size ≤ 1048577 := by omega
    have hns : nm.size ≤ 1048576 := by omega
    clear hn hbk
    have B : Hid (Below w.heap.size w (w.alloc (.cells #[.int .i64 kd, .string nm, .int .i64 n, .int .i64 tk, .slice ta tn tc] 33))) := below_alloc _ _
    have HA := Lib.hid (HIN.out.below B.out)
    have HTY := Lib.hid (hty.below B.out)
    have XA : Hid (BoxAt (w.alloc (.cells #[.int .i64 kd, .string nm, .int .i64 n, .int .i64 tk, .slice ta tn tc] 33)) w.heap.size #[.int .i64 kd, .string nm, .int .i64 n, .int .i64 tk, .slice ta tn tc]) := BoxAt.new _ _ _
    have HPW := Lib.hid (hp.below B.out)
    have HWT := Lib.hid (hw.below B.out)
    clear hp hw
    clear hty HIN
    go_enter Tryd.func14, Tryd.ntmps14
    go_wp2_with fail
    refine (implAction d _ (Act.mk kd nm n ty) _ HA.out HBK.out).mono ?_
    rintro e w1 ⟨rfl, hb⟩
    replace B := Lib.hid (below_thru B.out (Nat.le_refl _) hb)
    replace HA := Lib.hid (HA.out.below hb)
    replace HTY := Lib.hid (HTY.out.below hb)
    replace XA := Lib.hid (XA.out.below hb)
    replace HPW := Lib.hid (HPW.out.below hb)
    replace HWT := Lib.hid (HWT.out.below hb)
    clear hb
    cases hv : (Act.mk kd nm n ty).okB with
    | false =>
      have HV := Lib.hid (act_bad hv); clear hv
      go_wp2_with fail
      go_ret
      exact ⟨by rw [HV.out]; rfl, B.out⟩
    | true =>
      have hrg := act_range hv
      have HV := Lib.hid (act_good hv); clear hv
      dsimp only at hrg
      obtain ⟨kn, rfl⟩ : ∃ kn : Nat, kd = (kn : Int) := ⟨kd.toNat, by omega⟩
      have hr1 : 1 ≤ kn := by omega
      have hr2 : kn ≤ 20 := by omega
      clear hrg
      have hws := actWord_size kn
      have hts := formatText_size ty
      have hfs : (ByteArray.mk (Lib.itoa n).toArray).size ≤ 21 := itoa_size n hn0 hn1
      have CN : ∀ W, Calls Tryd.prog 57 #[.int .i64 kn] W fun e w' => e = .returned (.bool (actNamed kn)) ∧ w' = W := fun W => implNamed kn W
      have CT : ∀ W, Calls Tryd.prog 60 #[.int .i64 kn] W fun e w' => e = .returned (.bool (actTyped kn)) ∧ w' = W := fun W => implTyped kn W
      have CM : ∀ W, Calls Tryd.prog 58 #[.int .i64 kn] W fun e w' => e = .returned (.bool (decide (0 < actMost kn))) ∧ w' = W := fun W => implHasNum kn W
      have CI : ∀ W (_ : Pow10At W), Calls Tryd.prog 59 #[.int .i64 n] W fun e w' => e = .returned (.string ⟨(Lib.itoa n).toArray⟩) ∧ Below W.heap.size W w' := fun W hp => implFormat n hn0 hn1 W hp
      have CF : ∀ (W : World) (v : Value) (_ : TyAt W d v ty), Calls Tryd.prog 61 #[v] W fun e w' => e = .returned (.string (formatText ty)) ∧ Below W.heap.size W w' := fun W v h => implFormatType d v ty W h hsz
      have cw := HWT.out.2 kn hr1 hr2
      rw [show (Act.mk (kn : Int) nm n ty).kind.toNat = kn from rfl] at HV
      have HVV : Hid ((Act.mk (kn : Int) nm n ty).text = actSay (actWord kn) nm ⟨(Lib.itoa n).toArray⟩ (formatText ty) (actNamed (kn : Int)) (decide (0 < actMost (kn : Int))) (actTyped (kn : Int))) := HV.out
      clear HV
      generalize decide (0 < actMost (kn : Int)) = bm at HVV CM
      generalize actNamed (kn : Int) = bn at HVV CN
      generalize actTyped (kn : Int) = bt at HVV CT
      generalize actWord kn = wd at HVV cw hws
      generalize (ByteArray.mk (Lib.itoa n).toArray) = fs at HVV CI hfs
      generalize formatText ty = ts at HVV CF hts
      have HCN := Lib.hid CN
      have HCT := Lib.hid CT
      have HCM := Lib.hid CM
      have HCI := Lib.hid CI
      have HCF := Lib.hid CF
      clear CN CT CM CI CF
      have m0 : ¬ (9223372036854775807 < 1 + nm.size) := by omega
      have m1 : ¬ (9223372036854775807 < 1 + fs.size) := by omega
      have m2 : ¬ (9223372036854775807 < 1 + ts.size) := by omega
      have s0 : ¬ (9223372036854775807 < wd.size + (1 + nm.size)) := by omega
      have s1 : ¬ (9223372036854775807 < wd.size + (1 + fs.size)) := by omega
      have s2 : ¬ (9223372036854775807 < wd.size + (1 + ts.size)) := by omega
      have s3 : ¬ (9223372036854775807 < wd.size + (1 + nm.size) + (1 + fs.size)) := by omega
      have s4 : ¬ (9223372036854775807 < wd.size + (1 + nm.size) + (1 + ts.size)) := by omega
      have s5 : ¬ (9223372036854775807 < wd.size + (1 + fs.size) + (1 + ts.size)) := by omega
      have s6 : ¬ (9223372036854775807 < wd.size + (1 + nm.size) + (1 + fs.size) + (1 + ts.size)) := by omega
      clear hws hts hfs hns hsz
      have c0 := XA.out.2 0
      have c1 := XA.out.2 1
      have c2 := XA.out.2 2
      have c3 := XA.out.2 3
      have c4 := XA.out.2 4
      go_wp2_with fail
      refine (HCN.out _).mono ?_
      rintro e w' ⟨rfl, rfl⟩
      cases bn with
      | false =>
        go_wp2_with fail
        refine (HCM.out _).mono ?_
        rintro e w' ⟨rfl, rfl⟩
        cases bm with
        | false =>
          go_wp2_with fail
          refine (HCT.out _).mono ?_
          rintro e w' ⟨rfl, rfl⟩
          cases bt with
          | false =>
            go_wp2_with fail
            go_ret
            exact ⟨by rw [HVV.out]; rfl, B.out⟩
          | true =>
            go_wp2_with fail
            refine (HCF.out _ _ HTY.out).mono ?_
            rintro e w5 ⟨rfl, hb⟩
            replace B := Lib.hid (below_thru B.out (Nat.le_refl _) hb)
            replace XA := Lib.hid (XA.out.below hb)
            clear hb
            go_wp2_with fail
            go_ret
            exact ⟨by rw [HVV.out]; rfl, B.out⟩
        | true =>
          go_wp2_with fail
          refine (HCI.out _ HPW.out).mono ?_
          clear c0 c1 c2 c3 c4
          rintro e w4 ⟨rfl, hb⟩
          replace B := Lib.hid (below_thru B.out (Nat.le_refl _) hb)
          replace HTY := Lib.hid (HTY.out.below hb)
          replace XA := Lib.hid (XA.out.below hb)
          replace HPW := Lib.hid (HPW.out.below hb)
          clear hb
          have c0 := XA.out.2 0
          have c1 := XA.out.2 1
          have c2 := XA.out.2 2
          have c3 := XA.out.2 3
          have c4 := XA.out.2 4
          go_wp2_with fail
          refine (HCT.out _).mono ?_
          rintro e w' ⟨rfl, rfl⟩
          cases bt with
          | false =>
            go_wp2_with fail
            go_ret
            exact ⟨by rw [HVV.out]; rfl, B.out⟩
          | true =>
            go_wp2_with fail
            refine (HCF.out _ _ HTY.out).mono ?_
            rintro e w5 ⟨rfl, hb⟩
            replace B := Lib.hid (below_thru B.out (Nat.le_refl _) hb)
            replace XA := Lib.hid (XA.out.below hb)
            clear hb
            go_wp2_with fail
            go_ret
            exact ⟨by rw [HVV.out]; rfl, B.out⟩
      | true =>
        go_wp2_with fail
        refine (HCM.out _).mono ?_
        rintro e w' ⟨rfl, rfl⟩
        cases bm with
        | false =>
          go_wp2_with fail
          refine (HCT.out _).mono ?_
          rintro e w' ⟨rfl, rfl⟩
          cases bt with
          | false =>
            go_wp2_with fail
            go_ret
            exact ⟨by rw [HVV.out]; rfl, B.out⟩
          | true =>
            go_wp2_with fail
            refine (HCF.out _ _ HTY.out).mono ?_
            rintro e w5 ⟨rfl, hb⟩
            replace B := Lib.hid (below_thru B.out (Nat.le_refl _) hb)
            replace XA := Lib.hid (XA.out.below hb)
            clear hb
            go_wp2_with fail
            go_ret
            exact ⟨by rw [HVV.out]; rfl, B.out⟩
        | true =>
          go_wp2_with fail
          refine (HCI.out _ HPW.out).mono ?_
          clear c0 c1 c2 c3 c4
          rintro e w4 ⟨rfl, hb⟩
          replace B := Lib.hid (below_thru B.out (Nat.le_refl _) hb)
          replace HTY := Lib.hid (HTY.out.below hb)
          replace XA := Lib.hid (XA.out.below hb)
          replace HPW := Lib.hid (HPW.out.below hb)
          clear hb
          have c0 := XA.out.2 0
          have c1 := XA.out.2 1
          have c2 := XA.out.2 2
          have c3 := XA.out.2 3
          have c4 := XA.out.2 4
          go_wp2_with fail
          refine (HCT.out _).mono ?_
          rintro e w' ⟨rfl, rfl⟩
          cases bt with
          | false =>
            go_wp2_with fail
            go_ret
            exact ⟨by rw [HVV.out]; rfl, B.out⟩
          | true =>
            go_wp2_with fail
            refine (HCF.out _ _ HTY.out).mono ?_
            rintro e w5 ⟨rfl, hb⟩
            replace B := Lib.hid (below_thru B.out (Nat.le_refl _) hb)
            replace XA := Lib.hid (XA.out.below hb)
            clear hb
            go_wp2_with fail
            go_ret
            exact ⟨by rw [HVV.out]; rfl, B.out⟩
end Go.Proofs.YtdgfkmnnjhlpbaaDoor
/-
  Proved: the law FnExactFormatAction answers true for every action, and leaves the memory that was there as it was.
-/
namespace Go.Proofs.YtdgfkmnnjhlpbaaDoor
open Go.RowKit

set_option maxRecDepth 100000 in
set_option maxHeartbeats 1000000 in
theorem formatActionWalk (d : Nat) (v1 : Value) (t1 : Act) (w : World) (h1 : ActAt w d v1 t1) (htab : ActTabs w) :
    Calls Tryd.prog 3 #[v1] w fun e w' => e = .returned (.bool true) ∧ Below w.heap.size w w' := by
  obtain ⟨a1k0, a1m1, a1k2, a1k3, a1s4a, a1s4n, a1s4c, rfl⟩ := act_parts h1
  have B : Hid (Below w.heap.size w (w.alloc (.cells #[.int .i64 a1k0, .string a1m1, .int .i64 a1k2, .int .i64 a1k3, .slice a1s4a a1s4n a1s4c] 26))) := below_alloc _ _
  have HTAB := Lib.hid (htab.below B.out)
  clear htab
  have HA1 := Lib.hid (h1.below B.out)
  have XA1 : Hid (BoxAt (w.alloc (.cells #[.int .i64 a1k0, .string a1m1, .int .i64 a1k2, .int .i64 a1k3, .slice a1s4a a1s4n a1s4c] 26)) (w.heap.size) #[.int .i64 a1k0, .string a1m1, .int .i64 a1k2, .int .i64 a1k3, .slice a1s4a a1s4n a1s4c]) := BoxAt.new _ _ _
  clear h1
  go_enter Tryd.func3, Tryd.ntmps3
  go_wp2_with fail
  refine (szAct d _ t1 1048576 _ (by omega) (by omega) HA1.out).mono ?_
  rintro e w1 ⟨r1, rfl, hb, hr1⟩
  replace B := Lib.hid (below_thru B.out (Nat.le_refl _) hb)
  replace HTAB := Lib.hid (HTAB.out.below hb)
  replace HA1 := Lib.hid (HA1.out.below hb)
  replace XA1 := Lib.hid (XA1.out.below hb)
  clear hb
  rcases hr1 with ⟨hr1, hs1⟩ | ⟨hr1, hs1⟩
  · go_wp2_with fail
    go_ret
    exact ⟨rfl, B.out⟩
  have hq1 : r1 ≤ 1048576 := by omega
  have hn1 : t1.bulk ≤ 1048576 := by omega
  clear hs1
  have cXA1_0 := XA1.out.2 0
  have cXA1_1 := XA1.out.2 1
  have cXA1_2 := XA1.out.2 2
  have cXA1_3 := XA1.out.2 3
  have cXA1_4 := XA1.out.2 4
  go_wp2_with fail
  clear cXA1_0 cXA1_1 cXA1_2 cXA1_3 cXA1_4
  refine (toAct d _ t1 _ hn1 HA1.out).mono ?_
  rintro e w2 ⟨s1, rfl, ht, hb⟩
  replace B := Lib.hid (below_thru B.out (Nat.le_refl _) hb)
  replace HTAB := Lib.hid (HTAB.out.below hb)
  replace HA1 := Lib.hid (HA1.out.below hb)
  replace XA1 := Lib.hid (XA1.out.below hb)
  clear hb
  have Hs1 := Lib.hid ht
  clear ht
  have cXA1_0 := XA1.out.2 0
  have cXA1_1 := XA1.out.2 1
  have cXA1_2 := XA1.out.2 2
  have cXA1_3 := XA1.out.2 3
  have cXA1_4 := XA1.out.2 4
  go_wp2_with fail
  clear cXA1_0 cXA1_1 cXA1_2 cXA1_3 cXA1_4
  refine (specActText d s1 t1 _ Hs1.out hn1).mono ?_
  rintro e w3 ⟨rfl, hb⟩
  replace B := Lib.hid (below_thru B.out (Nat.le_refl _) hb)
  replace HTAB := Lib.hid (HTAB.out.below hb)
  replace HA1 := Lib.hid (HA1.out.below hb)
  replace XA1 := Lib.hid (XA1.out.below hb)
  clear hb
  clear Hs1
  have cXA1_0 := XA1.out.2 0
  have cXA1_1 := XA1.out.2 1
  have cXA1_2 := XA1.out.2 2
  have cXA1_3 := XA1.out.2 3
  have cXA1_4 := XA1.out.2 4
  go_wp2_with fail
  clear cXA1_0 cXA1_1 cXA1_2 cXA1_3 cXA1_4
  refine (toAct d _ t1 _ hn1 HA1.out).mono ?_
  rintro e w4 ⟨x1, rfl, ht, hb⟩
  replace B := Lib.hid (below_thru B.out (Nat.le_refl _) hb)
  replace HTAB := Lib.hid (HTAB.out.below hb)
  replace HA1 := Lib.hid (HA1.out.below hb)
  replace XA1 := Lib.hid (XA1.out.below hb)
  clear hb
  obtain ⟨x1k0, x1m1, x1k2, x1k3, x1s4a, x1s4n, x1s4c, rfl⟩ := act_parts ht
  have HX1 := Lib.hid ht
  clear ht
  have XX1 : Hid (BoxAt (w4.alloc (.cells #[.int .i64 x1k0, .string x1m1, .int .i64 x1k2, .int .i64 x1k3, .slice x1s4a x1s4n x1s4c] 33)) w4.heap.size #[.int .i64 x1k0, .string x1m1, .int .i64 x1k2, .int .i64 x1k3, .slice x1s4a x1s4n x1s4c]) := BoxAt.new _ _ _
  have hb := below_alloc w4 (.cells #[.int .i64 x1k0, .string x1m1, .int .i64 x1k2, .int .i64 x1k3, .slice x1s4a x1s4n x1s4c] 33)
  replace B := Lib.hid (below_thru B.out (Nat.le_refl _) hb)
  replace HTAB := Lib.hid (HTAB.out.below hb)
  replace HA1 := Lib.hid (HA1.out.below hb)
  replace XA1 := Lib.hid (XA1.out.below hb)
  replace HX1 := Lib.hid (HX1.out.below hb)
  clear hb
  have cXA1_0 := XA1.out.2 0
  have cXA1_1 := XA1.out.2 1
  have cXA1_2 := XA1.out.2 2
  have cXA1_3 := XA1.out.2 3
  have cXA1_4 := XA1.out.2 4
  have cXX1_0 := XX1.out.2 0
  have cXX1_1 := XX1.out.2 1
  have cXX1_2 := XX1.out.2 2
  have cXX1_3 := XX1.out.2 3
  have cXX1_4 := XX1.out.2 4
  go_wp2_with fail
  clear cXA1_0 cXA1_1 cXA1_2 cXA1_3 cXA1_4 cXX1_0 cXX1_1 cXX1_2 cXX1_3 cXX1_4
  refine (implActText d _ t1 _ HX1.out hn1 HTAB.out.1 HTAB.out.2).mono ?_
  rintro e w5 ⟨rfl, hb⟩
  replace B := Lib.hid (below_thru B.out (Nat.le_refl _) hb)
  replace HTAB := Lib.hid (HTAB.out.below hb)
  replace HA1 := Lib.hid (HA1.out.below hb)
  replace XA1 := Lib.hid (XA1.out.below hb)
  replace HX1 := Lib.hid (HX1.out.below hb)
  replace XX1 := Lib.hid (XX1.out.below hb)
  clear hb
  have cXA1_0 := XA1.out.2 0
  have cXA1_1 := XA1.out.2 1
  have cXA1_2 := XA1.out.2 2
  have cXA1_3 := XA1.out.2 3
  have cXA1_4 := XA1.out.2 4
  have cXX1_0 := XX1.out.2 0
  have cXX1_1 := XX1.out.2 1
  have cXX1_2 := XX1.out.2 2
  have cXX1_3 := XX1.out.2 3
  have cXX1_4 := XX1.out.2 4
  go_wp2_with fail
  clear cXA1_0 cXA1_1 cXA1_2 cXA1_3 cXA1_4 cXX1_0 cXX1_1 cXX1_2 cXX1_3 cXX1_4
  have hb := below_drew w5
  replace B := Lib.hid (below_thru B.out (Nat.le_refl _) hb)
  replace HTAB := Lib.hid (HTAB.out.below hb)
  replace HA1 := Lib.hid (HA1.out.below hb)
  replace XA1 := Lib.hid (XA1.out.below hb)
  replace HX1 := Lib.hid (HX1.out.below hb)
  replace XX1 := Lib.hid (XX1.out.below hb)
  clear hb
  go_region_held3 (fun w' => w'.cell? ⟨w.heap.size, 0, none⟩ = some (.int .i64 a1k0) ∧ w'.cell? ⟨w.heap.size, 1, none⟩ = some (.string a1m1) ∧ w'.cell? ⟨w.heap.size, 2, none⟩ = some (.int .i64 a1k2) ∧ w'.cell? ⟨w.heap.size, 3, none⟩ = some (.int .i64 a1k3) ∧ w'.cell? ⟨w.heap.size, 4, none⟩ = some (.slice a1s4a a1s4n a1s4c) ∧ w'.cell? ⟨w4.heap.size, 0, none⟩ = some (.int .i64 x1k0) ∧ w'.cell? ⟨w4.heap.size, 1, none⟩ = some (.string x1m1) ∧ w'.cell? ⟨w4.heap.size, 2, none⟩ = some (.int .i64 x1k2) ∧ w'.cell? ⟨w4.heap.size, 3, none⟩ = some (.int .i64 x1k3) ∧ w'.cell? ⟨w4.heap.size, 4, none⟩ = some (.slice x1s4a x1s4n x1s4c)) (exact ⟨XA1.out.2 0, XA1.out.2 1, XA1.out.2 2, XA1.out.2 3, XA1.out.2 4, XX1.out.2 0, XX1.out.2 1, XX1.out.2 2, XX1.out.2 3, XX1.out.2 4⟩)
    (first
     | (go_at_call_of 13 (Value.agg #[Value.int IntKind.i64 a1k0, Value.string a1m1, Value.int IntKind.i64 a1k2, Value.int IntKind.i64 a1k3, Value.slice a1s4a a1s4n a1s4c])
        refine (toAct d _ t1 _ hn1 HA1.out).mono ?_
        rintro e w6 ⟨y1, rfl, ht, hb⟩
        replace B := Lib.hid (below_thru B.out (Nat.le_refl _) hb)
        replace HTAB := Lib.hid (HTAB.out.below hb)
        replace HA1 := Lib.hid (HA1.out.below hb)
        replace XA1 := Lib.hid (XA1.out.below hb)
        replace HX1 := Lib.hid (HX1.out.below hb)
        replace XX1 := Lib.hid (XX1.out.below hb)
        clear hb
        have Hy1 := Lib.hid ht
        clear ht)
     | (go_at_call 15
        refine (eqAct d _ y1 t1 _ HX1.out Hy1.out).mono ?_
        rintro e w7 ⟨rfl, hb⟩
        replace B := Lib.hid (below_thru B.out (Nat.le_refl _) hb)
        replace HTAB := Lib.hid (HTAB.out.below hb)
        replace HA1 := Lib.hid (HA1.out.below hb)
        replace XA1 := Lib.hid (XA1.out.below hb)
        replace HX1 := Lib.hid (HX1.out.below hb)
        replace XX1 := Lib.hid (XX1.out.below hb)
        clear hb
        clear Hy1))
  have cXA1_0 := XA1.out.2 0
  have cXA1_1 := XA1.out.2 1
  have cXA1_2 := XA1.out.2 2
  have cXA1_3 := XA1.out.2 3
  have cXA1_4 := XA1.out.2 4
  have cXX1_0 := XX1.out.2 0
  have cXX1_1 := XX1.out.2 1
  have cXX1_2 := XX1.out.2 2
  have cXX1_3 := XX1.out.2 3
  have cXX1_4 := XX1.out.2 4
  go_wp2_with fail
  go_ret
  exact ⟨rfl, B.out⟩
end Go.Proofs.YtdgfkmnnjhlpbaaDoor
/-
  Proved: a law that returns true and leaves all memory that was there before as it was meets its row's end, also where the row names variables to be read again.
-/
namespace Go.Proofs.YtdgfkmnnjhlpbaaDoor.Law
open Go.ChangeShapes Go.WideShapes Go.ChangeAt Go.RowKit
variable {H : Type} {enc : TypeId × Value → H} {P : Program} {W W' : World}

theorem law_post_vars {f : Func} {s : ChangeSpec} {args : Array Value} {ds gs : List (DataW H)} {before : List MemPlace} {tb : TypeId}
    (hW : DataW.Whole enc P f.params.toList s.vars false W args.toList ds gs before) (hv : varsRowed P s.vars = true)
    (hres : f.resultTypes = #[tb]) (ub : P.underlying tb = some .bool) (hl : laidOutB P = true)
    (hr : (f.params.toList.all fun t => P.readableRec t && decide (t < P.types.size)) = true)
    (hfn : s.fn H (ds ++ gs) = { results := [.lit (.bool true)], args := ds, vars := gs })
    (hb : Below W.heap.size W W') : s.post enc P f false true false false W args (.bool true) W' := by
  have hlt := hW.lt
  have hW' := hW
  obtain ⟨p, q, hA, hV, rfl, hfz, hnd⟩ := hW
  refine ⟨ds, gs, _, [], p, q, hW', ?_, ?_, ?_, hb.frame _, fun h => by cases h⟩
  · rw [hres, hfn]
    exact trodAll_mk1 (shut_bool ub true)
  · rw [hfn]
    exact trodAll_below hl hb hr hA (fun x hx => hlt x (by simp [hx]))
  · rw [hfn]
    exact Below.trodVars hl hb hv hV
end Go.Proofs.YtdgfkmnnjhlpbaaDoor.Law
namespace Go.Proofs.YtdgfkmnnjhlpbaaDoor.ExactFormatAction
open Go.ChangeShapes Go.WideShapes Go.ChangeAt Go.RowKit Go.WideMaps Go.WideElems
open Go.ChangeMaps (setBlock shut_map_nil open_string shut_string keptBut_setBlock frozen?_setBlock heap_setBlock_same)
set_option maxRecDepth 100000 in
theorem contract (H : Type) (enc : TypeId × Value → H) (W : World) (base : Nat) (args : Array Value) (ds gs : List (DataW H)) (before : List MemPlace)
    (hval : ∀ (j : Nat) t v, Tryd.f3.params[j]? = some t → args[j]? = some v → Value.okWide Tryd.prog W .any base t v)
    (hW : DataW.Whole enc Tryd.prog Tryd.f3.params.toList Rows.fnExactFormatActionSpec.vars false W args.toList ds gs before) (hL : laidMetH Tryd.prog Rows.fnExactFormatActionRow.laid W)
    (_hsz : (DataW.weightsEach Tryd.prog (Tryd.f3.params.toList ++ (OpenSpec.ofChange Rows.fnExactFormatActionSpec).bare.plain.varTypes Tryd.prog) (ds ++ gs)).all (· ≤ reachBytes) = true) (_hsh : W.ShapedOpen Tryd.prog) :
    Calls Tryd.prog 3 args W fun e W' => ∃ v, e = .returned v ∧ Rows.fnExactFormatActionSpec.post enc Tryd.prog Tryd.f3 false true false false W args v W' := by
  have hW' := hW
  obtain ⟨p, q, hA0, hV, rfl, hfz, hnd⟩ := hW
  have hA : DataW.TrodAll enc Tryd.prog W 0 (fun _ => true) true Tryd.f3.params.toList args.toList ds p := hA0
  rw [Tryd.params3] at hA hval
  obtain ⟨v0, vs0, d0, ds0, p0, q0, hargs, rfl, rfl, h0, r0⟩ := trodAll_cons hA
  obtain ⟨rfl, rfl, rfl⟩ := trodAll_nil r0
  obtain rfl : args = #[v0] := by cases args; simp_all
  obtain ⟨gg, gt, gcs, gfuel, gd, gp, rfl, _⟩ := trodVars_one hV
  obtain ⟨e0, t0, ht0⟩ := act_of_arg (hval 0 26 v0 rfl rfl) h0
  rw [MakeChecks.laidMetH_plain _ _ _ (by kernel_rfl)] at hL
  have htab : ActTabs W := ⟨words_of hL.tail.tail.tail, Lib.tabIs_of_head (g := 3) (t := 171) (e := 162) (n := 20) (by kernel_rfl) (by kernel_rfl) Tryd.underlying171 Tryd.underlying162 (by kernel_rfl) (by kernel_rfl) hL.tail.tail⟩
  refine Calls.mono (formatActionWalk e0 v0 t0 W ht0 htab) fun e W' ⟨he, hg⟩ => ?_
  subst he
  exact ⟨_, rfl, Law.law_post_vars hW' (by kernel_rfl) (by kernel_rfl) Tryd.underlying4 (by kernel_rfl) (by kernel_rfl) rfl hg⟩
set_option maxRecDepth 100000 in
theorem laid_met (os : Os) : laidMet Tryd.prog Rows.fnExactFormatActionRow.laid (((World.doorLaid Tryd.prog 512 os)).forCall (fun _ _ => 0) ⟨#[], #[.agg #[.int .i64 0, .string ⟨#[]⟩, .int .i64 0, .int .i64 0, .slice none 0 0]], []⟩).memory :=
  laidMet_of_run' 8 (by kernel_rfl) (by kernel_rfl)
theorem reads (os : Os) {H : Type} (enc : TypeId × Value → H) : ∃ places, DataW.whole enc Tryd.prog (((World.doorLaid Tryd.prog 512 os)).forCall (fun _ _ => 0) ⟨#[], #[.agg #[.int .i64 0, .string ⟨#[]⟩, .int .i64 0, .int .i64 0, .slice none 0 0]], []⟩).memory Tryd.f3.params.toList Rows.fnExactFormatActionSpec.vars false (#[.agg #[.int .i64 0, .string ⟨#[]⟩, .int .i64 0, .int .i64 0, .slice none 0 0]] : Array Value).toList 8 = some ([.agg [.lit (.int .i64 0), .lit (.string []), .lit (.int .i64 0), .agg [.lit (.int .i64 0), .nil]]], [Rows.laid_loop_example_g00585_impl_actionWords], places) :=
  ⟨MemPlace.row ⟨0, 0, none⟩ 21, by kernel_rfl⟩
set_option maxRecDepth 100000 in
theorem lifted (os : Os) (started : os.Started) (H : Type) (enc : TypeId × Value → H) (F : Stop.Interp) :
    ReturnsInHanded {} Tryd.checked os 3 .any ((OpenSpec.ofChange Rows.fnExactFormatActionSpec).preRow enc Tryd.prog Tryd.f3 Rows.fnExactFormatActionRow.domain false Rows.fnExactFormatActionRow.laid) (((OpenSpec.ofChange Rows.fnExactFormatActionSpec).at F).post enc Tryd.prog Tryd.f3 false true false false) := by
  obtain ⟨places, hx⟩ := reads os enc
  refine returnsInHanded_of_row (C := Tryd.checked) (s := OpenSpec.ofChange Rows.fnExactFormatActionSpec) (by kernel_rfl) started (by kernel_rfl) Tryd.func3
    (witness_row_atRef (enc := enc) (C := Tryd.checked) false (World.doorLaid Tryd.prog 512 os) #[.agg #[.int .i64 0, .string ⟨#[]⟩, .int .i64 0, .int .i64 0, .slice none 0 0]] rfl (by kernel_rfl) (by kernel_rfl) (by kernel_rfl)
      (OpenSpec.preRow_of_cond 8 hx (by kernel_rfl) (fun k hk => by cases hk) (by kernel_rfl) (laid_met os))) ?_
  intro W base args ds gs before hval hW _ _ hsz hL hsh _
  exact contract H enc W base args ds gs before hval hW hL hsz hsh
theorem said : Rows.FnExactFormatActionSaid :=
  OpenClaim.holds_of_cond 3 Tryd.f3 rfl rfl rfl rfl rfl rfl rfl ⟨rfl, rfl, rfl, rfl, rfl⟩ rfl rfl rfl rfl rfl (by kernel_rfl) Tryd.func3 (by kernel_rfl)
    (of_decide_eq_true (by kernel_rfl)) (by unfold Func.isWrapper; first | (rw [if_pos (by decide +kernel)]; kernel_rfl) | (rw [if_neg (by decide +kernel)]; exact ⟨rfl, rfl⟩))
    (fun os started H enc _ F => by rw [OpenClaim.pre_eq_preRow]; exact lifted os started H enc F)
theorem plain (f : FuncId) (fn : Func) (hf : Tryd.pinned.checked.prog.funcNamed "loop.example/g00585/laws.FnExactFormatAction" = some f) (hfn : Tryd.pinned.checked.prog.funcs[f]? = some fn) :
    true = Tryd.pinned.checked.prog.looks [] ∧ ∀ (j : Nat) t, fn.params[j]? = some t → Tryd.pinned.checked.prog.wantsStandIn t = false := by
  obtain rfl : f = 3 := Option.some.inj ((show Tryd.prog.funcNamed "loop.example/g00585/laws.FnExactFormatAction" = some 3 by kernel_rfl).symm.trans hf) |>.symm
  obtain rfl : fn = Tryd.f3 := (Option.some.inj (Tryd.func3.symm.trans hfn)).symm
  refine ⟨by kernel_rfl, fun j t ht => ?_⟩
  rw [Tryd.params3] at ht
  have hm : t ∈ [26] := by simpa using Array.mem_of_getElem? ht
  have hall : ([26].all fun u => !Tryd.prog.wantsStandIn u) = true := by kernel_rfl
  exact (show Tryd.prog.wantsStandIn t = false by simpa using List.all_eq_true.1 hall t hm)
theorem card : Rows.FnExactFormatActionCardSaid :=
  Claim7.holds_tied_plain_at .later [] _ _ _ _ said (fun _ h => by cases h) (by kernel_rfl) (fun _ h => by cases h) fnExactFormatAction_row_tie rfl ⟨rfl, rfl⟩ (by kernel_rfl) rfl plain (by kernel_rfl)
end Go.Proofs.YtdgfkmnnjhlpbaaDoor.ExactFormatAction
