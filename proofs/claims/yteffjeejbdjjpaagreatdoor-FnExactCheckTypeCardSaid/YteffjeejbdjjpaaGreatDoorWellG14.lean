/-
  Proved: spec.l8With and spec.l9Ctx give a context with one more typing, in new memory; the memory that was there stays as it was.
-/
import Derived.Test.YteffjeejbdjjpaaGreatDoorWellG3
import Derived.Test.YteffjeejbdjjpaaGreatDoorWellG1
import Derived.Test.YteffjeejbdjjpaaGreatDoorWellG4
import Derived.Test.YteffjeejbdjjpaaGreatDoorWellG12
import Derived.Test.YteffjeejbdjjpaaGreatDoorWellG13
import Derived.Test.YteffjeejbdjjpaaGreatDoorWellG5
import Derived.Test.YteffjeejbdjjpaaGreatDoorWellG11
import Derived.Test.YteffjeejbdjjpaaGreatDoorWellG2
/-
  Proved: plain facts on trees that own their blocks, with the blocks' bounds.
-/
namespace Go.Proofs.YteffjeejbdjjpaaGreatDoor
open Go.RowKit

def OwnIn (w : World) (d : Nat) (v : Value) (t : Ty) (lo hi : Nat) : Prop := ∃ fp, TyOwn w d v t fp ∧ Fp lo hi fp ∧ hi ≤ w.heap.size
theorem OwnIn.at_ {w : World} {d : Nat} {v : Value} {t : Ty} {lo hi : Nat} (h : OwnIn w d v t lo hi) : TyAt w d v t := by obtain ⟨fp, h, _⟩ := h; exact TyOwn.at_ h
theorem OwnIn.below {w w' : World} {d : Nat} {v : Value} {t : Ty} {lo hi : Nat} (h : OwnIn w d v t lo hi) (hb : Below w.heap.size w w') : OwnIn w' d v t lo hi := by
  obtain ⟨fp, h, hf, hz⟩ := h
  exact ⟨fp, h.kept hb.size fun b hbf => hb.block b (Nat.lt_of_lt_of_le (hf.2 b hbf).2 hz), hf, Nat.le_trans hz hb.size⟩
theorem OwnIn.of {w0 w : World} {d : Nat} {v : Value} {t : Ty} {fp : List Nat} {lo : Nat} (h : TyOwn w d v t fp) (hf : Fp w0.heap.size w.heap.size fp) (hlo : lo ≤ w0.heap.size) : OwnIn w d v t lo w.heap.size :=
  ⟨fp, h, hf.mono hlo (Nat.le_refl _), Nat.le_refl _⟩
/-- All old blocks but those from lo up to hi are as they were. -/
def Kept (lo hi : Nat) (w w' : World) : Prop := w.heap.size ≤ w'.heap.size ∧ ∀ b, b < w.heap.size → (b < lo ∨ hi ≤ b) → w'.heap[b]? = w.heap[b]?
theorem OwnIn.beside {w w' : World} {d : Nat} {v : Value} {t : Ty} {lo hi lo2 hi2 : Nat} (h : OwnIn w d v t lo hi) (k : Kept lo2 hi2 w w') (hd : hi ≤ lo2 ∨ hi2 ≤ lo) : OwnIn w' d v t lo hi := by
  obtain ⟨fp, h, hf, hz⟩ := h
  exact ⟨fp, h.kept k.1 fun b hbf => k.2 b (by have := (hf.2 b hbf).2; omega) (by have := hf.2 b hbf; omega), hf, Nat.le_trans hz k.1⟩
theorem BoxAt.beside {w w' : World} {p lo hi : Nat} {cs : Array Value} (h : BoxAt w p cs) (k : Kept lo hi w w') (hd : p < lo ∨ hi ≤ p) : BoxAt w' p cs :=
  BoxAt.kept h k.1 (k.2 p h.1 hd)
end Go.Proofs.YteffjeejbdjjpaaGreatDoor
/-
  Proved: plain facts on what MatchArrow and MatchPair give; no program.
-/
namespace Go.Proofs.YteffjeejbdjjpaaGreatDoor
open Go.RowKit

/-- The two parts of a valid type of kind k (of an unknown one: two unknown types), and whether there are any. -/
def Ty.parts (k : Int) : Ty → Ty × Ty × Bool
  | .node kd ts => if (Ty.node kd ts).valid = true then (if kd = 1 then (.node 1 [], .node 1 [], true) else if kd = k then (match ts with | [x, y] => (x, y, true) | _ => (.node 0 [], .node 0 [], false)) else (.node 0 [], .node 0 [], false)) else (.node 0 [], .node 0 [], false)
theorem parts_bad {k kd : Int} {ts : List Ty} (h : (Ty.node kd ts).valid = false) : (Ty.node kd ts).parts k = (.node 0 [], .node 0 [], false) := by
  simp [Ty.parts, h]
theorem parts_unknown_ {k : Int} {ts : List Ty} (h : (Ty.node 1 ts).valid = true) : (Ty.node 1 ts).parts k = (.node 1 [], .node 1 [], true) := by
  simp [Ty.parts, h]
theorem parts_two {k : Int} {x y : Ty} (h : (Ty.node k [x, y]).valid = true) (hk : k ≠ 1) : (Ty.node k [x, y]).parts k = (x, y, true) := by
  simp [Ty.parts, h, hk]
theorem parts_else {k kd : Int} {ts : List Ty} (h1 : kd ≠ 1) (h2 : kd ≠ k) : (Ty.node kd ts).parts k = (.node 0 [], .node 0 [], false) := by
  simp [Ty.parts, h1, h2]
def MatchEnd (D : Nat) (p : Ty × Ty × Bool) (w : World) (e : Ending) (w' : World) : Prop :=
  ∃ v1 v2 mid, e = .returned (.tuple #[v1, v2, .bool p.2.2]) ∧ w.heap.size ≤ mid ∧ OwnIn w' D v1 p.1 w.heap.size mid ∧ OwnIn w' D v2 p.2.1 mid w'.heap.size ∧ Below w.heap.size w w'
theorem match_leaf {w w' : World} {d : Nat} {p : Ty × Ty × Bool} {k : Int} {b : Bool} (hp : p = (.node k [], .node k [], b)) (h0 : -9223372036854775808 ≤ k) (h1 : k ≤ 9223372036854775807) (hb : Below w.heap.size w w') :
    MatchEnd (d + 1) p w (.returned (.tuple #[.agg #[.int .i64 k, .slice none 0 0], .agg #[.int .i64 k, .slice none 0 0], .bool b])) w' := by
  subst hp
  exact ⟨_, _, w.heap.size, rfl, Nat.le_refl _, ⟨[], own_zero _ _ _ h0 h1, Fp.nil _ _, hb.size⟩, ⟨[], own_zero _ _ _ h0 h1, Fp.nil _ _, Nat.le_refl _⟩, hb⟩
theorem match_two {w w' : World} {D lo mid mid2 hi : Nat} {p : Ty × Ty × Bool} {x y : Ty} {v1 v2 : Value} (hp : p = (x, y, true)) (h1 : OwnIn w' D v1 x lo mid) (h2 : OwnIn w' D v2 y mid2 hi) (hl : w.heap.size ≤ lo) (hlm : w.heap.size ≤ mid) (hm : mid ≤ mid2) (hb : Below w.heap.size w w') :
    MatchEnd D p w (.returned (.tuple #[v1, v2, .bool true])) w' := by
  subst hp
  obtain ⟨f1, o1, g1, _⟩ := h1
  obtain ⟨f2, o2, g2, z2⟩ := h2
  exact ⟨_, _, mid, rfl, hlm, ⟨f1, o1, g1.mono hl (Nat.le_refl _), by omega⟩, ⟨f2, o2, g2.mono hm z2, Nat.le_refl _⟩, hb⟩
end Go.Proofs.YteffjeejbdjjpaaGreatDoor
/-
  Proved: plain facts on the two parts of a type; no program.
-/
namespace Go.Proofs.YteffjeejbdjjpaaGreatDoor
open Go.RowKit

theorem parts_size (k : Int) (t : Ty) : (t.parts k).1.size ≤ t.size ∧ (t.parts k).2.1.size ≤ t.size := by
  have hp := t.size_pos
  cases t with
  | node kd ts =>
    by_cases hv : (Ty.node kd ts).valid = true
    · by_cases h1 : kd = 1
      · subst h1
        rw [parts_unknown_ hv]
        exact ⟨hp, hp⟩
      · by_cases h2 : kd = k
        · subst h2
          simp only [Ty.parts, hv, h1, ↓reduceIte]
          split
          · simp only [Ty.size, Ty.sizes]; omega
          · exact ⟨hp, hp⟩
        · rw [parts_else h1 h2]
          exact ⟨hp, hp⟩
    · rw [parts_bad (by simpa using hv)]
      exact ⟨hp, hp⟩
theorem match_any {w w' : World} {D lo mid mid2 hi : Nat} {p : Ty × Ty × Bool} {v1 v2 : Value} (h1 : OwnIn w' D v1 p.1 lo mid) (h2 : OwnIn w' D v2 p.2.1 mid2 hi) (hl : w.heap.size ≤ lo) (hlm : w.heap.size ≤ mid) (hm : mid ≤ mid2) (hb : Below w.heap.size w w') :
    MatchEnd D p w (.returned (.tuple #[v1, v2, .bool p.2.2])) w' := by
  obtain ⟨f1, o1, g1, _⟩ := h1
  obtain ⟨f2, o2, g2, z2⟩ := h2
  exact ⟨_, _, mid, rfl, hlm, ⟨f1, o1, g1.mono hl (Nat.le_refl _), by omega⟩, ⟨f2, o2, g2.mono hm z2, Nat.le_refl _⟩, hb⟩
end Go.Proofs.YteffjeejbdjjpaaGreatDoor
/-
  Proved: laws.markType and laws.heldType on trees that own their blocks, with the blocks' bounds.
-/
namespace Go.Proofs.YteffjeejbdjjpaaGreatDoor
open Go.RowKit

theorem markOwn (B d : Nat) (v : Value) (t : Ty) (lo hi : Nat) (k : Int) (w : World) (hB : B ≤ lo) (hBw : B ≤ w.heap.size) (hk0 : 0 ≤ k) (hk1 : k + t.size ≤ 1099511627776) (h : OwnIn w d v t lo hi) :
    Calls Tryz.prog 17 #[v, .int .i64 k] w fun e w' => e = .returned (.int .i64 (k + (t.size - 1 : Nat))) ∧ OwnIn w' d v (t.markIn k) lo hi ∧ Below B w w' ∧ Kept lo hi w w' := by
  obtain ⟨fp, h, hf, hz⟩ := h
  refine (markTy B d v t fp k w hBw (fun b hb => by have := (hf.2 b hb).1; omega) hf.1 hk0 hk1 h).mono ?_
  rintro e w' ⟨rfl, h1, h2, h3⟩
  exact ⟨rfl, ⟨fp, h1, hf, Nat.le_trans hz h2.size⟩, h2, h2.size, fun b h4 h5 => h3 b h4 fun hm => by have := hf.2 b hm; omega⟩
theorem heldOwn (d : Nat) (v : Value) (t : Ty) (lo hi : Nat) (k : Int) (w : World) (hk0 : 0 ≤ k) (hk1 : k + t.size ≤ 1099511627776) (h : OwnIn w d v (t.markIn k) lo hi) :
    Calls Tryz.prog 18 #[v, .int .i64 k] w fun e w' => e = .returned (.int .i64 (k + (t.size - 1 : Nat))) ∧ Below w.heap.size w w' :=
  (heldTy d v t k w hk0 hk1 h.at_).mono fun _ _ h => h
end Go.Proofs.YteffjeejbdjjpaaGreatDoor
/-
  Proved: plain facts on the last typing of a name in a context.
-/
namespace Go.Proofs.YteffjeejbdjjpaaGreatDoor
open Go.RowKit

def Bi.look : List Bi → ByteArray → Option Ty
  | [], _ => none
  | b :: r, nm => match Bi.look r nm with
    | some t => some t
    | none => if b.name = nm then some b.ty else none
theorem look_none : ∀ (bs : List Bi) (nm : ByteArray), (∀ j (h : j < bs.length), bs[j].name ≠ nm) → Bi.look bs nm = none
  | [], _, _ => rfl
  | b :: r, nm, h => by
    have h1 := look_none r nm fun j hj => by have := h (j + 1) (by simp; omega); simpa using this
    have h2 : b.name ≠ nm := by have := h 0 (by simp); simpa using this
    simp only [Bi.look, h1]
    rw [if_neg h2]
theorem look_at : ∀ (bs : List Bi) (nm : ByteArray) (k : Nat) (hk : k < bs.length), (∀ j (h : j < bs.length), k < j → bs[j].name ≠ nm) → bs[k].name = nm → Bi.look bs nm = some bs[k].ty
  | b :: r, nm, 0, _, h, e => by
    have h1 := look_none r nm fun j hj => by have := h (j + 1) (by simp; omega) (by omega); simpa using this
    have e2 : b.name = nm := by simpa using e
    simp only [Bi.look, h1]
    rw [if_pos e2]; rfl
  | b :: r, nm, k + 1, hk, h, e => by
    have h1 := look_at r nm k (by simpa using hk) (fun j hj hkj => by have := h (j + 1) (by simp; omega) (by omega); simpa using this) (by simpa using e)
    simp only [Bi.look, h1, List.getElem_cons_succ]
/-- The index of a loop that runs down. -/
def downIdx : Nat → Int
  | 0 => -1
  | j + 1 => j
theorem downIdx_eq (n : Nat) : downIdx n = (n : Int) - 1 := by cases n <;> simp [downIdx]
theorem look_zero (w : World) (d : Nat) (k : Int) (h0 : -9223372036854775808 ≤ k) (h1 : k ≤ 9223372036854775807) : TyOwn w (d + 1) (.agg #[.int .i64 k, .slice none 0 0]) (.node k []) [] :=
  ⟨_, rfl, h0, h1, none, 0, [], [], rfl, Nat.le_refl _, by omega, rfl, rfl, (fun b hb => by cases hb), fun j hj => by simp at hj⟩
theorem look_cells {w : World} {d : Nat} {c0 c1 c2 : Value} {b : Bi} (h : BiAt w d (.agg #[c0, c1, c2]) b) : ∃ tk ta tn tc, c0 = .string b.name ∧ c1 = .int .i64 tk ∧ c2 = .slice ta tn tc ∧ b.name.size ≤ 9223372036854775807 ∧ TyAt w d (.agg #[.int .i64 tk, .slice ta tn tc]) b.ty := by
  obtain ⟨tk, ta, tn, tc, hv, hn, ht⟩ := h
  injection hv with hv
  injection hv with hv
  simp at hv
  exact ⟨tk, ta, tn, tc, hv.1, hv.2.1, hv.2.2, hn, ht⟩
/-- What a look-up gives: a copy of the type, or none, and whether it is there. -/
def LookEnd (d : Nat) (r : Option Ty) (w : World) (e : Ending) (w' : World) : Prop :=
  ∃ s, e = .returned (.tuple #[s, .bool r.isSome]) ∧ OwnIn w' (d + 1) s (r.getD (.node 0 [])) w.heap.size w'.heap.size ∧ Below w.heap.size w w'
end Go.Proofs.YteffjeejbdjjpaaGreatDoor
/-
  Proved: plain facts on four cells that lie behind one another, and on kinds.
-/
namespace Go.Proofs.YteffjeejbdjjpaaGreatDoor
open Go.RowKit

/-- Four cells that lie behind one another. -/
def FourAt (w : World) (b off : Nat) (c0 c1 c2 c3 : Value) : Prop :=
  b < w.heap.size ∧ w.cell? ⟨b, off, none⟩ = some c0 ∧ w.cell? ⟨b, off + 1, none⟩ = some c1 ∧ w.cell? ⟨b, off + 2, none⟩ = some c2 ∧ w.cell? ⟨b, off + 3, none⟩ = some c3
theorem FourAt.below {w w' : World} {b off : Nat} {c0 c1 c2 c3 : Value} (h : FourAt w b off c0 c1 c2 c3) (hb : Below w.heap.size w w') : FourAt w' b off c0 c1 c2 c3 := by
  obtain ⟨hl, h0, h1, h2, h3⟩ := h
  exact ⟨Nat.lt_of_lt_of_le hl hb.size, (hb.cell (p := ⟨b, off, none⟩) hl).trans h0, (hb.cell (p := ⟨b, off + 1, none⟩) hl).trans h1, (hb.cell (p := ⟨b, off + 2, none⟩) hl).trans h2, (hb.cell (p := ⟨b, off + 3, none⟩) hl).trans h3⟩
theorem kind_cases {k : Int} {n : Nat} (h : kindOk k n = true) : (k = 1 ∧ n = 0) ∨ (k = 2 ∧ n = 0) ∨ (k = 3 ∧ n = 0) ∨ (k = 4 ∧ n = 2) ∨ (k = 5 ∧ n = 2) := by
  unfold kindOk at h
  split at h
  · have := of_decide_eq_true h; omega
  · split at h
    · have := of_decide_eq_true h; omega
    · cases h
theorem FourAt.stored {w : World} {b off q j : Nat} {u c0 c1 c2 c3 : Value} (h : FourAt w b off c0 c1 c2 c3) (hne : b ≠ q) : FourAt (w.setCell ⟨q, j, none⟩ u) b off c0 c1 c2 c3 := by
  obtain ⟨hl, h0, h1, h2, h3⟩ := h
  have e : (w.setCell ⟨q, j, none⟩ u).heap[b]? = w.heap[b]? := heap_setCell_other _ _ _ _ (by simpa using hne)
  refine ⟨by simpa using hl, ?_, ?_, ?_, ?_⟩
  · rw [World.cell?_of_block (a := ⟨b, off, none⟩) e]; exact h0
  · rw [World.cell?_of_block (a := ⟨b, off + 1, none⟩) e]; exact h1
  · rw [World.cell?_of_block (a := ⟨b, off + 2, none⟩) e]; exact h2
  · rw [World.cell?_of_block (a := ⟨b, off + 3, none⟩) e]; exact h3
theorem OwnIn.stored {w : World} {d : Nat} {v : Value} {t : Ty} {lo hi q j : Nat} {u : Value} (h : OwnIn w d v t lo hi) (hq : q < lo) : OwnIn (w.setCell ⟨q, j, none⟩ u) d v t lo hi := by
  obtain ⟨fp, h, hf, hz⟩ := h
  refine ⟨fp, h.kept (by simp) fun b hb => ?_, hf, by simpa using hz⟩
  have := (hf.2 b hb).1
  exact heap_setCell_other _ _ _ _ (by simp; omega)
end Go.Proofs.YteffjeejbdjjpaaGreatDoor
/-
  Proved: spec.LookupCtx gives a copy of the last type of a name, or says that there is none; the memory that was there stays as it was.
-/
namespace Go.Proofs.YteffjeejbdjjpaaGreatDoor
open Go.RowKit

set_option maxRecDepth 100000 in
set_option maxHeartbeats 4000000 in
theorem specLook (d : Nat) (v : Value) (nm : ByteArray) (bs : List Bi) (w : World) (h : BisAt w d v bs) (hn : Bi.bulks bs ≤ 1048576) :
    Calls Tryz.prog 55 #[v, .string nm] w (LookEnd d (Bi.look bs nm) w) := by
  obtain ⟨a, cap, rfl, hcap, hcap2, hat⟩ := h
  have HAT := Lib.hid hat; clear hat
  have hlen := Bi.length_le bs
  obtain ⟨W, hW⟩ : ∃ W, W = (w.alloc (.cells #[.int .i64 0, .slice none 0 0] 33)) := ⟨_, rfl⟩
  have B : Hid (Below w.heap.size w W) := by show Below _ _ _; rw [hW]; exact below_alloc _ _
  have XR : Hid (BoxAt W w.heap.size #[.int .i64 0, .slice none 0 0]) := by show BoxAt _ _ _; rw [hW]; exact BoxAt.new _ _ _
  have FR : Hid (FreeAt W w.heap.size) := by show FreeAt _ _; rw [hW]; exact FreeAt.new _ _ _
  have hz0 : W.heap.size = w.heap.size + 1 := by rw [hW]; simp
  go_enter Tryz.func55, Tryz.ntmps55
  go_wp2_with fail
  rw [← hW]
  clear hW
  go_loopw [6] (fun i wr => ∃ k : Nat, k ≤ bs.length ∧ i = .int .i64 (downIdx k) ∧ (∀ j (h : j < bs.length), k ≤ j → bs[j].name ≠ nm) ∧ wr = W) (fun i _ => (intOf i + 1).toNat)
  case atStart => exact ⟨bs.length, Nat.le_refl _, by rw [downIdx_eq], fun j h1 h2 => by omega, rfl⟩
  case round =>
    obtain ⟨k, hk, rfl, hf, hw⟩ := hrel
    subst hw
    have HF0 := Lib.hid hf; clear hf
    cases k with
    | zero =>
      have HL : Hid (Bi.look bs nm = none) := look_none bs nm fun j hj => HF0.out j hj (Nat.zero_le _)
      rw [show downIdx 0 = -1 from rfl]
      have r0 := XR.out.2 0
      have s0 := FR.out.2 0
      have r1 := XR.out.2 1
      have s1 := FR.out.2 1
      go_wp2_with fail
      have XRF : BoxAt ((wr.setCell ⟨w.heap.size, 0, none⟩ (.int .i64 0)).setCell ⟨w.heap.size, 1, none⟩ (.slice none 0 0)) w.heap.size #[.int .i64 0, .slice none 0 0] := by
        have := ((XR.out.put (j := 0) (u := .int .i64 0) (by simp)).put (j := 1) (u := .slice none 0 0) (by simp))
        exact this
      have hBF : Below w.heap.size w ((wr.setCell ⟨w.heap.size, 0, none⟩ (.int .i64 0)).setCell ⟨w.heap.size, 1, none⟩ (.slice none 0 0)) := ((B.out.setCell (Nat.le_refl _) _).setCell (Nat.le_refl _) _)
      have h0 := XRF.2 0
      have h1 := XRF.2 1
      clear XRF
      generalize ((wr.setCell ⟨w.heap.size, 0, none⟩ (.int .i64 0)).setCell ⟨w.heap.size, 1, none⟩ (.slice none 0 0)) = WX at h0 h1 hBF ⊢
      refine bodyPost_ret (v := .tuple #[.agg #[.int .i64 0, .slice none 0 0], .bool false]) (by simp [results, Tryz.results55, go_sem, h0, h1]) rfl ?_
      rw [HL.out]
      exact ⟨_, rfl, ⟨[], look_zero _ d 0 (by omega) (by omega), Fp.nil _ _, Nat.le_refl _⟩, hBF⟩
    | succ j =>
      rw [show downIdx (j + 1) = (j : Int) from rfl]
      have hlt : j < bs.length := hk
      obtain ⟨b, off, x0, x1, x2, rfl, hbl, hc0, hc1, hc2, ht⟩ := HAT.out j hlt
      obtain ⟨tk, ta, tn, tc, rfl, rfl, rfl, hnz, hty⟩ := look_cells ht
      have hg := Bi.bulk_get bs j hlt
      have hgb : bs[j].bulk = bs[j].name.size + (bs[j].ty.size - 1) := rfl
      have hsz : bs[j].ty.size ≤ 1048577 := by omega
      have e0 : wr.cell? ⟨b, off + j * 3, none⟩ = some (.string bs[j].name) := by rw [B.out.cell (p := ⟨b, off + j * 3, none⟩) hbl]; exact hc0
      have e1 : wr.cell? ⟨b, off + j * 3 + 1, none⟩ = some (.int .i64 tk) := by rw [B.out.cell (p := ⟨b, off + j * 3 + 1, none⟩) hbl]; exact hc1
      have e2 : wr.cell? ⟨b, off + j * 3 + 2, none⟩ = some (.slice ta tn tc) := by rw [B.out.cell (p := ⟨b, off + j * 3 + 2, none⟩) hbl]; exact hc2
      have HT := Lib.hid (hty.below B.out).succ
      clear hc0 hc1 hc2 ht hty hgb hg
      by_cases q : bs[j].name = nm
      · have HL : Hid (Bi.look bs nm = some bs[j].ty) := look_at bs nm j hlt (fun i hi hj => HF0.out i hi (by omega)) q
        rw [q] at e0
        clear q
        go_wp2_with fail
        clear e0 e1 e2
        refine (specCopy (d + 1) _ bs[j].ty _ hsz HT.out).mono ?_
        rintro e w1 ⟨v1, fp, rfl, ho, hfp, hb⟩
        obtain ⟨zk, za, zn, zc, rfl, _⟩ := ty_parts ho
        have hz1 := hb.size
        rw [hz0] at hz1 hfp
        have HO := Lib.hid ho
        have HF := Lib.hid hfp
        replace B := Lib.hid (below_thru B.out (Nat.le_refl _) hb)
        replace XR := Lib.hid (XR.out.below hb)
        replace FR := Lib.hid (FR.out.below hb)
        clear ho hfp hb HT
        have r0 := XR.out.2 0
        have s0 := FR.out.2 0
        have r1 := XR.out.2 1
        have s1 := FR.out.2 1
        go_wp2_with fail
        have XRF : BoxAt ((w1.setCell ⟨w.heap.size, 0, none⟩ (.int .i64 zk)).setCell ⟨w.heap.size, 1, none⟩ (.slice za zn zc)) w.heap.size #[.int .i64 zk, .slice za zn zc] := by
          have := ((XR.out.put (j := 0) (u := .int .i64 zk) (by simp)).put (j := 1) (u := .slice za zn zc) (by simp))
          exact this
        have hBF : Below w.heap.size w ((w1.setCell ⟨w.heap.size, 0, none⟩ (.int .i64 zk)).setCell ⟨w.heap.size, 1, none⟩ (.slice za zn zc)) := ((B.out.setCell (Nat.le_refl _) _).setCell (Nat.le_refl _) _)
        have HOF : TyOwn ((w1.setCell ⟨w.heap.size, 0, none⟩ (.int .i64 zk)).setCell ⟨w.heap.size, 1, none⟩ (.slice za zn zc)) (d + 1) (.agg #[.int .i64 zk, .slice za zn zc]) bs[j].ty fp := HO.out.kept (by simp) fun b hb => by rw [heap_setCell_other _ _ _ _ (by have := (HF.out.2 b hb).1; simp; omega), heap_setCell_other _ _ _ _ (by have := (HF.out.2 b hb).1; simp; omega)]
        have hfF : Fp w.heap.size ((w1.setCell ⟨w.heap.size, 0, none⟩ (.int .i64 zk)).setCell ⟨w.heap.size, 1, none⟩ (.slice za zn zc)).heap.size fp := by rw [show ((w1.setCell ⟨w.heap.size, 0, none⟩ (.int .i64 zk)).setCell ⟨w.heap.size, 1, none⟩ (.slice za zn zc)).heap.size = w1.heap.size from by simp]; exact HF.out.mono (by omega) (Nat.le_refl _)
        have h0 := XRF.2 0
        have h1 := XRF.2 1
        clear XRF
        generalize ((w1.setCell ⟨w.heap.size, 0, none⟩ (.int .i64 zk)).setCell ⟨w.heap.size, 1, none⟩ (.slice za zn zc)) = WX at h0 h1 hBF HOF hfF ⊢
        refine bodyPost_ret (v := .tuple #[.agg #[.int .i64 zk, .slice za zn zc], .bool true]) (by simp [results, Tryz.results55, go_sem, h0, h1]) rfl ?_
        rw [HL.out]
        exact ⟨_, rfl, ⟨fp, HOF, hfF, Nat.le_refl _⟩, hBF⟩
      · have qs := text_ne q
        have HQ := Lib.hid q
        clear q
        go_wp2_with fail
        exact ⟨⟨j, by omega, by rw [downIdx_eq], fun i h1 h2 => by
          by_cases e : i = j
          · subst e; exact HQ.out
          · exact HF0.out i h1 (by omega), by first | trivial | rfl⟩, by first | (simp [intOf]; done) | (simp [intOf]; omega)⟩
end Go.Proofs.YteffjeejbdjjpaaGreatDoor
namespace Go.Proofs.YteffjeejbdjjpaaGreatDoor
open Go.RowKit

set_option maxRecDepth 100000 in
set_option maxHeartbeats 2000000 in
theorem specWith8 (d d2 : Nat) (v tv : Value) (C : List Bi) (nm : ByteArray) (t : Ty) (w : World) (hv : BisAt w d v C) (ht : TyAt w d2 tv t) (hnm : nm.size ≤ 9223372036854775807) (hn : C.length ≤ 1048576) :
    Calls Tryz.prog 109 #[v, .string nm, tv] w (CtxEnd (C ++ [⟨nm, t⟩]) w) := by
  obtain ⟨tk, ta, tn, tc, rfl⟩ := agg_parts ht
  obtain ⟨i0, hi, hz0, hz1, hz2⟩ := info_parts info_typ
  have HI := Lib.hid hi; clear hi
  have HZ0 := Lib.hid hz0; clear hz0
  have HZ1 := Lib.hid hz1; clear hz1
  have HZ2 := Lib.hid hz2; clear hz2
  have B0 : Hid (Below w.heap.size w ((w.alloc (.cells #[.int .i64 tk, .slice ta tn tc] 33)).alloc (.cells #[] 61))) := Lib.hid (((Below.refl _ _).alloc (Nat.le_refl _) _).alloc (by simp) _)
  have XT : Hid (BoxAt ((w.alloc (.cells #[.int .i64 tk, .slice ta tn tc] 33)).alloc (.cells #[] 61)) w.heap.size #[.int .i64 tk, .slice ta tn tc]) := Lib.hid ((BoxAt.new _ _ _).below (below_alloc _ _))
  have HT := Lib.hid ht
  have R0 : Hid (((w.alloc (.cells #[.int .i64 tk, .slice ta tn tc] 33)).alloc (.cells #[] 61)).ownsRow (w.heap.size + 1) 61 3 (.slice (some ⟨w.heap.size + 1, 0, none⟩) 0 0) 0 []) := by
    have := World.ownsRow_made (e := 61) (size := 3) (base := w.heap.size + 1) (w.alloc (.cells #[.int .i64 tk, .slice ta tn tc] 33)) #[] 0 (by simp) (Nat.zero_le _) rfl
    rw [World.size_alloc] at this
    exact Lib.hid this
  have HR1 : Hid (∀ ty, ∃ v' w', (Builtin.append_ #[36, 36] ty #[.slice (some ⟨w.heap.size + 1, 0, none⟩) 0 0, v]).run Tryz.prog ((w.alloc (.cells #[.int .i64 tk, .slice ta tn tc] 33)).alloc (.cells #[] 61)) = .ok v' w' ∧ (∃ cs, w'.ownsRow (w.heap.size + 1) 61 3 v' C.length cs ∧ TypCells w d cs C) ∧ Below ((w.alloc (.cells #[.int .i64 tk, .slice ta tn tc] 33)).alloc (.cells #[] 61)).heap.size ((w.alloc (.cells #[.int .i64 tk, .slice ta tn tc] 33)).alloc (.cells #[] 61)) w') :=
    fun ty => typ_own_by ty w _ (w.heap.size + 1) d _ _ C (by simp) R0.out hv B0.out (by omega)
  obtain ⟨va, vn, vc, rfl⟩ : ∃ a n c, v = .slice a n c := by obtain ⟨a, cap, hv, _⟩ := hv; exact ⟨_, _, _, hv⟩
  have HNM := Lib.hid hnm
  clear hv ht hnm
  go_enter Tryz.func109, Tryz.ntmps109
  go_wp2_with (first
    | (at_builtin; refine wpList_app_run rfl (.tmp 8) (.tmp 9) 36 rfl (.slice (some ⟨w.heap.size + 1, 0, none⟩) 0 0) (.slice va vn vc) rfl rfl (HR1.out _) ?_
       rintro v1 w1 ⟨⟨cs, ho, hc⟩, hb⟩
       have HO := Lib.hid ho
       have HC := Lib.hid hc
       obtain ⟨oa, on, oc, rfl⟩ := row_slice ho
       have B1 := Lib.hid (below_on B0.out hb (by simp; omega))
       have hz1 := B1.out.size
       have XT1 := Lib.hid (XT.out.below hb)
       have x0 := XT1.out.2 0
       have x1 := XT1.out.2 1
       clear ho hb hc)
    | (at_builtin; go_loud (refine wpList_append_own_at _ rfl (.tmp 11) (.tmp 15) 36 rfl (w.heap.size + 1) 61 i0 (.agg #[.string ⟨#[]⟩, .int .i64 0, .slice none 0 0]) 3 48 Tryz.underlying36 HI.out HZ0.out HZ1.out HZ2.out rfl (by decide) (.slice oa on oc) C.length cs rfl (HO.out.alloc _) ⟨w1.heap.size, 0, none⟩ 1 1 [.string nm, .int .i64 tk, .slice ta tn tc] rfl rfl (World.news_of_block (heap_alloc_new w1 _)) (by simp [Value.oneCell']) (by unfold maxLen; omega) (by omega) (by have := hz1; simp; omega) ?_
                            intro v2 w2 hown2 hg2 _ _
                            refine Hid.out ?_)))
  refine Lib.hid ?_
  clear x0 x1
  have hlo := HO.out.lt
  have B2 : Hid (Below w.heap.size w w2) := Lib.hid ((B1.out.alloc hz1 _).grown hg2 (by simp; omega) (fun k hk => by have := (hlo k hk).1; omega))
  have HO2 : Hid (w2.ownsRow (w.heap.size + 1) 61 3 v2 (C ++ [(⟨nm, t⟩ : Bi)]).length (cs ++ [.string nm, .int .i64 tk, .slice ta tn tc])) := by show World.ownsRow _ _ _ _ _ _ _; simpa using hown2
  have hbi : BiAt w (d + d2) (.agg #[.string nm, .int .i64 tk, .slice ta tn tc]) ⟨nm, t⟩ := ⟨tk, ta, tn, tc, rfl, HNM.out, HT.out.mono (by omega)⟩
  have hcs2 := (TypCells.snoc (HC.out.mono (by omega : d ≤ d + d2)) hbi).below B2.out
  have HBS := Lib.hid (bis_of_own HO2.out hcs2)
  obtain ⟨pa, pn, pc, rfl⟩ := row_slice HO2.out
  clear hown2 hg2 hlo hbi hcs2
  go_wp2_with fail
  go_ret
  exact ⟨_, pa, pn, pc, rfl, HBS.out, B2.out⟩
set_option maxRecDepth 100000 in
set_option maxHeartbeats 2000000 in
theorem specCtx9 (d d2 : Nat) (v ev : Value) (C : List Bi) (kd : Int) (nm : ByteArray) (n : Int) (ty : Ty) (es : List Ex) (w : World) (hv : BisAt w d v C) (he : ExAt w d2 ev (.node kd nm n ty es)) (hn : C.length ≤ 1048576) :
    Calls Tryz.prog 89 #[v, ev] w (CtxEnd (C ++ [⟨nm, ty⟩]) w) := by
  obtain ⟨k, nm', n', tk, ta, tn, tc, sa, sn, sc, rfl⟩ := ex_parts he
  have hty : ∃ d3, TyAt w d3 (.agg #[.int .i64 tk, .slice ta tn tc]) ty ∧ nm' = nm ∧ nm.size ≤ 9223372036854775807 := by
    cases d2 with
    | zero => exact he.elim
    | succ d2 =>
      obtain ⟨c3, c4, sl, hx, _, _, _, _, hnm, hty, _⟩ := he
      injection hx with hx
      injection hx with hx
      simp at hx
      obtain ⟨_, rfl, _, rfl, rfl, _⟩ := hx
      exact ⟨d2, hty, rfl, hnm⟩
  obtain ⟨d3, hty, rfl, hnm⟩ := hty
  have B0 : Hid (Below w.heap.size w (w.alloc (.cells #[.int .i64 k, .string nm', .int .i64 n', .int .i64 tk, .slice ta tn tc, .slice sa sn sc] 40))) := below_alloc _ _
  have HV := Lib.hid (hv.below B0.out)
  have HTY := Lib.hid (hty.below B0.out)
  obtain ⟨va, vn, vc, rfl⟩ : ∃ a n c, v = .slice a n c := by obtain ⟨a, cap, hv, _⟩ := hv; exact ⟨_, _, _, hv⟩
  have HNM := Lib.hid hnm
  clear hv he hty hnm
  go_enter Tryz.func89, Tryz.ntmps89
  go_wp2_with fail
  refine (specWith8 d d3 _ _ C nm' ty _ HV.out HTY.out HNM.out hn).mono ?_
  rintro e w1 ⟨D, a, n, c, rfl, hb, hbl⟩
  have HB := Lib.hid hb
  have B1 := Lib.hid (below_thru B0.out (Nat.le_refl _) hbl)
  clear hb hbl
  go_wp2_with fail
  go_ret
  exact ⟨D, a, n, c, rfl, HB.out, B1.out⟩
end Go.Proofs.YteffjeejbdjjpaaGreatDoor
