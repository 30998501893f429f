/-
  Proved: what the row's cell 'laid' gives a law of typing: the two tables, the sentinel; three named variables, opened.
-/
import Derived.Test.YteffjeejbdjjpaaGreatDoorWellG1
import Derived.Test.YteffjeejbdjjpaaGreatDoorWellG8
import Derived.Test.YteffjeejbdjjpaaGreatDoorWellG5
import Derived.Test.YteffjeejbdjjpaaGreatDoorWellG19
import Derived.Test.YteffjeejbdjjpaaGreatDoorWellG13
import Derived.Test.YteffjeejbdjjpaaGreatDoorWellG3
import Derived.Test.YteffjeejbdjjpaaGreatDoorWellG4
import Derived.Test.YteffjeejbdjjpaaGreatDoorWellG16
import Derived.Test.YteffjeejbdjjpaaGreatDoorRows
import Derived.Test.YteffjeejbdjjpaaGreatDoorWellG7
import Derived.Stop.LaidErr
import Derived.LaidMore
import Derived.OpenShut
/-
  Proved: plain facts on contexts; no program.
-/
namespace Go.Proofs.YteffjeejbdjjpaaGreatDoor
open Go.RowKit

def Bi.ok (b : Bi) : Bool := nameB b.name && b.ty.note
/-- A context: at most eight typings, each of a name and a note. -/
def ctxB (bs : List Bi) : Bool := bs.all Bi.ok && decide (bs.length ≤ 8)
theorem all_next (bs : List Bi) (k : Nat) (h : k < bs.length) : (bs.take (k + 1)).all Bi.ok = ((bs.take k).all Bi.ok && bs[k].ok) := by
  rw [List.take_succ_eq_append_getElem h, List.all_append]
  simp
theorem all_bad (bs : List Bi) (k : Nat) (h : k < bs.length) (hb : bs[k].ok = false) : ctxB bs = false := by
  have : bs.all Bi.ok = false := by
    rw [List.all_eq_false]
    exact ⟨bs[k], List.getElem_mem h, by simp [hb]⟩
  simp [ctxB, this]
theorem ctx_long {bs : List Bi} (h : 8 < bs.length) : ctxB bs = false := by
  have : decide (bs.length ≤ 8) = false := decide_eq_false (by omega)
  simp [ctxB, this]
theorem ctx_all {bs : List Bi} (h : (bs.take bs.length).all Bi.ok = true) : ctxB bs = decide (bs.length ≤ 8) := by
  rw [List.take_length] at h
  simp [ctxB, h]
theorem bi_cells {w : World} {d : Nat} {c0 c1 c2 : Value} {b : Bi} (h : BiAt w d (.agg #[c0, c1, c2]) b) : ∃ tk ta tn tc, c0 = .string b.name ∧ c1 = .int .i64 tk ∧ c2 = .slice ta tn tc ∧ b.name.size ≤ 9223372036854775807 ∧ TyAt w d (.agg #[.int .i64 tk, .slice ta tn tc]) b.ty := by
  obtain ⟨tk, ta, tn, tc, hv, hn, ht⟩ := h
  injection hv with hv
  injection hv with hv
  simp at hv
  exact ⟨tk, ta, tn, tc, hv.1, hv.2.1, hv.2.2, hn, ht⟩
end Go.Proofs.YteffjeejbdjjpaaGreatDoor
/-
  Proved: spec.IsCtx says whether a list of typings is a context; the memory that was there stays as it was.
-/
namespace Go.Proofs.YteffjeejbdjjpaaGreatDoor
open Go.RowKit

set_option maxRecDepth 100000 in
set_option maxHeartbeats 2000000 in
theorem specCtx (d : Nat) (v : Value) (bs : List Bi) (w : World) (h : BisAt w d v bs) (hsz : Bi.bulks bs ≤ 1048576) :
    Calls Tryz.prog 27 #[v] w fun e w' => e = .returned (.bool (ctxB bs)) ∧ Below w.heap.size w w' := by
  have hlen := Bi.length_le bs
  obtain ⟨a, cap, rfl, hcap, hcap2, hat⟩ := h
  have HAT := Lib.hid hat; clear hat
  have HSZ := Lib.hid hsz; clear hsz
  go_enter Tryz.func27, Tryz.ntmps27
  go_wp2_with fail
  go_loopw [3] (fun i wr => ∃ k : Nat, k ≤ bs.length ∧ i = .int .i64 k ∧ (bs.take k).all Bi.ok = true ∧ Below w.heap.size w wr) (fun i _ => bs.length - (intOf i).toNat)
  case atStart => exact ⟨0, by omega, rfl, rfl, Below.refl _ _⟩
  case round =>
    obtain ⟨k, hk, rfl, ha, hb⟩ := hrel
    have HA := Lib.hid ha; clear ha
    have HB := Lib.hid hb; clear hb
    by_cases hlt : k < bs.length
    · obtain ⟨b, off, x0, x1, x2, rfl, hbl, hc0, hc1, hc2, ht⟩ := HAT.out k hlt
      have hg := Bi.bulk_get bs k hlt
      have hgb : bs[k].bulk = bs[k].name.size + (bs[k].ty.size - 1) := rfl
      have hsz2 := HSZ.out
      have hnz : Hid (bs[k].ty.size ≤ 1048577) := by show _ ≤ _; omega
      clear hg hgb hsz2
      obtain ⟨tk, ta, tn, tc, rfl, rfl, rfl, hnm, hty⟩ := bi_cells ht
      have HN := Lib.hid (all_next bs k hlt)
      have HBAD : Hid (bs[k].ok = false → ctxB bs = false) := fun h => all_bad bs k hlt h
      have HOK : Hid (bs[k].ok = (nameB bs[k].name && bs[k].ty.note)) := rfl
      have e0 : wr.cell? ⟨b, off + k * 3, none⟩ = some (.string bs[k].name) := by rw [HB.out.cell (p := ⟨b, off + k * 3, none⟩) hbl]; exact hc0
      have e1 : wr.cell? ⟨b, off + k * 3 + 1, none⟩ = some (.int .i64 tk) := by rw [HB.out.cell (p := ⟨b, off + k * 3 + 1, none⟩) hbl]; exact hc1
      have e2 : wr.cell? ⟨b, off + k * 3 + 2, none⟩ = some (.slice ta tn tc) := by rw [HB.out.cell (p := ⟨b, off + k * 3 + 2, none⟩) hbl]; exact hc2
      have HT := Lib.hid (hty.below HB.out)
      clear ht hty hc0 hc1 hc2
      generalize bs[k] = bk at hnz hnm HN HBAD HOK e0 HT
      obtain ⟨nm, ty⟩ := bk
      dsimp only at hnz hnm HOK e0 HT
      go_wp2_with fail
      refine (specName nm _ hnm).mono ?_
      rintro e w1 ⟨rfl, hw1⟩
      subst hw1
      cases hnb : nameB nm with
      | false =>
        have HF := Lib.hid (HBAD.out (by rw [HOK.out, hnb]; rfl))
        clear hnb
        go_wp2_with fail
        go_ret
        exact ⟨by rw [HF.out]; rfl, HB.out⟩
      | true =>
        rw [hnb] at HOK
        clear hnb
        go_wp2_with fail
        refine (specNote d _ ty _ HT.out hnz.out).mono ?_
        rintro e w1 ⟨rfl, hb⟩
        replace HB := Lib.hid (HB.out.trans (hb.mono HB.out.size))
        clear hb
        cases hno : ty.note with
        | false =>
          have HF := Lib.hid (HBAD.out (by rw [HOK.out, hno]; rfl))
          clear hno
          go_wp2_with fail
          go_ret
          exact ⟨by rw [HF.out]; rfl, HB.out⟩
        | true =>
          have HK : Hid ((bs.take (k + 1)).all Bi.ok = true) := by show _ = _; rw [HN.out, HA.out, HOK.out, hno]; rfl
          clear hno
          go_wp2_with fail
          exact ⟨⟨k + 1, by omega, by go_num, HK.out, HB.out⟩, by simp [intOf]; omega⟩
    · obtain rfl : k = bs.length := by omega
      have HF := Lib.hid (ctx_all HA.out)
      by_cases q : bs.length ≤ 8
      · have q2 : (bs.length : Int) ≤ 8 := by omega
        have HG : Hid (ctxB bs = true) := by show _ = _; rw [HF.out]; exact decide_eq_true q
        go_wp2_with fail
        go_ret
        exact ⟨by rw [HG.out]; rfl, HB.out⟩
      · have q2 : ¬ ((bs.length : Int) ≤ 8) := by omega
        have HG : Hid (ctxB bs = false) := by show _ = _; rw [HF.out]; exact decide_eq_false q
        go_wp2_with fail
        go_ret
        exact ⟨by rw [HG.out]; rfl, HB.out⟩
end Go.Proofs.YteffjeejbdjjpaaGreatDoor
/-
  Proved: what the contracts of typing share: their ends, what they ask of a context and an expression, stores into boxes of two cells.
-/
namespace Go.Proofs.YteffjeejbdjjpaaGreatDoor
open Go.RowKit

theorem Bi.bulks_snoc : ∀ (C : List Bi) (b : Bi), Bi.bulks (C ++ [b]) = Bi.bulks C + (1 + b.bulk)
  | [], b => by simp [Bi.bulks]
  | a :: r, b => by simp only [List.cons_append, Bi.bulks, Bi.bulks_snoc r b]; omega
/-- What is asked of a context and an expression. -/
def TypOk (C : List Bi) (t : Ex) : Prop := t.form = true ∧ smallCtx C ∧ Bi.bulks C + t.bulk ≤ 1048576 ∧ t.count ≤ 40
theorem TypOk.part {C : List Bi} {k : Int} {nm : ByteArray} {n : Int} {ty : Ty} {es : List Ex} (h : TypOk C (.node k nm n ty es)) (j : Nat) (hj : j < es.length) : TypOk C es[j] := by
  obtain ⟨h1, h2, h3, h4⟩ := h
  have hb : (Ex.node k nm n ty es).bulk = nm.size + (ty.size - 1) + Ex.bulks es := rfl
  have hc : (Ex.node k nm n ty es).count = (if k = 14 then 0 else 1) + Ex.counts es := rfl
  have g1 := Ex.bulk_get es j hj
  have g2 := count_part es j hj
  exact ⟨(form_parts h1).2.1 j hj, h2, by omega, by omega⟩
theorem TypOk.under {C : List Bi} {nm : ByteArray} {n : Int} {ty : Ty} {es : List Ex} (h : TypOk C (.node 3 nm n ty es)) (hj : 0 < es.length) : TypOk (C ++ [⟨nm, ty⟩]) es[0] := by
  have hp := h.part 0 hj
  obtain ⟨h1, h2, h3, h4⟩ := h
  have hb : (Ex.node 3 nm n ty es).bulk = nm.size + (ty.size - 1) + Ex.bulks es := rfl
  have hn := note_small ((form_parts h1).2.2 (Or.inl rfl))
  have g1 := Ex.bulk_get es 0 hj
  have hbb : (Bi.mk nm ty).bulk = nm.size + (ty.size - 1) := rfl
  exact ⟨hp.1, smallCtx_add h2 hn, by rw [Bi.bulks_snoc, hbb]; omega, hp.2.2.2⟩
theorem TypOk.len {C : List Bi} {t : Ex} (h : TypOk C t) : C.length ≤ 1048576 := by have := Bi.length_le C; have := h.2.2.1; omega
theorem syn_few {d : Nat} {C : List Bi} {t : Ex} (h : TypOk C t) : ((synE d C t).getD (.node 0 [])).size ≤ 641 := by
  cases hs : synE d C t with
  | none => simp [Ty.size, Ty.sizes]
  | some x => have := syn_size d C t x h.2.1 h.1 hs; have := h.2.2.2; simp; omega
/-- A type in memory of the call's own, and whether there is one. -/
def SynEnd (r : Option Ty) (w : World) (e : Ending) (w' : World) : Prop :=
  ∃ D k a n c, e = .returned (.tuple #[.agg #[.int .i64 k, .slice a n c], .bool r.isSome]) ∧ OwnIn w' D (.agg #[.int .i64 k, .slice a n c]) (r.getD (.node 0 [])) w.heap.size w'.heap.size ∧ Below w.heap.size w w'
def SynYes (t : Ty) (w : World) (e : Ending) (w' : World) : Prop :=
  ∃ D k a n c, e = .returned (.tuple #[.agg #[.int .i64 k, .slice a n c], .bool true]) ∧ OwnIn w' D (.agg #[.int .i64 k, .slice a n c]) t w.heap.size w'.heap.size ∧ Below w.heap.size w w'
def SynNo (w : World) (e : Ending) (w' : World) : Prop :=
  ∃ D k a n c, e = .returned (.tuple #[.agg #[.int .i64 k, .slice a n c], .bool false]) ∧ OwnIn w' D (.agg #[.int .i64 k, .slice a n c]) (.node 0 []) w.heap.size w'.heap.size ∧ Below w.heap.size w w'
/-- Two types in memory of the call's own, and a Bool. -/
def MatchB (b : Bool) (x y : Ty) (w : World) (e : Ending) (w' : World) : Prop :=
  ∃ D k1 a1 n1 c1 k2 a2 n2 c2 mid, e = .returned (.tuple #[.agg #[.int .i64 k1, .slice a1 n1 c1], .agg #[.int .i64 k2, .slice a2 n2 c2], .bool b]) ∧ w.heap.size ≤ mid ∧ OwnIn w' D (.agg #[.int .i64 k1, .slice a1 n1 c1]) x w.heap.size mid ∧ OwnIn w' D (.agg #[.int .i64 k2, .slice a2 n2 c2]) y mid w'.heap.size ∧ Below w.heap.size w w'
theorem own_cells {w : World} {d : Nat} {v : Value} {t : Ty} {lo hi : Nat} (h : OwnIn w d v t lo hi) : ∃ k a n c, v = .agg #[.int .i64 k, .slice a n c] := by
  obtain ⟨fp, h, _⟩ := h
  obtain ⟨k, a, n, c, hv, _⟩ := ty_parts h
  exact ⟨k, a, n, c, hv⟩
theorem own_top {w : World} {d : Nat} {v : Value} {t : Ty} {lo hi : Nat} (h : OwnIn w d v t lo hi) : hi ≤ w.heap.size := by
  obtain ⟨_, _, _, h⟩ := h
  exact h
theorem leaf_in (w : World) (k : Int) (lo hi : Nat) (h0 : -9223372036854775808 ≤ k) (h1 : k ≤ 9223372036854775807) (hz : hi ≤ w.heap.size) : OwnIn w 1 (.agg #[.int .i64 k, .slice none 0 0]) (.node k []) lo hi :=
  ⟨[], look_zero w 0 k h0 h1, Fp.nil _ _, hz⟩
theorem OwnIn.widen {w : World} {d : Nat} {v : Value} {t : Ty} {lo hi lo2 hi2 : Nat} (h : OwnIn w d v t lo hi) (h1 : lo2 ≤ lo) (h2 : hi ≤ hi2) (h3 : hi2 ≤ w.heap.size) : OwnIn w d v t lo2 hi2 := by
  obtain ⟨fp, h, hf, _⟩ := h
  exact ⟨fp, h, hf.mono h1 h2, h3⟩
theorem match_b {D : Nat} {p : Ty × Ty × Bool} {w w' : World} {e : Ending} {b : Bool} (hp : p.2.2 = b) (h : MatchEnd D p w e w') : MatchB b p.1 p.2.1 w e w' := by
  obtain ⟨v1, v2, mid, rfl, hm, h1, h2, hb⟩ := h
  obtain ⟨k1, a1, n1, c1, rfl⟩ := own_cells h1
  obtain ⟨k2, a2, n2, c2, rfl⟩ := own_cells h2
  exact ⟨D, k1, a1, n1, c1, k2, a2, n2, c2, mid, by rw [hp], hm, h1, h2, hb⟩
theorem parts_null (k : Int) : ((Ty.node 0 []).parts k).2.2 = false := by
  by_cases h : (Ty.node 0 []).valid = true
  · by_cases h2 : (0 : Int) = k
    · subst h2; simp [Ty.parts]
    · rw [parts_else (by omega) h2]
  · rw [parts_bad (by simpa using h)]
theorem ex_root {w : World} {d : Nat} {k n : Int} {nm : ByteArray} {c3 c4 c5 : Value} {e : Ex} (h : ExAt w d (.agg #[.int .i64 k, .string nm, .int .i64 n, c3, c4, c5]) e) : e.kind = k ∧ e.name = nm := by
  cases d with
  | zero => exact h.elim
  | succ d =>
    cases e with
    | node kd nm2 n2 ty es =>
      obtain ⟨_, _, _, hv, _⟩ := h
      injection hv with hv
      injection hv with hv
      simp at hv
      exact ⟨hv.1.symm, hv.2.1.symm⟩
/-- A type in memory of the call's own, and whether it counts. -/
def TwoEnd (r : Option Ty) (w : World) (e : Ending) (w' : World) : Prop :=
  ∃ D k a n c t, e = .returned (.tuple #[.agg #[.int .i64 k, .slice a n c], .bool r.isSome]) ∧ OwnIn w' D (.agg #[.int .i64 k, .slice a n c]) t w.heap.size w'.heap.size ∧ (∀ x, r = some x → t = x) ∧ Below w.heap.size w w'
def TwoB (b : Bool) (w : World) (e : Ending) (w' : World) (t : Ty) : Prop :=
  ∃ D k a n c, e = .returned (.tuple #[.agg #[.int .i64 k, .slice a n c], .bool b]) ∧ OwnIn w' D (.agg #[.int .i64 k, .slice a n c]) t w.heap.size w'.heap.size ∧ Below w.heap.size w w'
/-- A type in memory of the call's own. -/
def TypeE (t : Ty) (w : World) (e : Ending) (w' : World) : Prop :=
  ∃ D k a n c, e = .returned (.agg #[.int .i64 k, .slice a n c]) ∧ OwnIn w' D (.agg #[.int .i64 k, .slice a n c]) t w.heap.size w'.heap.size ∧ Below w.heap.size w w'
theorem type_e {d : Nat} {t : Ty} {w w' : World} {e : Ending} (h : ToTyEnd d t w e w') : TypeE t w e w' := by
  obtain ⟨v, fp, rfl, ho, hf, hb⟩ := h
  have h2 : OwnIn w' d v t w.heap.size w'.heap.size := ⟨fp, ho, hf, Nat.le_refl _⟩
  obtain ⟨k, a, n, c, rfl⟩ := own_cells h2
  exact ⟨d, k, a, n, c, rfl, h2, hb⟩
theorem look_b {d : Nat} {r : Option Ty} {w w' : World} {e : Ending} (h : LookEnd d r w e w') : SynEnd r w e w' := by
  obtain ⟨s, rfl, ho, hb⟩ := h
  obtain ⟨k, a, n, c, rfl⟩ := own_cells ho
  exact ⟨_, k, a, n, c, rfl, ho, hb⟩
/-- What MeetType gives. -/
def MeetB (b : Bool) (t : Ty) (w : World) (e : Ending) (w' : World) : Prop :=
  ∃ D k a n c, e = .returned (.tuple #[.agg #[.int .i64 k, .slice a n c], .bool b]) ∧ OwnIn w' D (.agg #[.int .i64 k, .slice a n c]) t w.heap.size w'.heap.size ∧ Below w.heap.size w w'
theorem meet_b {d : Nat} {t1 t2 : Ty} {w w' : World} {e : Ending} (h : MeetL d t1 t2 w e w') : MeetB (t1.okay t2) (t1.both t2) w e w' := by
  obtain ⟨v, fp, rfl, ho, hf, hb⟩ := h
  have h2 : OwnIn w' d v (t1.both t2) w.heap.size w'.heap.size := ⟨fp, ho, hf, Nat.le_refl _⟩
  obtain ⟨k, a, n, c, rfl⟩ := own_cells h2
  exact ⟨d, k, a, n, c, rfl, h2, hb⟩
/-- A box of two cells is written. -/
def put2 (w : World) (p : Nat) (u v : Value) : World := (w.setCell ⟨p, 0, none⟩ u).setCell ⟨p, 1, none⟩ v
section
variable {w : World} {p : Nat} {u v : Value}
theorem put2_size : (put2 w p u v).heap.size = w.heap.size := by unfold put2; simp
theorem put2_block {b : Nat} (h : b ≠ p) : (put2 w p u v).heap[b]? = w.heap[b]? := by
  unfold put2
  rw [heap_setCell_other _ _ _ _ (by simpa using h), heap_setCell_other _ _ _ _ (by simpa using h)]
theorem put2_box {x y : Value} (h : BoxAt w p #[x, y]) : BoxAt (put2 w p u v) p #[u, v] := by
  have := (h.put (j := 0) (u := u) (by simp)).put (j := 1) (u := v) (by simp)
  exact this
theorem put2_other {q : Nat} {cs : Array Value} (h : BoxAt w q cs) (hq : q ≠ p) : BoxAt (put2 w p u v) q cs := h.kept (Nat.le_of_eq put2_size.symm) (put2_block hq)
theorem put2_free {q : Nat} (h : FreeAt w q) : FreeAt (put2 w p u v) q := ⟨by rw [put2_size]; exact h.1, fun j => by unfold put2; rw [World.frozen?_setCell, World.frozen?_setCell]; exact h.2 j⟩
theorem put2_own {d : Nat} {x : Value} {t : Ty} {lo hi : Nat} (h : OwnIn w d x t lo hi) (hp : p < lo ∨ hi ≤ p) : OwnIn (put2 w p u v) d x t lo hi :=
  h.beside (lo2 := p) (hi2 := p + 1) ⟨Nat.le_of_eq put2_size.symm, fun b _ hb => put2_block (by omega)⟩ (by omega)
theorem put2_below {B : Nat} {w0 : World} (h : Below B w0 w) (hp : B ≤ p) : Below B w0 (put2 w p u v) := (h.setCell hp _).setCell hp _
end
end Go.Proofs.YteffjeejbdjjpaaGreatDoor
/-
  Proved: what a walk lays and keeps: boxes at an entry and behind a call, stores, facts for all worlds that grew.
-/
namespace Go.Proofs.YteffjeejbdjjpaaGreatDoor
open Go.RowKit

theorem laid1 (w : World) (cs : Array Value) (T : TypeId) : ∃ W, W = w.alloc (.cells cs T) ∧ Below w.heap.size w W ∧ W.heap.size = w.heap.size + 1 ∧ Hid (BoxAt W w.heap.size cs) ∧ Hid (FreeAt W w.heap.size) :=
  ⟨_, rfl, below_alloc _ _, by simp, Lib.hid (BoxAt.new _ _ _), Lib.hid (FreeAt.new _ _ _)⟩
theorem laid2 (w : World) (cs : Array Value) (T : TypeId) (ds : Array Value) (U : TypeId) : ∃ W, W = (w.alloc (.cells cs T)).alloc (.cells ds U) ∧ Below w.heap.size w W ∧ W.heap.size = w.heap.size + 2 ∧ Hid (BoxAt W w.heap.size cs) ∧ Hid (FreeAt W w.heap.size) ∧ Hid (BoxAt W (w.heap.size + 1) ds) ∧ Hid (FreeAt W (w.heap.size + 1)) := by
  have h1 := BoxAt.new (w.alloc (.cells cs T)) ds U
  have h2 := FreeAt.new (w.alloc (.cells cs T)) ds U
  simp only [World.size_alloc] at h1 h2
  exact ⟨_, rfl, (below_alloc _ _).alloc (by simp) _, by simp, Lib.hid ((BoxAt.new _ _ _).below (below_alloc _ _)), Lib.hid ((FreeAt.new _ _ _).below (below_alloc _ _)), Lib.hid h1, Lib.hid h2⟩
section
variable {w c c' : World} {p q : Nat} {cs : Array Value} {u v : Value}
theorem xb (h : Hid (BoxAt c p cs)) (hb : Below c.heap.size c c') : Hid (BoxAt c' p cs) := Lib.hid (h.out.below hb)
theorem fb (h : Hid (FreeAt c p)) (hb : Below c.heap.size c c') : Hid (FreeAt c' p) := Lib.hid (h.out.below hb)
theorem ob {d : Nat} {t : Ty} {lo hi : Nat} (h : Hid (OwnIn c d u t lo hi)) (hb : Below c.heap.size c c') : Hid (OwnIn c' d u t lo hi) := Lib.hid (h.out.below hb)
theorem bb (h : Hid (Below w.heap.size w c)) (hb : Below c.heap.size c c') : Hid (Below w.heap.size w c') := Lib.hid (below_thru h.out (Nat.le_refl _) hb)
theorem xs {x y : Value} (e : c' = put2 c p u v) (h : Hid (BoxAt c p #[x, y])) : Hid (BoxAt c' p #[u, v]) := by rw [e]; exact Lib.hid (put2_box h.out)
theorem xo (e : c' = put2 c p u v) (h : Hid (BoxAt c q cs)) (hq : q ≠ p) : Hid (BoxAt c' q cs) := by rw [e]; exact Lib.hid (put2_other h.out hq)
theorem fo (e : c' = put2 c p u v) (h : Hid (FreeAt c q)) : Hid (FreeAt c' q) := by rw [e]; exact Lib.hid (put2_free h.out)
theorem oo {x : Value} {d : Nat} {t : Ty} {lo hi : Nat} (e : c' = put2 c p u v) (h : Hid (OwnIn c d x t lo hi)) (hp : p < lo ∨ hi ≤ p) : Hid (OwnIn c' d x t lo hi) := by rw [e]; exact Lib.hid (put2_own h.out hp)
theorem bo (e : c' = put2 c p u v) (h : Hid (Below w.heap.size w c)) (hp : w.heap.size ≤ p) : Hid (Below w.heap.size w c') := by rw [e]; exact Lib.hid (put2_below h.out hp)
theorem gx (h : Hid (BoxAt c p cs)) (j : Nat) : ∀ q : Grown c.heap.size c, q.val.cell? ⟨p, j, none⟩ = cs[j]? := fun q => (h.out.below q.old).2 j
theorem kc {b o : Nat} (hbl : b < w.heap.size) (h : Hid (Below w.heap.size w c)) (k : Hid (w.cell? ⟨b, o, none⟩ = some v)) : c.cell? ⟨b, o, none⟩ = some v := (h.out.cell (p := ⟨b, o, none⟩) hbl).trans k.out
theorem gk {b o : Nat} (hbl : b < w.heap.size) (h : Hid (Below w.heap.size w c)) (k : Hid (w.cell? ⟨b, o, none⟩ = some v)) : ∀ q : Grown c.heap.size c, q.val.cell? ⟨b, o, none⟩ = some v := fun q => (q.old.cell (p := ⟨b, o, none⟩) (Nat.lt_of_lt_of_le hbl h.out.size)).trans (kc hbl h k)
end
end Go.Proofs.YteffjeejbdjjpaaGreatDoor
/-
  Proved: what a whole call on types is asked: contexts, expressions, types.
-/
namespace Go.Proofs.YteffjeejbdjjpaaGreatDoor
open Go.RowKit

/-- What an expression synthesizes in a context, where both are valid. -/
def synTop (d : Nat) (C : List Bi) (e : Ex) : Option Ty := if (ctxB C && e.valid) = true then synE d C e else none
/-- Whether an expression is analyzed against a type in a context, where all are valid. -/
def anaTop (d : Nat) (C : List Bi) (e : Ex) (t : Ty) : Bool := ctxB C && (e.valid && (t.valid && anaE d C e t))
theorem ctx_small {C : List Bi} (h : ctxB C = true) : smallCtx C := by
  intro j hj
  simp only [ctxB, Bool.and_eq_true, List.all_eq_true] at h
  have h1 := h.1 C[j] (List.getElem_mem hj)
  simp only [Bi.ok, Bool.and_eq_true] at h1
  exact note_small h1.2
theorem typOk {C : List Bi} {t : Ex} (hc : ctxB C = true) (ht : t.valid = true) (hs : Bi.bulks C + t.bulk ≤ 1048576) : TypOk C t := by
  simp only [Ex.valid, Bool.and_eq_true, decide_eq_true_eq] at ht
  exact ⟨ht.2.2, ctx_small hc, hs, ht.1⟩
theorem synTop_no {d : Nat} {C : List Bi} {t : Ex} (h : ctxB C = false ∨ t.valid = false) : synTop d C t = none := by
  unfold synTop
  rcases h with h | h <;> simp [h]
theorem synTop_yes {d : Nat} {C : List Bi} {t : Ex} (h1 : ctxB C = true) (h2 : t.valid = true) : synTop d C t = synE d C t := by
  unfold synTop
  simp [h1, h2]
theorem synTop_size {d : Nat} {C : List Bi} {t : Ex} : ((synTop d C t).getD (.node 0 [])).size ≤ 641 := by
  unfold synTop
  split
  · rename_i h
    simp only [Bool.and_eq_true] at h
    have ht := h.2
    simp only [Ex.valid, Bool.and_eq_true, decide_eq_true_eq] at ht
    cases hs : synE d C t with
    | none => simp [Ty.size, Ty.sizes]
    | some x => have := syn_size d C t x (ctx_small h.1) ht.2.2 hs; simp; omega
  · simp [Ty.size, Ty.sizes]
end Go.Proofs.YteffjeejbdjjpaaGreatDoor
/-
  Proved: impl.unlessFits; the ends that the program's contracts of typing share.
-/
namespace Go.Proofs.YteffjeejbdjjpaaGreatDoor
open Go.RowKit

/-- The sentinel that the program's typing hands back. -/
def errOf (pe : Addr) (b : Bool) : Value := if b = true then .nilIface else .iface 141 (.pointer (some pe))
/-- The variable that holds the sentinel. -/
def ErrAt (w : World) (pe : Addr) : Prop := w.cell? ⟨0, 0, none⟩ = some (.iface 141 (.pointer (some pe))) ∧ 0 < w.heap.size
theorem ErrAt.below {w w' : World} {pe : Addr} (h : ErrAt w pe) (hb : Below w.heap.size w w') : ErrAt w' pe := ⟨(hb.cell (p := ⟨0, 0, none⟩) h.2).trans h.1, Nat.lt_of_lt_of_le h.2 hb.size⟩
theorem unlessYes (w : World) : Calls Tryz.prog 69 #[.bool true] w fun e w' => e = .returned .nilIface ∧ Below w.heap.size w w' := by
  go_enter Tryz.func69, Tryz.ntmps69
  go_wp2_with fail
  go_ret
  exact ⟨rfl, Below.refl _ _⟩
theorem unlessNo (w : World) (pe : Addr) (h : ErrAt w pe) : Calls Tryz.prog 69 #[.bool false] w fun e w' => e = .returned (.iface 141 (.pointer (some pe))) ∧ Below w.heap.size w w' := by
  have h0 := h.1
  go_enter Tryz.func69, Tryz.ntmps69
  go_wp2_with fail
  go_ret
  exact ⟨rfl, Below.refl _ _⟩
/-- What synthesis by the program leaves: a type of bounded size in memory of its own, and no error or the sentinel. -/
def ISynEnd (pe : Addr) (r : Option Ty) (N : Nat) (w : World) (e : Ending) (w' : World) : Prop :=
  ∃ D k a n c t, e = .returned (.tuple #[.agg #[.int .i64 k, .slice a n c], errOf pe r.isSome]) ∧ OwnIn w' D (.agg #[.int .i64 k, .slice a n c]) t w.heap.size w'.heap.size ∧ t.size ≤ N ∧ (∀ x, r = some x → t = x) ∧ Below w.heap.size w w'
def ISynYes (t : Ty) (w : World) (e : Ending) (w' : World) : Prop :=
  ∃ D k a n c, e = .returned (.tuple #[.agg #[.int .i64 k, .slice a n c], .nilIface]) ∧ OwnIn w' D (.agg #[.int .i64 k, .slice a n c]) t w.heap.size w'.heap.size ∧ Below w.heap.size w w'
def ISynNo (pe : Addr) (N : Nat) (w : World) (e : Ending) (w' : World) : Prop :=
  ∃ D k a n c t, e = .returned (.tuple #[.agg #[.int .i64 k, .slice a n c], .iface 141 (.pointer (some pe))]) ∧ OwnIn w' D (.agg #[.int .i64 k, .slice a n c]) t w.heap.size w'.heap.size ∧ t.size ≤ N ∧ Below w.heap.size w w'
theorem isyn_yes {pe : Addr} {r : Option Ty} {N : Nat} {w w' : World} {e : Ending} {t : Ty} (hr : r = some t) (h : ISynEnd pe r N w e w') : ISynYes t w e w' := by
  obtain ⟨D, k, a, n, c, t', he, ho, _, hx, hb⟩ := h
  have := hx t hr
  subst this
  rw [hr] at he
  exact ⟨D, k, a, n, c, he, ho, hb⟩
theorem isyn_no {pe : Addr} {r : Option Ty} {N : Nat} {w w' : World} {e : Ending} (hr : r = none) (h : ISynEnd pe r N w e w') : ISynNo pe N w e w' := by
  obtain ⟨D, k, a, n, c, t', he, ho, hs, _, hb⟩ := h
  rw [hr] at he
  exact ⟨D, k, a, n, c, t', he, ho, hs, hb⟩
theorem isyn_ret_yes {pe : Addr} {r : Option Ty} {N D : Nat} {w w' : World} {t : Ty} {k : Int} {a : Option Addr} {n c lo hi : Nat} (hr : r = some t) (ho : OwnIn w' D (.agg #[.int .i64 k, .slice a n c]) t lo hi) (hl : w.heap.size ≤ lo) (hh : hi ≤ w'.heap.size) (hs : t.size ≤ N) (hb : Below w.heap.size w w') :
    ISynEnd pe r N w (.returned (.tuple #[.agg #[.int .i64 k, .slice a n c], .nilIface])) w' :=
  ⟨D, k, a, n, c, t, by rw [hr]; rfl, ho.widen hl hh (Nat.le_refl _), hs, fun x h => (by rw [hr] at h; injection h), hb⟩
theorem isyn_ret_no {pe : Addr} {r : Option Ty} {N D : Nat} {w w' : World} {t : Ty} {k : Int} {a : Option Addr} {n c lo hi : Nat} (hr : r = none) (ho : OwnIn w' D (.agg #[.int .i64 k, .slice a n c]) t lo hi) (hl : w.heap.size ≤ lo) (hh : hi ≤ w'.heap.size) (hs : t.size ≤ N) (hb : Below w.heap.size w w') :
    ISynEnd pe r N w (.returned (.tuple #[.agg #[.int .i64 k, .slice a n c], .iface 141 (.pointer (some pe))])) w' :=
  ⟨D, k, a, n, c, t, by rw [hr]; rfl, ho.widen hl hh (Nat.le_refl _), hs, fun x h => (by rw [hr] at h; cases h), hb⟩
theorem size_leaf (k : Int) : (Ty.node k []).size = 1 := rfl
/-- How the count of a node's parts goes. -/
theorem count_node {k : Int} {nm : ByteArray} {n : Int} {ty : Ty} {es : List Ex} (h : k ≠ 14) : (Ex.node k nm n ty es).count = 1 + Ex.counts es := by
  simp [Ex.count, h]
/-- What the program's synthesis, and its analysis, are held to, for expressions of this depth. -/
def ImplSynSaid (d : Nat) : Prop := ∀ (D : Nat) (pe : Addr) (vc v : Value) (C : List Bi) (t : Ex) (w : World), BisAt w D vc C → ExAt w d v t → TypOk C t → ErrAt w pe → MeetTab w → Calls Tryz.prog 34 #[vc, v] w (ISynEnd pe (synE d C t) (16 * t.count + 1) w)
def ImplAnaSaid (d : Nat) : Prop := ∀ (D D2 : Nat) (pe : Addr) (vc v tv : Value) (C : List Bi) (t : Ex) (x : Ty) (w : World), BisAt w D vc C → ExAt w d v t → TyAt w D2 tv x → TypOk C t → x.size ≤ 1048577 → ErrAt w pe → MeetTab w → Calls Tryz.prog 48 #[vc, v, tv] w fun e w' => e = .returned (errOf pe (anaE d C t x)) ∧ Below w.heap.size w w'
end Go.Proofs.YteffjeejbdjjpaaGreatDoor
namespace Go.Proofs.YteffjeejbdjjpaaGreatDoor
open Go.RowKit

theorem laid_head {P : Program} {x : String × DataW Unit} {r : List (String × DataW Unit)} {W : World} (h : laidMet P (x :: r) W) : laidMet P [x] W := by
  obtain ⟨ps, hv, hnd, hrows⟩ := h
  obtain ⟨n, d⟩ := x
  obtain ⟨g, t, cs, fuel, p, q, hg, ht, hvar, hd, hq, rfl⟩ := hv
  exact ⟨MemPlace.row ⟨g, 0, none⟩ cs.size ++ p, ⟨g, t, cs, fuel, p, [], hg, ht, hvar, hd, rfl, by simp⟩, List.Nodup.sublist (List.sublist_append_left _ _) hnd, fun b off hm => hrows b off (List.mem_append_left _ hm)⟩
theorem err_star : "*" ++ "errors.errorString" = "*errors.errorString" := by decide
theorem err_row (u : TypeId) (h : Tryz.prog.typeName? 3 u = some "*errors.errorString") : u = 141 :=
  typeName_ptr_named (nm := "errors.errorString") (by rw [err_star]; kernel_rfl) (by kernel_rfl) (by decide) u (by rw [err_star]; exact h)
theorem err_named : Tryz.prog.globalNamed "loop.example/g00585/impl.errNoFit" = some 0 := by kernel_rfl
theorem err_type : (Tryz.prog.globals[0]?).map (·.type) = some 65 := by kernel_rfl
theorem err_cells : Tryz.prog.cellsOf 167 = 1 := by kernel_rfl
theorem str_cells : Tryz.prog.cellsOf 9 = 1 := by kernel_rfl
theorem errAt_of {W : World} {r : List (String × DataW Unit)} (h : laidMet Tryz.prog (("loop.example/g00585/impl.errNoFit", Rows.laid_loop_example_g00585_impl_errNoFit) :: r) W) : ∃ pe, ErrAt W pe := by
  obtain ⟨a, s, hv, _, _, _⟩ := laid_sentinel h err_named err_type Tryz.underlying65 err_row Tryz.underlying141 Tryz.underlying167 rfl rfl Tryz.underlying9 err_cells str_cells
  have hc : W.cell? ⟨0, 0, none⟩ = some (.iface 141 (.pointer (some a))) := by simpa using World.var?_cell err_named hv 0
  refine ⟨a, hc, ?_⟩
  simp only [World.var?, err_named, Option.bind_some] at hv
  split at hv
  · rename_i c t fr hb
    exact (Array.getElem?_eq_some_iff.1 hb).1
  · cases hv
theorem vars_three {H : Type} {enc : TypeId × Value → H} {P : Program} {w : World} {spare : Nat → Bool} {n0 n1 n2 : String} {gs : List (DataW H)} {ps : List MemPlace} (h : DataW.TrodVars enc P w spare [n0, n1, n2] gs ps) : ∃ d0 d1 d2, gs = [d0, d1, d2] := by
  cases gs with
  | nil => simp [DataW.TrodVars] at h
  | cons d ds =>
    obtain ⟨g0, t0, cs0, f0, p0, q0, h1, h2, h3, h4, hs, e⟩ := h
    obtain ⟨_, _, _, _, d1, _, _, _, _, _, d2, _, rfl, _⟩ := trodVars_two hs
    exact ⟨d, d1, d2, rfl⟩
end Go.Proofs.YteffjeejbdjjpaaGreatDoor
