/-
  Proved: spec.l18EnvText gives the text of an environment; the memory that was there stays as it was.
-/
import Derived.Test.YtcohfbdhdngplaaDoorSpecForm
import Derived.Test.YtcohfbdhdngplaaDoorPart
import Derived.Test.YtcohfbdhdngplaaDoorHold
import Derived.Deep.QuietTactic
import Derived.Test.YtcohfbdhdngplaaDoorOwnTree
import Derived.Test.YtcohfbdhdngplaaDoorTwo
import Derived.BigQuiet
import Derived.Test.YtcohfbdhdngplaaDoorTotal
import Derived.WalkKit
import Derived.Test.YtcohfbdhdngplaaDoorExForm
import Derived.Test.YtcohfbdhdngplaaDoorFormatText
import Derived.Lib.ItoaLen
import Derived.Test.YtcohfbdhdngplaaDoorCoForm
import Derived.Test.YtcohfbdhdngplaaDoorStrs
import Derived.Lib.Join
import Derived.Lib.UnsafeStr
import Derived.Laws.BytesArg
import Derived.Test.YtcohfbdhdngplaaDoorCoTree
import Derived.Deep.RegionLaw
import Derived.Deep.AppendLies
/-
  Proved: impl.nodeOf says which of the five kinds a type's root has (nil if it has none of their forms), and leaves the memory that was there as it was.
-/
namespace Go.Proofs.YtcohfbdhdngplaaDoor
open Go.RowKit

theorem below_drewN {B : Nat} {a w : World} (h : Below B a w) (n : Nat) : Below B a (w.drewN n) := ⟨h.os, h.tape, h.output, h.size, h.block⟩
/-- What nodeOf gives for a root of kind k with the parts ts. -/
def NodeAt (w : World) (d : Nat) (n : Value) (k : Int) (ts : List Ty) : Prop :=
  (kindOk k ts.length = false ∧ n = .nilIface) ∨
  (kindOk k ts.length = true ∧ ts = [] ∧ ((k = 1 ∧ n = .iface 158 (.agg #[])) ∨ (k = 2 ∧ n = .iface 159 (.agg #[])) ∨ (k = 3 ∧ n = .iface 160 (.agg #[])))) ∨
  (kindOk k ts.length = true ∧ ∃ t1 t2 k1 s1 k2 s2, ts = [t1, t2] ∧ TyAt w d (.agg #[.int .i64 k1, s1]) t1 ∧ TyAt w d (.agg #[.int .i64 k2, s2]) t2 ∧
    ((k = 4 ∧ n = .iface 162 (.agg #[.int .i64 k1, s1, .int .i64 k2, s2])) ∨ (k = 5 ∧ n = .iface 164 (.agg #[.int .i64 k1, s1, .int .i64 k2, s2]))))
def NodeEnd (w0 w : World) (d : Nat) (k : Int) (ts : List Ty) (e : Ending) (w' : World) : Prop :=
  ∃ n, e = .returned n ∧ NodeAt w0 d n k ts ∧ Below w.heap.size w w'
theorem node_bad {w0 w w' : World} {d : Nat} {k : Int} {ts : List Ty} (h : kindOk k ts.length = false) (hb : Below w.heap.size w w') : NodeEnd w0 w d k ts (.returned .nilIface) w' :=
  ⟨_, rfl, Or.inl ⟨h, rfl⟩, hb⟩
theorem two_of {d : Nat} {w : World} {ts : List Ty} {a : Option Addr} (hl : ts.length = 2)
    (hat : ∀ j (h : j < ts.length), ∃ b off c0 c1, a = some ⟨b, off, none⟩ ∧ b < w.heap.size ∧ w.cell? ⟨b, off + j * 2, none⟩ = some c0 ∧ w.cell? ⟨b, off + j * 2 + 1, none⟩ = some c1 ∧ TyAt w d (.agg #[c0, c1]) ts[j]) :
    ∃ t1 t2 k1 s1 n1 c1 k2 s2 n2 c2 b off, ts = [t1, t2] ∧ a = some ⟨b, off, none⟩ ∧ b < w.heap.size ∧ w.cell? ⟨b, off, none⟩ = some (.int .i64 k1) ∧ w.cell? ⟨b, off + 1, none⟩ = some (.slice s1 n1 c1) ∧ w.cell? ⟨b, off + 2, none⟩ = some (.int .i64 k2) ∧ w.cell? ⟨b, off + 3, none⟩ = some (.slice s2 n2 c2) ∧
      TyAt w d (.agg #[.int .i64 k1, .slice s1 n1 c1]) t1 ∧ TyAt w d (.agg #[.int .i64 k2, .slice s2 n2 c2]) t2 := by
  match ts, hl, hat with
  | [t1, t2], _, hat =>
    obtain ⟨b, off, x0, x1, rfl, hbl, h0, h1, ht1⟩ := hat 0 (by simp)
    obtain ⟨b', off', y0, y1, he, _, h2, h3, ht2⟩ := hat 1 (by simp)
    cases he
    obtain ⟨k1, s1, n1, c1, rfl, rfl⟩ := at_parts ht1
    obtain ⟨k2, s2, n2, c2, rfl, rfl⟩ := at_parts ht2
    exact ⟨t1, t2, k1, s1, n1, c1, k2, s2, n2, c2, b, off, rfl, rfl, hbl, by simpa using h0, by simpa using h1, by simpa using h2, by simpa [Nat.add_assoc] using h3, ht1, ht2⟩

set_option maxRecDepth 100000 in
set_option maxHeartbeats 2000000 in
theorem implNode (w0 : World) (d : Nat) (v : Value) (kd : Int) (ts : List Ty) (w : World) (h : TyAt w0 (d + 1) v (.node kd ts)) (hw : Below w0.heap.size w0 w) (hsz : ts.length ≤ 1152921504606846976) :
    Calls Tryd.prog 141 #[v] w (NodeEnd w0 w d kd ts) := by
  have HW := Lib.hid hw; clear hw
  obtain ⟨sl, rfl, hk0, hk1, a, cap, rfl, hcap, hcap2, hat⟩ := h
  have HAT := Lib.hid hat; clear hat
  obtain ⟨n, hn⟩ : ∃ n, n = ts.length := ⟨_, rfl⟩
  have HN := Lib.hid hn
  rw [← hn] at hcap hsz ⊢
  clear hn
  by_cases q1 : kd = 1
  · subst q1
    by_cases z : n = 0
    · subst z
      go_enter Tryd.func141, Tryd.ntmps141
      go_wp2_with fail
      go_ret
      have hts : ts = [] := List.eq_nil_of_length_eq_zero HN.out.symm
      exact ⟨_, rfl, Or.inr (Or.inl ⟨by rw [hts]; rfl, hts, Or.inl ⟨rfl, rfl⟩⟩), below_alloc _ _⟩
    · have z2 : ¬ ((n : Int) = 0) := by omega
      go_enter Tryd.func141, Tryd.ntmps141
      go_wp2_with fail
      go_ret
      exact node_bad (by rw [← HN.out]; simp [kindOk, z]) (below_alloc _ _)
  by_cases q2 : kd = 2
  · subst q2
    by_cases z : n = 0
    · subst z
      go_enter Tryd.func141, Tryd.ntmps141
      go_wp2_with fail
      go_ret
      have hts : ts = [] := List.eq_nil_of_length_eq_zero HN.out.symm
      exact ⟨_, rfl, Or.inr (Or.inl ⟨by rw [hts]; rfl, hts, Or.inr (Or.inl ⟨rfl, rfl⟩)⟩), below_alloc _ _⟩
    · have z2 : ¬ ((n : Int) = 0) := by omega
      go_enter Tryd.func141, Tryd.ntmps141
      go_wp2_with fail
      go_ret
      exact node_bad (by rw [← HN.out]; simp [kindOk, z]) (below_alloc _ _)
  by_cases q3 : kd = 3
  · subst q3
    by_cases z : n = 0
    · subst z
      go_enter Tryd.func141, Tryd.ntmps141
      go_wp2_with fail
      go_ret
      have hts : ts = [] := List.eq_nil_of_length_eq_zero HN.out.symm
      exact ⟨_, rfl, Or.inr (Or.inl ⟨by rw [hts]; rfl, hts, Or.inr (Or.inr ⟨rfl, rfl⟩)⟩), below_alloc _ _⟩
    · have z2 : ¬ ((n : Int) = 0) := by omega
      go_enter Tryd.func141, Tryd.ntmps141
      go_wp2_with fail
      go_ret
      exact node_bad (by rw [← HN.out]; simp [kindOk, z]) (below_alloc _ _)
  by_cases q4 : kd = 4
  · subst q4
    by_cases z : n = 2
    · subst z
      obtain ⟨t1, t2, k1, s1, n1, c1, k2, s2, n2, c2, b, off, hts, rfl, hbl0, g0, g1, g2, g3, ht1, ht2⟩ := two_of HN.out.symm HAT.out
      have HTS := Lib.hid hts
      have H1 := Lib.hid ht1
      have H2 := Lib.hid ht2
      clear hts ht1 ht2 HAT
      have hbl := Nat.lt_of_lt_of_le hbl0 HW.out.size
      have h0 := (HW.out.cell (p := ⟨b, off, none⟩) hbl0).trans g0
      have h1 := (HW.out.cell (p := ⟨b, off + 1, none⟩) hbl0).trans g1
      have h2 := (HW.out.cell (p := ⟨b, off + 2, none⟩) hbl0).trans g2
      have h3 := (HW.out.cell (p := ⟨b, off + 3, none⟩) hbl0).trans g3
      clear g0 g1 g2 g3
      have hb2 : ¬ (b = w.heap.size) := by omega
      go_enter Tryd.func141, Tryd.ntmps141
      go_wp2_with fail
      go_quiet (fail)
      go_wp2_with fail
      go_ret
      have X : ∀ nq, Below w.heap.size w ((w.alloc (.cells #[.int .i64 4, .slice (some ⟨b, off, none⟩) 2 cap] 32)).drewN nq) := fun nq => below_drewN (below_alloc _ _) nq
      exact ⟨_, rfl, Or.inr (Or.inr ⟨by rw [HTS.out]; rfl, t1, t2, k1, _, k2, _, HTS.out, H1.out, H2.out, Or.inl ⟨rfl, rfl⟩⟩), X _⟩
    · have z2 : ¬ ((n : Int) = 2) := by omega
      go_enter Tryd.func141, Tryd.ntmps141
      go_wp2_with fail
      go_ret
      exact node_bad (by rw [← HN.out]; simp [kindOk, z]) (below_alloc _ _)
  by_cases q5 : kd = 5
  · subst q5
    by_cases z : n = 2
    · subst z
      obtain ⟨t1, t2, k1, s1, n1, c1, k2, s2, n2, c2, b, off, hts, rfl, hbl0, g0, g1, g2, g3, ht1, ht2⟩ := two_of HN.out.symm HAT.out
      have HTS := Lib.hid hts
      have H1 := Lib.hid ht1
      have H2 := Lib.hid ht2
      clear hts ht1 ht2 HAT
      have hbl := Nat.lt_of_lt_of_le hbl0 HW.out.size
      have h0 := (HW.out.cell (p := ⟨b, off, none⟩) hbl0).trans g0
      have h1 := (HW.out.cell (p := ⟨b, off + 1, none⟩) hbl0).trans g1
      have h2 := (HW.out.cell (p := ⟨b, off + 2, none⟩) hbl0).trans g2
      have h3 := (HW.out.cell (p := ⟨b, off + 3, none⟩) hbl0).trans g3
      clear g0 g1 g2 g3
      have hb2 : ¬ (b = w.heap.size) := by omega
      go_enter Tryd.func141, Tryd.ntmps141
      go_wp2_with fail
      go_quiet (fail)
      go_wp2_with fail
      go_ret
      have X : ∀ nq, Below w.heap.size w ((w.alloc (.cells #[.int .i64 5, .slice (some ⟨b, off, none⟩) 2 cap] 32)).drewN nq) := fun nq => below_drewN (below_alloc _ _) nq
      exact ⟨_, rfl, Or.inr (Or.inr ⟨by rw [HTS.out]; rfl, t1, t2, k1, _, k2, _, HTS.out, H1.out, H2.out, Or.inr ⟨rfl, rfl⟩⟩), X _⟩
    · have z2 : ¬ ((n : Int) = 2) := by omega
      go_enter Tryd.func141, Tryd.ntmps141
      go_wp2_with fail
      go_ret
      exact node_bad (by rw [← HN.out]; simp [kindOk, z]) (below_alloc _ _)
  go_enter Tryd.func141, Tryd.ntmps141
  go_wp2_with fail
  go_ret
  exact node_bad (by rw [← HN.out]; simp [kindOk, q1, q2, q3, q4, q5]) (below_alloc _ _)
end Go.Proofs.YtcohfbdhdngplaaDoor
/-
  Proved: plain facts on trees that own their blocks, with the blocks' bounds.
-/
namespace Go.Proofs.YtcohfbdhdngplaaDoor
open Go.RowKit

def OwnIn (w : World) (d : Nat) (v : Value) (t : Ty) (lo hi : Nat) : Prop := ∃ fp, TyOwn w d v t fp ∧ Fp lo hi fp ∧ hi ≤ w.heap.size
theorem OwnIn.at_ {w : World} {d : Nat} {v : Value} {t : Ty} {lo hi : Nat} (h : OwnIn w d v t lo hi) : TyAt w d v t := by obtain ⟨fp, h, _⟩ := h; exact TyOwn.at_ h
theorem OwnIn.below {w w' : World} {d : Nat} {v : Value} {t : Ty} {lo hi : Nat} (h : OwnIn w d v t lo hi) (hb : Below w.heap.size w w') : OwnIn w' d v t lo hi := by
  obtain ⟨fp, h, hf, hz⟩ := h
  exact ⟨fp, h.kept hb.size fun b hbf => hb.block b (Nat.lt_of_lt_of_le (hf.2 b hbf).2 hz), hf, Nat.le_trans hz hb.size⟩
theorem OwnIn.of {w0 w : World} {d : Nat} {v : Value} {t : Ty} {fp : List Nat} {lo : Nat} (h : TyOwn w d v t fp) (hf : Fp w0.heap.size w.heap.size fp) (hlo : lo ≤ w0.heap.size) : OwnIn w d v t lo w.heap.size :=
  ⟨fp, h, hf.mono hlo (Nat.le_refl _), Nat.le_refl _⟩
/-- All old blocks but those from lo up to hi are as they were. -/
def Kept (lo hi : Nat) (w w' : World) : Prop := w.heap.size ≤ w'.heap.size ∧ ∀ b, b < w.heap.size → (b < lo ∨ hi ≤ b) → w'.heap[b]? = w.heap[b]?
theorem OwnIn.beside {w w' : World} {d : Nat} {v : Value} {t : Ty} {lo hi lo2 hi2 : Nat} (h : OwnIn w d v t lo hi) (k : Kept lo2 hi2 w w') (hd : hi ≤ lo2 ∨ hi2 ≤ lo) : OwnIn w' d v t lo hi := by
  obtain ⟨fp, h, hf, hz⟩ := h
  exact ⟨fp, h.kept k.1 fun b hbf => k.2 b (by have := (hf.2 b hbf).2; omega) (by have := hf.2 b hbf; omega), hf, Nat.le_trans hz k.1⟩
theorem BoxAt.beside {w w' : World} {p lo hi : Nat} {cs : Array Value} (h : BoxAt w p cs) (k : Kept lo hi w w') (hd : p < lo ∨ hi ≤ p) : BoxAt w' p cs :=
  BoxAt.kept h k.1 (k.2 p h.1 hd)
end Go.Proofs.YtcohfbdhdngplaaDoor
/-
  Proved: plain facts on four cells that lie behind one another, and on kinds.
-/
namespace Go.Proofs.YtcohfbdhdngplaaDoor
open Go.RowKit

/-- Four cells that lie behind one another. -/
def FourAt (w : World) (b off : Nat) (c0 c1 c2 c3 : Value) : Prop :=
  b < w.heap.size ∧ w.cell? ⟨b, off, none⟩ = some c0 ∧ w.cell? ⟨b, off + 1, none⟩ = some c1 ∧ w.cell? ⟨b, off + 2, none⟩ = some c2 ∧ w.cell? ⟨b, off + 3, none⟩ = some c3
theorem FourAt.below {w w' : World} {b off : Nat} {c0 c1 c2 c3 : Value} (h : FourAt w b off c0 c1 c2 c3) (hb : Below w.heap.size w w') : FourAt w' b off c0 c1 c2 c3 := by
  obtain ⟨hl, h0, h1, h2, h3⟩ := h
  exact ⟨Nat.lt_of_lt_of_le hl hb.size, (hb.cell (p := ⟨b, off, none⟩) hl).trans h0, (hb.cell (p := ⟨b, off + 1, none⟩) hl).trans h1, (hb.cell (p := ⟨b, off + 2, none⟩) hl).trans h2, (hb.cell (p := ⟨b, off + 3, none⟩) hl).trans h3⟩
theorem kind_cases {k : Int} {n : Nat} (h : kindOk k n = true) : (k = 1 ∧ n = 0) ∨ (k = 2 ∧ n = 0) ∨ (k = 3 ∧ n = 0) ∨ (k = 4 ∧ n = 2) ∨ (k = 5 ∧ n = 2) := by
  unfold kindOk at h
  split at h
  · have := of_decide_eq_true h; omega
  · split at h
    · have := of_decide_eq_true h; omega
    · cases h
theorem FourAt.stored {w : World} {b off q j : Nat} {u c0 c1 c2 c3 : Value} (h : FourAt w b off c0 c1 c2 c3) (hne : b ≠ q) : FourAt (w.setCell ⟨q, j, none⟩ u) b off c0 c1 c2 c3 := by
  obtain ⟨hl, h0, h1, h2, h3⟩ := h
  have e : (w.setCell ⟨q, j, none⟩ u).heap[b]? = w.heap[b]? := heap_setCell_other _ _ _ _ (by simpa using hne)
  refine ⟨by simpa using hl, ?_, ?_, ?_, ?_⟩
  · rw [World.cell?_of_block (a := ⟨b, off, none⟩) e]; exact h0
  · rw [World.cell?_of_block (a := ⟨b, off + 1, none⟩) e]; exact h1
  · rw [World.cell?_of_block (a := ⟨b, off + 2, none⟩) e]; exact h2
  · rw [World.cell?_of_block (a := ⟨b, off + 3, none⟩) e]; exact h3
theorem OwnIn.stored {w : World} {d : Nat} {v : Value} {t : Ty} {lo hi q j : Nat} {u : Value} (h : OwnIn w d v t lo hi) (hq : q < lo) : OwnIn (w.setCell ⟨q, j, none⟩ u) d v t lo hi := by
  obtain ⟨fp, h, hf, hz⟩ := h
  refine ⟨fp, h.kept (by simp) fun b hb => ?_, hf, by simpa using hz⟩
  have := (hf.2 b hb).1
  exact heap_setCell_other _ _ _ _ (by simp; omega)
end Go.Proofs.YtcohfbdhdngplaaDoor
/-
  Proved: a statement whose order Go leaves open, whose operations only read old memory and whose calls leave old memory as it was and answer with plain values, may be walked once, in the order of the text.
-/
namespace Go.Proofs.YtcohfbdhdngplaaDoor
open Go.RowKit

/-- A world that has grown out of w: below B all is as it was. -/
structure Grown (B : Nat) (w : World) where
  val : World
  old : Below B w val
instance (B : Nat) (w : World) : Nonempty (Grown B w) := ⟨⟨w, Below.refl _ _⟩⟩
theorem wp_region_grown {P : Program} {id : Nat} {Q : Exit → Act → World → Prop} {a : Act} {w : World} {l : List Oper} (B : Nat) (hm : P.follows .mixedOrders = true) (hB : Region.lexB .any l.toArray = true)
    (h : wpQuiet P l.toArray (fun w' => ∃ n : Grown B w, w' = n.val) (fun a' => ∀ w', (∃ n : Grown B w, w' = n.val) → Q .normal a' w') l a) : (Code.region id l.toArray true).wp P Q a w :=
  wp_region_quiet (C := fun w' => ∃ n : Grown B w, w' = n.val) hm hB ⟨⟨{ w with drawn := w.drawn + 1 }, (Below.refl _ _).drew⟩, rfl⟩ (by simpa using h)
theorem grown_of {P : Program} {f : FuncId} {args : Array Value} {B : Nat} {w : World} {n : Grown B w} {v : Value} (hB : B ≤ w.heap.size)
    (h : Calls P f args n.val fun e w' => e = .returned v ∧ Below n.val.heap.size n.val w') : Calls P f args n.val fun e w'' => e = .returned v ∧ ∃ m : Grown B w, w'' = m.val :=
  h.mono fun _ w'' ⟨he, hb⟩ => ⟨he, ⟨w'', below_thru n.old hB hb⟩, rfl⟩
theorem BoxAt.grown {w : World} {p : Nat} {cs : Array Value} (h : BoxAt w p cs) (n : Grown w.heap.size w) : BoxAt n.val p cs := h.below n.old
end Go.Proofs.YtcohfbdhdngplaaDoor
/-
  Proved: what joining the first strings of a list gives, one by one, and how long it is. Plain mathematics, no program.
-/
namespace Go.Proofs.YtcohfbdhdngplaaDoor
open Go.RowKit

/-- The first k strings, joined. -/
def joined (ss : List ByteArray) (sep : ByteArray) (k : Nat) : List UInt8 := Lib.join ((ss.take k).map (·.data.toList)) sep.data.toList
theorem join_snoc (x : List UInt8) (r : List (List UInt8)) (y sep : List UInt8) : Lib.join (x :: r ++ [y]) sep = Lib.join (x :: r) sep ++ sep ++ y := by
  rw [List.cons_append, Lib.join_cons, Lib.join_cons]
  have := Lib.joinTail_take_succ sep (r ++ [y]) r.length y (by simp)
  rw [List.take_of_length_le (by simp), List.take_left] at this
  rw [this]; simp
theorem joined_zero (ss : List ByteArray) (sep : ByteArray) : joined ss sep 0 = [] := rfl
theorem joined_one (ss : List ByteArray) (sep : ByteArray) (h : 0 < ss.length) : joined ss sep 1 = ss[0].data.toList := by
  unfold joined
  rw [show ss.take 1 = [ss[0]] from by rw [List.take_one]; simp [List.head?_eq_getElem?, h]]
  exact Lib.join_one _ _
theorem joined_next (ss : List ByteArray) (sep : ByteArray) (k : Nat) (h0 : 0 < k) (h : k < ss.length) : joined ss sep (k + 1) = joined ss sep k ++ sep.data.toList ++ ss[k].data.toList := by
  unfold joined
  rw [List.take_succ_eq_append_getElem h, List.map_append]
  cases hx : (ss.take k).map (·.data.toList) with
  | nil =>
    have := congrArg List.length hx
    rw [List.length_map, List.length_take, List.length_nil] at this; omega
  | cons x r => exact join_snoc x r _ _
theorem joined_all (ss : List ByteArray) (sep : ByteArray) : joined ss sep ss.length = Lib.join (ss.map (·.data.toList)) sep.data.toList := by
  unfold joined; rw [List.take_length]
theorem total_le (ss : List ByteArray) (k : Nat) : total (ss.take k) ≤ total ss := by
  induction ss generalizing k with
  | nil => simp
  | cons s r ih =>
    cases k with
    | zero => simp [total]
    | succ k => simp only [List.take_succ_cons, total]; have := ih k; omega
theorem size_le (ss : List ByteArray) (k : Nat) (h : k < ss.length) : ss[k].size ≤ total ss := by
  have h1 := total_take ss k h
  have h2 := total_le ss (k + 1)
  omega
theorem len_toList (s : ByteArray) : s.data.toList.length = s.size := by rw [Array.length_toList]; rfl
theorem joined_len (ss : List ByteArray) (sep : ByteArray) : ∀ k, k ≤ ss.length → (joined ss sep k).length ≤ total (ss.take k) + k * sep.size
  | 0, _ => by rw [joined_zero]; simp
  | k + 1, h => by
    have ih := joined_len ss sep k (by omega)
    have ht := total_take ss k (by omega)
    have hlt : k < ss.length := by omega
    by_cases h0 : 0 < k
    · rw [joined_next ss sep k h0 hlt, ht, Nat.succ_mul]
      simp only [List.length_append, len_toList]; omega
    · obtain rfl : k = 0 := by omega
      rw [joined_one ss sep (by omega), ht, len_toList]; omega
theorem joined_small (ss : List ByteArray) (sep : ByteArray) (k : Nat) (hk : k ≤ ss.length) (hn : ss.length ≤ 1048576) (ht : total ss ≤ 1073741824) (hs : sep.size ≤ 1048576) : (joined ss sep k).length ≤ 1100585369600 := by
  have h1 := joined_len ss sep k hk
  have h2 := total_le ss k
  have h3 : k * sep.size ≤ 1048576 * 1048576 := Nat.mul_le_mul (by omega) hs
  omega

/-- What joining ends in. -/
def JoinEnd (ss : List ByteArray) (sep : ByteArray) (w : World) (e : Ending) (w' : World) : Prop :=
  e = .returned (.string ⟨(Lib.join (ss.map (·.data.toList)) sep.data.toList).toArray⟩) ∧ Below w.heap.size w w'

end Go.Proofs.YtcohfbdhdngplaaDoor
/-
  Proved: plain facts on the texts of expressions; no program.
-/
namespace Go.Proofs.YtcohfbdhdngplaaDoor
open Go.RowKit

def numB (n : Int) : ByteArray := ⟨(Lib.itoa n).toArray⟩
theorem numB_size (n : Int) (h0 : -9223372036854775808 ≤ n) (h1 : n ≤ 9223372036854775807) : (numB n).size ≤ 21 := by
  show (Lib.itoa n).toArray.size ≤ 21
  rw [List.size_toArray]
  exact Lib.itoa_length_le n h0 h1
def sepB (k : Int) : ByteArray := if k = 4 then ⟨#[32]⟩ else if k = 6 then ⟨#[43]⟩ else if k = 7 then ⟨#[60]⟩ else ⟨#[44]⟩
/-- The text of a node with these texts of its parts. -/
def exSay (k : Int) (nm fs ts : ByteArray) (n : Int) (xs : List ByteArray) : ByteArray :=
  if k = 1 then ⟨#[63]⟩ ++ fs
  else if k = 2 then nm
  else if k = 5 then fs
  else if k = 8 then (if n = 1 then ⟨#[35, 116]⟩ else ⟨#[35, 102]⟩)
  else match xs with
    | [x] => if k = 3 then ⟨#[40, 92]⟩ ++ nm ++ ⟨#[58]⟩ ++ ts ++ ⟨#[46]⟩ ++ x ++ ⟨#[41]⟩
        else if k = 11 then ⟨#[40, 102, 115, 116, 32]⟩ ++ x ++ ⟨#[41]⟩
        else if k = 12 then ⟨#[40, 115, 110, 100, 32]⟩ ++ x ++ ⟨#[41]⟩
        else if k = 13 then ⟨#[40]⟩ ++ x ++ ⟨#[58]⟩ ++ ts ++ ⟨#[41]⟩
        else ⟨#[123]⟩ ++ fs ++ ⟨#[32]⟩ ++ x ++ ⟨#[125]⟩
    | [x, y] => ⟨#[40]⟩ ++ x ++ sepB k ++ y ++ ⟨#[41]⟩
    | [x, y, z] => ⟨#[40, 105, 102, 32]⟩ ++ (x ++ ⟨#[32]⟩ ++ y ++ ⟨#[32]⟩ ++ z) ++ ⟨#[41]⟩
    | _ => ⟨#[]⟩
mutual
def Ex.text : Ex → ByteArray
  | .node k nm n ty es => exSay k nm (numB n) ty.text n (Ex.texts es)
def Ex.texts : List Ex → List ByteArray
  | [] => []
  | e :: r => e.text :: Ex.texts r
end
theorem Ex.texts_length (es : List Ex) : (Ex.texts es).length = es.length := by
  induction es with
  | nil => simp [Ex.texts]
  | cons a r ih => simp [Ex.texts, ih]
theorem Ex.texts_get (es : List Ex) : ∀ (k : Nat) (h : k < es.length) (h2 : k < (Ex.texts es).length), (Ex.texts es)[k] = es[k].text := by
  induction es with
  | nil => intro k h; simp at h
  | cons a r ih =>
    intro k h h2
    cases k with
    | zero => simp [Ex.texts]
    | succ k => simp only [Ex.texts, List.getElem_cons_succ]; exact ih k (by simpa using h) _
theorem Ex.texts_take (es : List Ex) : ∀ (k : Nat) (h : k < es.length), Ex.texts (es.take (k + 1)) = Ex.texts (es.take k) ++ [es[k].text] := by
  induction es with
  | nil => intro k h; simp at h
  | cons a r ih =>
    intro k h
    cases k with
    | zero => simp [Ex.texts]
    | succ k => simp only [List.take_succ_cons, Ex.texts, List.getElem_cons_succ, List.cons_append]; rw [ih k (by simpa using h)]
theorem sizes_one (a : UInt8) : (ByteArray.mk #[a]).size = 1 := rfl
theorem sizes_two (a b : UInt8) : (ByteArray.mk #[a, b]).size = 2 := rfl
theorem sizes_four (a b c d : UInt8) : (ByteArray.mk #[a, b, c, d]).size = 4 := rfl
theorem sizes_five (a b c d e : UInt8) : (ByteArray.mk #[a, b, c, d, e]).size = 5 := rfl
theorem sepB_size (k : Int) : (sepB k).size = 1 := by
  unfold sepB
  split
  · rfl
  · split
    · rfl
    · split <;> rfl
theorem exSay_size (k : Int) (nm fs ts : ByteArray) (n : Int) (xs : List ByteArray) (hf : fs.size ≤ 21) : (exSay k nm fs ts n xs).size ≤ 30 + nm.size + ts.size + total xs := by
  unfold exSay
  split
  · rw [ByteArray.size_append, sizes_one]; omega
  · split
    · omega
    · split
      · omega
      · split
        · split <;> (rw [sizes_two]; omega)
        · split
          · repeat' split
            all_goals (simp only [ByteArray.size_append, sizes_one, sizes_two, sizes_five, total]; omega)
          · simp only [ByteArray.size_append, sizes_one, sepB_size, total]; omega
          · simp only [ByteArray.size_append, sizes_one, sizes_four, total]; omega
          · show 0 ≤ _; omega
theorem form_num {k : Int} {nm : ByteArray} {n : Int} {ty : Ty} {es : List Ex} (h : (Ex.node k nm n ty es).form = true) : 0 ≤ n ∧ n ≤ 999 := by
  simp only [Ex.form, fitsB, Bool.and_eq_true, numFor] at h
  have h2 := h.2.2.2.2.1
  split at h2
  · simp at h2; omega
  · split at h2
    · simp at h2; omega
    · split at h2
      · simp at h2; omega
      · simp at h2; omega
theorem form_parts {k : Int} {nm : ByteArray} {n : Int} {ty : Ty} {es : List Ex} (h : (Ex.node k nm n ty es).form = true) : Ex.forms es = true ∧ (es.length : Int) = arity k ∧ typeFor k ty = true := by
  simp only [Ex.form, fitsB, Bool.and_eq_true, decide_eq_true_eq] at h
  exact ⟨h.1, h.2.2.1, h.2.2.2.2.2⟩
theorem note_form {t : Ty} (h : t.note = true) : t.form = true ∧ t.valid = true := by
  simp only [Ty.note, Ty.valid, Bool.and_eq_true] at h
  refine ⟨h.1.2, ?_⟩
  simp only [Ty.valid, Bool.and_eq_true]
  exact h.1
mutual
theorem Ex.text_size : ∀ e : Ex, e.form = true → e.text.size ≤ 40 * (e.bulk + 1)
  | .node k nm n ty es, h => by
    have hn := form_num h
    have h2 := Ex.texts_size es (form_parts h).1
    have h3 := exSay_size k nm (numB n) ty.text n (Ex.texts es) (numB_size n (by omega) (by omega))
    have h4 := ty.text_size
    have h5 := ty.size_pos
    simp only [Ex.text, Ex.bulk]
    omega
theorem Ex.texts_size : ∀ es : List Ex, Ex.forms es = true → total (Ex.texts es) ≤ 40 * Ex.bulks es
  | [], _ => by simp [Ex.texts, total]
  | e :: r, h => by
    simp only [Ex.forms, Bool.and_eq_true] at h
    have h1 := Ex.text_size e h.1
    have h2 := Ex.texts_size r h.2
    simp only [Ex.texts, total, Ex.bulks]
    omega
end
theorem append_ext {a b c : ByteArray} : (a ++ b) ++ c = a ++ (b ++ c) := ByteArray.append_assoc
theorem join_two {xs : List ByteArray} {sep : ByteArray} (h : xs.length = 2) : (⟨(Lib.join (xs.map (·.data.toList)) sep.data.toList).toArray⟩ : ByteArray) = (xs[0]'(by omega)) ++ sep ++ (xs[1]'(by omega)) := by
  match xs, h with
  | [x, y], _ =>
    apply ByteArray.ext
    apply Array.toList_inj.1
    simp [Lib.join, ByteArray.data_append]
theorem join_three {xs : List ByteArray} {sep : ByteArray} (h : xs.length = 3) : (⟨(Lib.join (xs.map (·.data.toList)) sep.data.toList).toArray⟩ : ByteArray) = (xs[0]'(by omega)) ++ sep ++ (xs[1]'(by omega)) ++ sep ++ (xs[2]'(by omega)) := by
  match xs, h with
  | [x, y, z], _ =>
    apply ByteArray.ext
    apply Array.toList_inj.1
    simp [Lib.join, ByteArray.data_append]
/-- What FormatExpr gives. -/
def Ex.shown (e : Ex) : ByteArray := if e.valid = true then e.text else ⟨#[]⟩
theorem shown_bad {e : Ex} (h : e.valid = false) : e.shown = ⟨#[]⟩ := if_neg (by simp [h])
theorem shown_good {e : Ex} (h : e.valid = true) : e.shown = e.text := if_pos h
theorem shown_size (e : Ex) : e.shown.size ≤ 40 * (e.bulk + 1) := by
  unfold Ex.shown
  split
  · rename_i h
    simp only [Ex.valid, Bool.and_eq_true] at h
    exact e.text_size h.2.2
  · exact Nat.zero_le _
end Go.Proofs.YtcohfbdhdngplaaDoor
/-
  Proved: plain facts on the texts of core expressions; no program.
-/
namespace Go.Proofs.YtcohfbdhdngplaaDoor
open Go.RowKit

def joinB (xs : List ByteArray) (sep : ByteArray) : ByteArray := ⟨(Lib.join (xs.map (·.data.toList)) sep.data.toList).toArray⟩
def coSep (k : Int) : ByteArray := if k = 5 then ⟨#[32]⟩ else if k = 7 then ⟨#[43]⟩ else if k = 8 then ⟨#[60]⟩ else ⟨#[44]⟩
/-- The text of a node with these texts of its parts. -/
def coSay (k : Int) (nm fs fr ts : ByteArray) (n : Int) (xs : List ByteArray) (env : ByteArray) : ByteArray :=
  if k = 1 then ⟨#[63]⟩ ++ fs ++ env
  else if k = 3 then nm
  else if k = 6 then fs
  else if k = 9 then (if n = 1 then ⟨#[35, 116]⟩ else ⟨#[35, 102]⟩)
  else match xs with
    | [x] => if k = 2 then ⟨#[123]⟩ ++ fs ++ ⟨#[32]⟩ ++ x ++ ⟨#[125]⟩ ++ env
        else if k = 4 then ⟨#[40, 92]⟩ ++ nm ++ ⟨#[58]⟩ ++ ts ++ ⟨#[46]⟩ ++ x ++ ⟨#[41]⟩
        else if k = 12 then ⟨#[40, 102, 115, 116, 32]⟩ ++ x ++ ⟨#[41]⟩
        else if k = 13 then ⟨#[40, 115, 110, 100, 32]⟩ ++ x ++ ⟨#[41]⟩
        else if k = 14 then ⟨#[60]⟩ ++ x ++ ⟨#[58]⟩ ++ fr ++ ⟨#[61, 62]⟩ ++ ts ++ ⟨#[62]⟩
        else ⟨#[60]⟩ ++ x ++ ⟨#[58]⟩ ++ fr ++ ⟨#[33]⟩ ++ ts ++ ⟨#[62]⟩
    | [x, y] => ⟨#[40]⟩ ++ x ++ coSep k ++ y ++ ⟨#[41]⟩
    | [x, y, z] => ⟨#[40, 105, 102, 32]⟩ ++ (x ++ ⟨#[32]⟩ ++ y ++ ⟨#[32]⟩ ++ z) ++ ⟨#[41]⟩
    | _ => ⟨#[]⟩
def bindsB : List ByteArray → List ByteArray → List ByteArray
  | a :: r, x :: q => (a ++ ⟨#[61]⟩ ++ x) :: bindsB r q
  | _, _ => []
def envSay (ns xs : List ByteArray) : ByteArray := ⟨#[91]⟩ ++ joinB (bindsB ns xs) ⟨#[44]⟩ ++ ⟨#[93]⟩
mutual
def Co.text : Co → ByteArray
  | .node k nm n fr ty es ns vs => coSay k nm (numB n) fr.text ty.text n (Co.texts es) (envSay ns (Co.texts vs))
def Co.texts : List Co → List ByteArray
  | [] => []
  | e :: r => e.text :: Co.texts r
end
theorem Co.texts_length (es : List Co) : (Co.texts es).length = es.length := by
  induction es with
  | nil => simp [Co.texts]
  | cons a r ih => simp [Co.texts, ih]
theorem Co.texts_get (es : List Co) : ∀ (k : Nat) (h : k < es.length) (h2 : k < (Co.texts es).length), (Co.texts es)[k] = es[k].text := by
  induction es with
  | nil => intro k h; simp at h
  | cons a r ih =>
    intro k h h2
    cases k with
    | zero => simp [Co.texts]
    | succ k => simp only [Co.texts, List.getElem_cons_succ]; exact ih k (by simpa using h) _
theorem Co.texts_take (es : List Co) : ∀ (k : Nat) (h : k < es.length), Co.texts (es.take (k + 1)) = Co.texts (es.take k) ++ [es[k].text] := by
  induction es with
  | nil => intro k h; simp at h
  | cons a r ih =>
    intro k h
    cases k with
    | zero => simp [Co.texts]
    | succ k => simp only [List.take_succ_cons, Co.texts, List.getElem_cons_succ, List.cons_append]; rw [ih k (by simpa using h)]
theorem bindsB_length : ∀ (ns xs : List ByteArray), ns.length = xs.length → (bindsB ns xs).length = xs.length
  | [], [], _ => rfl
  | [], _ :: _, h => by simp at h
  | _ :: _, [], h => by simp at h
  | a :: r, x :: q, h => by simp only [bindsB, List.length_cons]; rw [bindsB_length r q (by simpa using h)]
theorem bindsB_get : ∀ (ns xs : List ByteArray) (k : Nat) (h1 : k < ns.length) (h2 : k < xs.length) (h : k < (bindsB ns xs).length), (bindsB ns xs)[k] = ns[k] ++ ⟨#[61]⟩ ++ xs[k]
  | [], _, _, h, _, _ => by simp at h
  | _ :: _, [], _, _, h, _ => by simp at h
  | a :: r, x :: q, 0, _, _, _ => by simp [bindsB]
  | a :: r, x :: q, k + 1, h1, h2, h => by
    simp only [bindsB, List.getElem_cons_succ]
    exact bindsB_get r q k _ _ _
theorem bindsB_total : ∀ (ns xs : List ByteArray), total (bindsB ns xs) ≤ txs ns + total xs + xs.length
  | [], _ => by simp [bindsB, total]
  | _ :: _, [] => by simp [bindsB, total]
  | a :: r, x :: q => by
    have := bindsB_total r q
    simp only [bindsB, total, txs, ByteArray.size_append, sizes_one, List.length_cons]
    omega
theorem bindsB_few : ∀ (ns xs : List ByteArray), (bindsB ns xs).length ≤ xs.length
  | [], _ => by simp [bindsB]
  | _ :: _, [] => by simp [bindsB]
  | a :: r, x :: q => by have := bindsB_few r q; simp only [bindsB, List.length_cons]; omega
theorem joinB_size (xs : List ByteArray) (c : UInt8) : (joinB xs ⟨#[c]⟩).size ≤ total xs + xs.length := by
  have h := joined_len xs ⟨#[c]⟩ xs.length (Nat.le_refl _)
  rw [joined_all, List.take_length, sizes_one, Nat.mul_one] at h
  show (Lib.join _ _).toArray.size ≤ _
  rw [List.size_toArray]
  exact h
theorem envSay_size (ns xs : List ByteArray) : (envSay ns xs).size ≤ 2 + txs ns + total xs + 2 * xs.length := by
  have h1 := joinB_size (bindsB ns xs) 44
  have h2 := bindsB_total ns xs
  have h3 := bindsB_few ns xs
  simp only [envSay, ByteArray.size_append, sizes_one]
  omega
theorem coSep_size (k : Int) : (coSep k).size = 1 := by
  unfold coSep
  split
  · rfl
  · split
    · rfl
    · split <;> rfl
theorem coSay_size (k : Int) (nm fs fr ts : ByteArray) (n : Int) (xs : List ByteArray) (env : ByteArray) (hf : fs.size ≤ 21) : (coSay k nm fs fr ts n xs env).size ≤ 30 + nm.size + fr.size + ts.size + total xs + env.size := by
  unfold coSay
  split
  · simp only [ByteArray.size_append, sizes_one]; omega
  · split
    · omega
    · split
      · omega
      · split
        · split <;> (rw [sizes_two]; omega)
        · split
          · repeat' split
            all_goals (simp only [ByteArray.size_append, sizes_one, sizes_two, sizes_five, total]; omega)
          · simp only [ByteArray.size_append, sizes_one, coSep_size, total]; omega
          · simp only [ByteArray.size_append, sizes_one, sizes_four, total]; omega
          · show 0 ≤ _; omega
theorem co_num {k : Int} {nm : ByteArray} {n : Int} {fr ty : Ty} {es : List Co} {ns : List ByteArray} {vs : List Co} (h : (Co.node k nm n fr ty es ns vs).form = true) :
    Co.forms es = true ∧ Co.forms vs = true ∧ coTypesB k fr ty = true ∧ coNumFor k n = true ∧ (es.length : Int) = coArity k := by
  simp only [Co.form, coFieldsB, Bool.and_eq_true, decide_eq_true_eq] at h
  exact ⟨h.1, h.2.2.1.2.1, h.2.1.2.1, h.2.1.2.2, h.2.2.2⟩
mutual
/-- All numbers are ints. -/
def Co.nums : Co → Prop
  | .node _ _ n _ _ es _ vs => -9223372036854775808 ≤ n ∧ n ≤ 9223372036854775807 ∧ Co.numss es ∧ Co.numss vs
def Co.numss : List Co → Prop
  | [] => True
  | e :: r => e.nums ∧ Co.numss r
end
theorem numss_of : ∀ (es : List Co), (∀ j (h : j < es.length), es[j].nums) → Co.numss es
  | [], _ => by simp only [Co.numss]
  | e :: r, h => by
    simp only [Co.numss]
    exact ⟨h 0 (by simp), numss_of r fun j hj => h (j + 1) (by simpa using hj)⟩
theorem nums_of {w : World} : ∀ (d : Nat) (v : Value) (t : Co), CoAt w d v t → t.nums
  | 0, _, _, h => h.elim
  | d + 1, v, .node k nm n fr ty es ns vs, h => by
    obtain ⟨c3, c4, c5, c6, sl, el, _, _, _, hn0, hn1, _, _, _, ⟨_, _, _, _, _, hat⟩, hln, _, _, _, _, _, hae⟩ := h
    simp only [Co.nums]
    refine ⟨hn0, hn1, numss_of es fun j hj => ?_, numss_of vs fun j hj => ?_⟩
    · obtain ⟨_, _, _, _, _, _, _, _, _, _, _, _, _, _, _, _, _, _, _, _, _, _, hr⟩ := hat j hj
      exact nums_of d _ _ hr
    · obtain ⟨_, _, _, _, _, _, _, _, _, _, _, _, _, _, _, _, _, _, _, _, _, _, _, _, hr⟩ := hae j hj (by omega)
      exact nums_of d _ _ hr
mutual
theorem Co.text_size : ∀ e : Co, (∀ n : Int, -9223372036854775808 ≤ n → n ≤ 9223372036854775807 → (numB n).size ≤ 21) → e.nums → e.text.size + 2 ≤ 80 * (e.bulk + 1)
  | .node k nm n fr ty es ns vs, hq, hn => by
    simp only [Co.nums] at hn
    have h2 := Co.texts_size es hq hn.2.2.1
    have h6 := Co.texts_size vs hq hn.2.2.2
    have h3 := coSay_size k nm (numB n) fr.text ty.text n (Co.texts es) (envSay ns (Co.texts vs)) (hq n hn.1 hn.2.1)
    have h4 := ty.text_size
    have h5 := ty.size_pos
    have h7 := fr.text_size
    have h8 := fr.size_pos
    have h9 := envSay_size ns (Co.texts vs)
    simp only [Co.text, Co.bulk]
    omega
theorem Co.texts_size : ∀ es : List Co, (∀ n : Int, -9223372036854775808 ≤ n → n ≤ 9223372036854775807 → (numB n).size ≤ 21) → Co.numss es → total (Co.texts es) + 2 * (Co.texts es).length ≤ 80 * Co.bulks es
  | [], _, _ => by simp [Co.texts, total]
  | e :: r, hq, h => by
    simp only [Co.numss] at h
    have h1 := Co.text_size e hq h.1
    have h2 := Co.texts_size r hq h.2
    simp only [Co.texts, total, Co.bulks, List.length_cons]
    omega
end
/-- What CoreText gives. -/
def Co.shown (e : Co) : ByteArray := if e.valid = true then e.text else ⟨#[]⟩
theorem coShown_bad {e : Co} (h : e.valid = false) : e.shown = ⟨#[]⟩ := if_neg (by simp [h])
theorem coShown_good {e : Co} (h : e.valid = true) : e.shown = e.text := if_pos h
end Go.Proofs.YtcohfbdhdngplaaDoor
/-
  Proved: plain facts on a row of strings of a call's own.
-/
namespace Go.Proofs.YtcohfbdhdngplaaDoor
open Go.RowKit

/-- Block p holds the strings xs from its beginning on. -/
def ArgsAt (w : World) (p : Nat) (xs : List ByteArray) : Prop := p < w.heap.size ∧ ∀ j (h : j < xs.length), w.cell? ⟨p, j, none⟩ = some (.string xs[j])
theorem ArgsAt.below {w w' : World} {p : Nat} {xs : List ByteArray} (h : ArgsAt w p xs) (hb : Below w.heap.size w w') : ArgsAt w' p xs :=
  ⟨Nat.lt_of_lt_of_le h.1 hb.size, fun j hj => (hb.cell (p := ⟨p, j, none⟩) h.1).trans (h.2 j hj)⟩
theorem ArgsAt.of_own {w : World} {base : Nat} {e : TypeId} {p n c : Nat} {xs : List ByteArray} (h : w.ownsRow base e 1 (.slice (some ⟨p, 0, none⟩) n c) xs.length (xs.map Value.string)) : ArgsAt w p xs :=
  ⟨(h.lt p rfl).2, fun j hj => by
    have := h.cells rfl j (.string xs[j]) (by simp [hj])
    rw [addr_add] at this; simpa using this⟩
/-- One cell of a block that is there. -/
theorem below_qs {B : Nat} {a w : World} (h : Below B a w) (n : Nat) : Below B a (w.drewN n) := ⟨h.os, h.tape, h.output, h.size, h.block⟩
def CellAt (w : World) (b o : Nat) (v : Value) : Prop := b < w.heap.size ∧ w.cell? ⟨b, o, none⟩ = some v
theorem CellAt.below {w w' : World} {b o : Nat} {v : Value} (h : CellAt w b o v) (hb : Below w.heap.size w w') : CellAt w' b o v :=
  ⟨Nat.lt_of_lt_of_le h.1 hb.size, (hb.cell (p := ⟨b, o, none⟩) h.1).trans h.2⟩
theorem strs_pos {w : World} {oa : Option Addr} {n oc : Nat} {xs : List ByteArray} (h : Strs w (.slice oa n oc) xs) (hp : 0 < xs.length) : ∃ b off, oa = some ⟨b, off, none⟩ ∧ ∀ j (hj : j < xs.length), CellAt w b (off + j) (.string xs[j]) := by
  rcases h.parts with ⟨rfl, _⟩ | ⟨_, b, off, cap, hv, _, hb, hc⟩
  · simp at hp
  · injection hv with h1 h2 h3
    exact ⟨b, off, h1, fun j hj => ⟨hb, hc j hj⟩⟩
theorem strs_len {w : World} {oa : Option Addr} {n oc : Nat} {xs : List ByteArray} (h : Strs w (.slice oa n oc) xs) : n = xs.length := by
  obtain ⟨a, c, hv, _⟩ := h
  injection hv with h1 h2 h3
theorem form_bool {nm : ByteArray} {n : Int} {ty : Ty} {es : List Ex} (h : (Ex.node 8 nm n ty es).form = true) : n = 0 ∨ n = 1 := by
  simp only [Ex.form, fitsB, Bool.and_eq_true, numFor] at h
  have h2 := h.2.2.2.2.1
  simp at h2
  omega
theorem two_group {a x s y b : ByteArray} : a ++ x ++ s ++ y ++ b = a ++ (x ++ s ++ y) ++ b := by simp only [ByteArray.append_assoc]
/-- What the text of a node is, kind by kind. -/
theorem text_1 (nm : ByteArray) (n : Int) (ty : Ty) (es : List Ex) : (Ex.node 1 nm n ty es).text = ⟨#[63]⟩ ++ numB n := by simp [Ex.text, exSay]
theorem text_2 (nm : ByteArray) (n : Int) (ty : Ty) (es : List Ex) : (Ex.node 2 nm n ty es).text = nm := by simp [Ex.text, exSay]
theorem text_5 (nm : ByteArray) (n : Int) (ty : Ty) (es : List Ex) : (Ex.node 5 nm n ty es).text = numB n := by simp [Ex.text, exSay]
theorem text_8 (nm : ByteArray) (n : Int) (ty : Ty) (es : List Ex) : (Ex.node 8 nm n ty es).text = if n = 1 then ⟨#[35, 116]⟩ else ⟨#[35, 102]⟩ := by simp [Ex.text, exSay]
theorem xone_of {xs : List ByteArray} (h : xs.length = 1) : xs = [xs[0]'(by omega)] := by
  match xs, h with
  | [x], _ => rfl
theorem xtwo_of {xs : List ByteArray} (h : xs.length = 2) : xs = [xs[0]'(by omega), xs[1]'(by omega)] := by
  match xs, h with
  | [x, y], _ => rfl
theorem xthree_of {xs : List ByteArray} (h : xs.length = 3) : xs = [xs[0]'(by omega), xs[1]'(by omega), xs[2]'(by omega)] := by
  match xs, h with
  | [x, y, z], _ => rfl
theorem text_one (k : Int) (nm : ByteArray) (n : Int) (ty : Ty) (es : List Ex) (h : (Ex.texts es).length = 1) : (Ex.node k nm n ty es).text = exSay k nm (numB n) ty.text n [(Ex.texts es)[0]'(by omega)] := by
  simp only [Ex.text]; rw [← xone_of h]
theorem text_two (k : Int) (nm : ByteArray) (n : Int) (ty : Ty) (es : List Ex) (h : (Ex.texts es).length = 2) : (Ex.node k nm n ty es).text = exSay k nm (numB n) ty.text n [(Ex.texts es)[0]'(by omega), (Ex.texts es)[1]'(by omega)] := by
  simp only [Ex.text]; rw [← xtwo_of h]
theorem text_three (k : Int) (nm : ByteArray) (n : Int) (ty : Ty) (es : List Ex) (h : (Ex.texts es).length = 3) : (Ex.node k nm n ty es).text = exSay k nm (numB n) ty.text n [(Ex.texts es)[0]'(by omega), (Ex.texts es)[1]'(by omega), (Ex.texts es)[2]'(by omega)] := by
  simp only [Ex.text]; rw [← xthree_of h]
theorem form_kind {k : Int} {nm : ByteArray} {n : Int} {ty : Ty} {es : List Ex} (h : (Ex.node k nm n ty es).form = true) : 1 ≤ k ∧ k ≤ 14 := by
  have e := (form_parts h).2.1
  by_cases hk : 1 ≤ k ∧ k ≤ 14
  · exact hk
  · rw [arity_out hk] at e; omega
theorem total_get (xs : List ByteArray) (k : Nat) (h : k < xs.length) : xs[k].size ≤ total xs := size_le xs k h
end Go.Proofs.YtcohfbdhdngplaaDoor
/-
  Proved: plain facts on the texts of core expressions of the right form.
-/
namespace Go.Proofs.YtcohfbdhdngplaaDoor
open Go.RowKit

theorem own_slice {w : World} {B : Nat} {e : TypeId} {size : Nat} {v : Value} {n : Nat} {xs : List Value} (h : w.ownsRow B e size v n xs) : ∃ a cap, v = .slice a n cap := by
  rcases h.2 with ⟨rfl, hn⟩ | ⟨g, cap, cur, rfl, _⟩
  · exact ⟨none, 0, by rw [hn]⟩
  · exact ⟨_, _, rfl⟩
theorem new_one (w : World) (t : TypeId) (x : Value) : ∀ j u, [x][j]? = some u → (w.alloc (.cells #[x] t)).cell? ((⟨w.heap.size, 0, none⟩ : Addr).add j) = some u := by
  intro j u h
  have hj : j = 0 := by
    have := (List.getElem?_eq_some_iff.1 h).1
    simpa using this
  subst hj
  simp at h
  subst h
  rw [addr_add]
  simp
theorem num_next (ss : List ByteArray) (k : Nat) (hk : k < ss.length) :
    ((ss.take k).map Value.string ++ List.replicate (ss.length - k) (Value.string ⟨#[]⟩)).set k (.string ss[k]) = (ss.take (k + 1)).map Value.string ++ List.replicate (ss.length - (k + 1)) (Value.string ⟨#[]⟩) := by
  apply List.ext_getElem
  · simp; omega
  · intro i h1 h2
    simp at h1 h2
    rw [List.getElem_set]
    by_cases hi : k = i
    · subst hi
      rw [if_pos rfl, List.getElem_append_left (by simp; omega)]
      simp
    · rw [if_neg hi]
      by_cases hlt : i < k
      · rw [List.getElem_append_left (by simp; omega), List.getElem_append_left (by simp; omega)]
        simp
      · rw [List.getElem_append_right (by simp; omega), List.getElem_append_right (by simp; omega)]
        simp
theorem coText_one (k : Int) (nm : ByteArray) (n : Int) (fr ty : Ty) (es : List Co) (ns : List ByteArray) (vs : List Co) (h : (Co.texts es).length = 1) : (Co.node k nm n fr ty es ns vs).text = coSay k nm (numB n) fr.text ty.text n [(Co.texts es)[0]'(by omega)] (envSay ns (Co.texts vs)) := by
  simp only [Co.text]; rw [← xone_of h]
theorem coText_two (k : Int) (nm : ByteArray) (n : Int) (fr ty : Ty) (es : List Co) (ns : List ByteArray) (vs : List Co) (h : (Co.texts es).length = 2) : (Co.node k nm n fr ty es ns vs).text = coSay k nm (numB n) fr.text ty.text n [(Co.texts es)[0]'(by omega), (Co.texts es)[1]'(by omega)] (envSay ns (Co.texts vs)) := by
  simp only [Co.text]; rw [← xtwo_of h]
theorem coText_three (k : Int) (nm : ByteArray) (n : Int) (fr ty : Ty) (es : List Co) (ns : List ByteArray) (vs : List Co) (h : (Co.texts es).length = 3) : (Co.node k nm n fr ty es ns vs).text = coSay k nm (numB n) fr.text ty.text n [(Co.texts es)[0]'(by omega), (Co.texts es)[1]'(by omega), (Co.texts es)[2]'(by omega)] (envSay ns (Co.texts vs)) := by
  simp only [Co.text]; rw [← xthree_of h]
theorem co_kind {k : Int} {nm : ByteArray} {n : Int} {fr ty : Ty} {es : List Co} {ns : List ByteArray} {vs : List Co} (h : (Co.node k nm n fr ty es ns vs).form = true) : 1 ≤ k ∧ k ≤ 15 := by
  have e := (co_num h).2.2.2.2
  by_cases hk : 1 ≤ k ∧ k ≤ 15
  · exact hk
  · rw [coArity_out hk] at e; omega
theorem co_bool {n : Int} (h : coNumFor 9 n = true) : n = 0 ∨ n = 1 := by
  simp [coNumFor] at h
  omega
theorem co_ty {k : Int} {fr ty : Ty} (h : coTypesB k fr ty = true) (hk : k = 4 ∨ k = 14 ∨ k = 15) : ty.valid = true := by
  have ht : tgtB k = true := by rcases hk with rfl | rfl | rfl <;> decide
  simp only [coTypesB, Bool.and_eq_true] at h
  have h2 := h.2
  rw [ht] at h2
  exact h2
theorem co_fr {k : Int} {fr ty : Ty} (h : coTypesB k fr ty = true) (hk : k = 14 ∨ k = 15) : fr.valid = true := by
  have ht : srcB k = true := by rcases hk with rfl | rfl <;> decide
  simp only [coTypesB, Bool.and_eq_true] at h
  have h2 := h.1
  rw [ht] at h2
  exact h2
theorem valid_form {t : Ty} (h : t.valid = true) : t.form = true := by
  simp only [Ty.valid, Bool.and_eq_true] at h
  exact h.2
theorem co_take (xs : List ByteArray) (k : Nat) (h : k < xs.length) : xs.take (k + 1) = xs.take k ++ [xs[k]] := by
  rw [List.take_add_one, List.getElem?_eq_getElem h]; rfl
end Go.Proofs.YtcohfbdhdngplaaDoor
/-
  Proved: spec.Join joins the strings with the separator between them, and leaves the memory that was there as it was. On these terms: the strings, their number and the separator are small (2^20).
-/
namespace Go.Proofs.YtcohfbdhdngplaaDoor
open Go.RowKit

/-- 'string(b)' of a slice that owns its bytes. -/
theorem conv_own {w : World} {base : Nat} {v : Value} {l : List UInt8} (h : w.ownsRow base 5 1 v l.length (Lib.byteCells l)) :
    (convert 136 9 v).run Tryd.prog w = .ok (.string ⟨l.toArray⟩) w := by
  have hcells := fun g (hg : v.ownBlock = some g) => h.cells hg
  rcases h.2 with ⟨rfl, hn⟩ | ⟨g, cap, cur, rfl, _⟩
  · have : l = [] := List.length_eq_zero_iff.1 hn
    subst this
    exact run_convert_bytes_nil w 136 5 Tryd.underlying136 Tryd.underlying5 0 0 _ Tryd.underlying9
  · refine run_convert_bytes_back w _ _ 5 ⟨g, 0, none⟩ cap l Tryd.underlying136 Tryd.underlying5 Tryd.underlying9 fun j hj => ?_
    exact hcells g rfl j _ (by simp [Lib.byteCells, hj])
theorem info_byte : (Tryd.prog.info? 5).map (fun i => (i.zero, i.size, i.bytes)) = some (some (.int .u8 0), 1, 1) := by kernel_rfl

set_option maxRecDepth 100000 in
set_option maxHeartbeats 2000000 in
theorem specJoin (v : Value) (ss : List ByteArray) (sep : ByteArray) (hn : ss.length ≤ 1048576) (ht : total ss ≤ 1073741824) (hs : sep.size ≤ 1048576) (w : World) (h : Strs w v ss) :
    Calls Tryd.prog 118 #[v, .string sep] w (JoinEnd ss sep w) := by
  obtain ⟨i0, hi, hz0, hz1, hz2⟩ := info_parts info_byte
  obtain ⟨a, cap, rfl, hcap, hat⟩ := h
  have HC := Lib.hid hat; clear hat
  have HI := Lib.hid hi; clear hi
  have HZ0 := Lib.hid hz0; clear hz0
  have HZ1 := Lib.hid hz1; clear hz1
  have HZ2 := Lib.hid hz2; clear hz2
  go_enter Tryd.func118, Tryd.ntmps118
  go_wp2_with fail
  go_loopw [5, 6] (fun v i wr => ∃ k : Nat, k ≤ ss.length ∧ i = .int .i64 k ∧ wr.ownsRow w.heap.size 5 1 v (joined ss sep k).length (Lib.byteCells (joined ss sep k)) ∧ Below w.heap.size w wr) (fun _ i _ => ss.length - (intOf i).toNat)
  case atStart => exact ⟨0, by omega, rfl, by rw [joined_zero]; exact World.ownsRow_made w #[] 0 (Nat.le_refl _) (Nat.zero_le _) rfl, (Below.refl _ _).alloc (Nat.le_refl _) _⟩
  case round =>
    obtain ⟨k, hk, rfl, hown, hb⟩ := hrel
    have HL := Lib.hid (joined_small ss sep k hk hn ht hs)
    by_cases hlt : k < ss.length
    · obtain ⟨b, off, rfl, hbl, hcell⟩ := HC.out k hlt
      have hz := size_le ss k hlt
      have HO := Lib.hid hown; clear hown
      have HB := Lib.hid hb; clear hb
      have HCE := Lib.hid hcell; clear hcell
      by_cases hk0 : 0 < k
      · go_wp2_with (at_builtin; go_must (refine Lib.wpList_append_own_string _ rfl (.tmp 16) (.tmp 17) 136 9 rfl w.heap.size 5 i0 Tryd.underlying136 Tryd.underlying9 HI.out HZ0.out HZ1.out HZ2.out _ _ _ rfl HO.out sep rfl (by have := HL.out; unfold maxLen; omega) (by have := HL.out; omega) HB.out.size ?_); intro v1 w1 hown1 hg1 _; refine Hid.out ?_)
        refine Lib.hid ?_
        have hb1 : Below w.heap.size w w1 := HB.out.grown hg1 HB.out.size (fun k hk => (HO.out.lt k hk).1)
        have c1 : w1.cell? ⟨b, off + k, none⟩ = some (.string ss[k]) := by rw [hb1.cell (p := ⟨b, off + k, none⟩) hbl]; exact HCE.out
        have HO1 := Lib.hid hown1; clear hown1 hg1
        have HB1 := Lib.hid hb1; clear hb1
        go_wp2_with (at_builtin; go_must (refine Lib.wpList_append_own_string _ rfl (.tmp 19) (.tmp 23) 136 9 rfl w.heap.size 5 i0 Tryd.underlying136 Tryd.underlying9 HI.out HZ0.out HZ1.out HZ2.out _ _ _ rfl HO1.out ss[k] rfl (by have := HL.out; unfold maxLen; omega) (by have := HL.out; omega) HB1.out.size ?_); intro v2 w2 hown2 hg2 _; refine Hid.out ?_)
        refine Lib.hid ?_
        have hb2 : Below w.heap.size w w2 := HB1.out.grown hg2 HB1.out.size (fun k hk => (HO1.out.lt k hk).1)
        have hj := joined_next ss sep k hk0 hlt
        have hown3 : w2.ownsRow w.heap.size 5 1 v2 (joined ss sep (k + 1)).length (Lib.byteCells (joined ss sep (k + 1))) := by
          rw [hj, Lib.byteCells_append, Lib.byteCells_append, List.length_append, List.length_append, len_toList, len_toList]
          exact hown2
        have HO2 := Lib.hid hown3; clear hown3 hown2 hg2 hj
        have HB2 := Lib.hid hb2; clear hb2
        go_wp2_with fail
        exact ⟨⟨k + 1, by omega, by go_num, HO2.out, HB2.out⟩, by simp [intOf]; omega⟩
      · have hk0' : ¬ (0 : Int) < k := by omega
        have c1 : wr.cell? ⟨b, off + k, none⟩ = some (.string ss[k]) := by rw [HB.out.cell (p := ⟨b, off + k, none⟩) hbl]; exact HCE.out
        go_wp2_with (at_builtin; go_must (refine Lib.wpList_append_own_string _ rfl (.tmp 19) (.tmp 23) 136 9 rfl w.heap.size 5 i0 Tryd.underlying136 Tryd.underlying9 HI.out HZ0.out HZ1.out HZ2.out _ _ _ rfl HO.out ss[k] rfl (by have := HL.out; unfold maxLen; omega) (by have := HL.out; omega) HB.out.size ?_); intro v2 w2 hown2 hg2 _; refine Hid.out ?_)
        refine Lib.hid ?_
        have hb2 : Below w.heap.size w w2 := HB.out.grown hg2 HB.out.size (fun k hk => (HO.out.lt k hk).1)
        obtain rfl : k = 0 := by omega
        have hown3 : w2.ownsRow w.heap.size 5 1 v2 (joined ss sep 1).length (Lib.byteCells (joined ss sep 1)) := by
          rw [joined_one ss sep hlt, len_toList]
          rw [joined_zero] at hown2
          simpa [Lib.byteCells, Lib.strCells] using hown2
        have HO2 := Lib.hid hown3; clear hown3 hown2 hg2
        have HB2 := Lib.hid hb2; clear hb2
        go_wp2_with fail
        exact ⟨⟨1, by omega, by go_num, HO2.out, HB2.out⟩, by simp [intOf]; omega⟩
    · have : k = ss.length := by omega
      subst this
      rw [joined_all] at hown
      have hcv := conv_own hown
      have HB := Lib.hid hb; clear hb hown
      go_wp2_with fail
      go_ret
      exact ⟨rfl, HB.out⟩
end Go.Proofs.YtcohfbdhdngplaaDoor
/-
  Proved: spec.l18Between joins the texts of the parts of a core expression; the memory that was there stays as it was.
-/
namespace Go.Proofs.YtcohfbdhdngplaaDoor
open Go.RowKit

set_option maxRecDepth 100000 in
set_option maxHeartbeats 4000000 in
theorem specBetween (k : Int) (nm fs fr ts : ByteArray) (n : Int) (xs : List ByteArray) (env : ByteArray) (v : Value) (w : World) (hk : (k = 5 ∨ k = 7 ∨ k = 8 ∨ k = 11) ∧ xs.length = 2 ∨ k = 10 ∧ xs.length = 3) (h : Strs w v xs) (ht : total xs ≤ 90000000) :
    Calls Tryd.prog 94 #[v, .int .i64 k] w fun e w' => e = .returned (.string (coSay k nm fs fr ts n xs env)) ∧ Below w.heap.size w w' := by
  have HST := Lib.hid h
  obtain ⟨oa, oc, rfl, _⟩ := h
  rcases hk with ⟨hk, hl⟩ | ⟨rfl, hl⟩
  · match xs, hl with
    | [x, y], _ =>
    have hx : x.size + y.size ≤ 90000000 := by simp [total] at ht; omega
    obtain ⟨b, off, rfl, HCC⟩ := strs_pos HST.out (by simp)
    have C0 := HCC 0 (by simp)
    have C1 := HCC 1 (by simp)
    rw [Nat.add_zero] at C0
    have c0 : w.cell? ⟨b, off, none⟩ = some (.string x) := C0.2
    have c1 : w.cell? ⟨b, off + 1, none⟩ = some (.string y) := C1.2
    clear HCC C0 C1
    have HTX : Hid (total [x, y] ≤ 90000000) := ht
    clear ht
    have m0 : ¬ (9223372036854775807 < 1 + x.size) := by omega
    have m1 : ¬ (9223372036854775807 < 1 + x.size + 1) := by omega
    have m2 : ¬ (9223372036854775807 < 1 + x.size + 1 + y.size) := by omega
    have m3 : ¬ (9223372036854775807 < 1 + x.size + 1 + y.size + 1) := by omega
    rcases hk with rfl | rfl | rfl | rfl
    · have CJ : Calls Tryd.prog 118 #[.slice (some ⟨b, off, none⟩) 2 oc, .string ⟨#[32]⟩] w fun e w' => e = .returned (.string (x ++ ⟨#[32]⟩ ++ y)) ∧ Below w.heap.size w w' := by
        have h := specJoin _ [x, y] ⟨#[32]⟩ (by simp) (by have := HTX.out; omega) (by decide) w HST.out
        unfold JoinEnd at h
        rw [join_two rfl] at h
        exact h
      have HCJ := Lib.hid CJ; clear CJ
      have HT3 : Hid (coSay 5 nm fs fr ts n [x, y] env = ⟨#[40]⟩ ++ (x ++ ⟨#[32]⟩ ++ y) ++ ⟨#[41]⟩) := by show _ = _; exact two_group
      have hjs : (x ++ ⟨#[32]⟩ ++ y).size ≤ 100000000 := by simp only [ByteArray.size_append, sizes_one]; omega
      generalize x ++ ⟨#[32]⟩ ++ y = J at HT3 HCJ hjs
      clear m0 m1 m2 m3 c0 c1 hx
      have m0 : ¬ (9223372036854775807 < 1 + J.size) := by omega
      have m1 : ¬ (9223372036854775807 < 1 + J.size + 1) := by omega
      go_enter Tryd.func94, Tryd.ntmps94
      go_wp2_with fail
      refine HCJ.out.mono ?_
      rintro e w5 ⟨rfl, hb⟩
      go_wp2_with fail
      go_ret
      exact ⟨by rw [HT3.out]; rfl, hb⟩
    · go_enter Tryd.func94, Tryd.ntmps94
      go_wp2_with fail
      go_quiet (fail)
      go_wp2_with fail
      go_ret
      exact ⟨rfl, below_qs (Below.refl _ _) nq⟩
    · go_enter Tryd.func94, Tryd.ntmps94
      go_wp2_with fail
      go_quiet (fail)
      go_wp2_with fail
      go_ret
      exact ⟨rfl, below_qs (Below.refl _ _) nq⟩
    · go_enter Tryd.func94, Tryd.ntmps94
      go_wp2_with fail
      go_quiet (fail)
      go_wp2_with fail
      go_ret
      exact ⟨rfl, below_qs (Below.refl _ _) nq⟩
  · match xs, hl with
    | [x, y, z], _ =>
    have hx : x.size + y.size + z.size ≤ 90000000 := by simp [total] at ht; omega
    have HTX : Hid (total [x, y, z] ≤ 90000000) := ht
    clear ht
    have CJ : Calls Tryd.prog 118 #[.slice oa 3 oc, .string ⟨#[32]⟩] w fun e w' => e = .returned (.string (x ++ ⟨#[32]⟩ ++ y ++ ⟨#[32]⟩ ++ z)) ∧ Below w.heap.size w w' := by
      have h := specJoin _ [x, y, z] ⟨#[32]⟩ (by simp) (by have := HTX.out; omega) (by decide) w HST.out
      unfold JoinEnd at h
      rw [join_three rfl] at h
      exact h
    have HCJ := Lib.hid CJ; clear CJ
    have HT3 : Hid (coSay 10 nm fs fr ts n [x, y, z] env = ⟨#[40, 105, 102, 32]⟩ ++ (x ++ ⟨#[32]⟩ ++ y ++ ⟨#[32]⟩ ++ z) ++ ⟨#[41]⟩) := by show _ = _; rfl
    have hjs : (x ++ ⟨#[32]⟩ ++ y ++ ⟨#[32]⟩ ++ z).size ≤ 100000000 := by simp only [ByteArray.size_append, sizes_one]; omega
    generalize x ++ ⟨#[32]⟩ ++ y ++ ⟨#[32]⟩ ++ z = J at HT3 HCJ hjs
    clear  hx
    have m0 : ¬ (9223372036854775807 < 4 + J.size) := by omega
    have m1 : ¬ (9223372036854775807 < 4 + J.size + 1) := by omega
    go_enter Tryd.func94, Tryd.ntmps94
    go_wp2_with fail
    refine HCJ.out.mono ?_
    rintro e w5 ⟨rfl, hb⟩
    go_wp2_with fail
    go_ret
    exact ⟨by rw [HT3.out]; rfl, hb⟩
end Go.Proofs.YtcohfbdhdngplaaDoor
namespace Go.Proofs.YtcohfbdhdngplaaDoor
open Go.RowKit

set_option maxRecDepth 100000 in
set_option maxHeartbeats 4000000 in
theorem specEnvText (d : Nat) (IH : Hid (∀ (v : Value) (t : Co) (w : World), CoAt w d v t → t.form = true → t.bulk ≤ 1048576 → Calls Tryd.prog 60 #[v] w fun e w' => e = .returned (.string t.text) ∧ Below w.heap.size w w')) (v : Value) (ns : List ByteArray) (vs : List Co) (w : World) (h : RowCb (CoAt w d) w v ns vs) (hf : Co.forms vs = true) (hsz : txs ns + Co.bulks vs ≤ 1048576) :
    Calls Tryd.prog 92 #[v] w fun e w' => e = .returned (.string (envSay ns (Co.texts vs))) ∧ Below w.heap.size w w' := by
  obtain ⟨i0, hi, hz0, hz1, hz2⟩ := info_parts info_str
  have HI := Lib.hid hi; clear hi
  have HZ0 := Lib.hid hz0; clear hz0
  have HZ1 := Lib.hid hz1; clear hz1
  have HZ2 := Lib.hid hz2; clear hz2
  obtain ⟨hln, a, cap, rfl, hcap, hcap2, hae⟩ := h
  have HAE := Lib.hid hae
  have HNU : Hid (Co.numss vs) := numss_of vs fun j hj => by
    obtain ⟨_, _, _, _, _, _, _, _, _, _, _, _, _, _, _, _, _, _, _, _, _, _, _, _, hr⟩ := hae j hj (by omega)
    exact nums_of d _ _ hr
  clear hae
  have HF := Lib.hid hf; clear hf
  have HSZ := Lib.hid hsz; clear hsz
  have hlen : vs.length ≤ 1048576 := by have h1 := Co.length_le vs; have h2 := HSZ.out; omega
  have hxl : (Co.texts vs).length = vs.length := Co.texts_length vs
  have HTL : Hid ((bindsB ns (Co.texts vs)).length = vs.length) := by show _ = _; rw [bindsB_length _ _ (by omega)]; exact hxl
  have HTOT : Hid (total (bindsB ns (Co.texts vs)) ≤ 90000000) := by show _ ≤ _; have h1 := Co.texts_size vs numB_size HNU.out; have h2 := HSZ.out; have h3 := bindsB_total ns (Co.texts vs); omega
  have HBG : Hid (∀ (k : Nat) (h1 : k < vs.length) (h2 : k < ns.length) (h : k < (bindsB ns (Co.texts vs)).length), (bindsB ns (Co.texts vs))[k] = ns[k] ++ ⟨#[61]⟩ ++ vs[k].text) := fun k h1 h2 h => by rw [bindsB_get ns (Co.texts vs) k h2 (by omega) h, Co.texts_get vs k h1 (by omega)]
  have HLN := Lib.hid hln
  have HEN : Hid (envSay ns (Co.texts vs) = ⟨#[91]⟩ ++ joinB (bindsB ns (Co.texts vs)) ⟨#[44]⟩ ++ ⟨#[93]⟩) := rfl
  have hjs := joinB_size (bindsB ns (Co.texts vs)) 44
  have HJS : Hid ((joinB (bindsB ns (Co.texts vs)) ⟨#[44]⟩).size ≤ 100000000) := by show _ ≤ _; have h1 := HTOT.out; have h2 := HTL.out; omega
  clear hxl hjs
  generalize bindsB ns (Co.texts vs) = bs at HTL HTOT HBG HEN HJS
  clear hln
  go_enter Tryd.func92, Tryd.ntmps92
  go_wp2_with fail
  go_loopw [3, 4] (fun v i wr => ∃ k : Nat, k ≤ vs.length ∧ i = .int .i64 k ∧ wr.ownsRow w.heap.size 9 1 v k ((bs.take k).map Value.string) ∧ Below w.heap.size w wr) (fun _ i _ => vs.length - (intOf i).toNat)
  case atStart => exact ⟨0, by omega, rfl, by simpa using World.ownsRow_made w #[] 0 (Nat.le_refl _) (Nat.zero_le _) rfl, (Below.refl _ _).alloc (Nat.le_refl _) _⟩
  case round =>
    obtain ⟨k, hk, rfl, hown, hb⟩ := hrel
    have HO2 := Lib.hid hown; clear hown
    have HB2 := Lib.hid hb; clear hb
    by_cases hlt : k < vs.length
    · have hltn : k < ns.length := by have := HLN.out; omega
      have hlt2 : k < bs.length := by rw [HTL.out]; exact hlt
      obtain ⟨b, off, x0, x1, x2, x3, x4, x5, x6, x7, x8, rfl, hbl, hnz, hcn, hc0, hc1, hc2, hc3, hc4, hc5, hc6, hc7, hc8, ht⟩ := HAE.out k hlt hltn
      have hg := Co.bulk_get vs k hlt
      have hzk : vs[k].bulk ≤ 1048576 := by have := HSZ.out; omega
      have hfk := Lib.hid (Co.forms_get vs k hlt HF.out)
      have HBK := Lib.hid (HBG.out k hlt hltn hlt2)
      have hts := total_get bs k hlt2
      have hks : ns[k].size + 1 + vs[k].text.size ≤ 90000000 := by
        have h1 := HTOT.out
        have h2 := HBK.out
        rw [h2, ByteArray.size_append, ByteArray.size_append, sizes_one] at hts
        omega
      have m0 : ¬ (9223372036854775807 < ns[k].size + 1) := by omega
      have m1 : ¬ (9223372036854775807 < ns[k].size + 1 + vs[k].text.size) := by omega
      have HTE := Lib.hid (ht.below HB2.out)
      have en : wr.cell? ⟨b, off + k * 10, none⟩ = some (.string ns[k]) := (HB2.out.cell (p := ⟨b, off + k * 10, none⟩) hbl).trans hcn
      have e0 : wr.cell? ⟨b, off + k * 10 + 1, none⟩ = some (x0) := (HB2.out.cell (p := ⟨b, off + k * 10 + 1, none⟩) hbl).trans hc0
      have e1 : wr.cell? ⟨b, off + k * 10 + 2, none⟩ = some (x1) := (HB2.out.cell (p := ⟨b, off + k * 10 + 2, none⟩) hbl).trans hc1
      have e2 : wr.cell? ⟨b, off + k * 10 + 3, none⟩ = some (x2) := (HB2.out.cell (p := ⟨b, off + k * 10 + 3, none⟩) hbl).trans hc2
      have e3 : wr.cell? ⟨b, off + k * 10 + 4, none⟩ = some (x3) := (HB2.out.cell (p := ⟨b, off + k * 10 + 4, none⟩) hbl).trans hc3
      have e4 : wr.cell? ⟨b, off + k * 10 + 5, none⟩ = some (x4) := (HB2.out.cell (p := ⟨b, off + k * 10 + 5, none⟩) hbl).trans hc4
      have e5 : wr.cell? ⟨b, off + k * 10 + 6, none⟩ = some (x5) := (HB2.out.cell (p := ⟨b, off + k * 10 + 6, none⟩) hbl).trans hc5
      have e6 : wr.cell? ⟨b, off + k * 10 + 7, none⟩ = some (x6) := (HB2.out.cell (p := ⟨b, off + k * 10 + 7, none⟩) hbl).trans hc6
      have e7 : wr.cell? ⟨b, off + k * 10 + 8, none⟩ = some (x7) := (HB2.out.cell (p := ⟨b, off + k * 10 + 8, none⟩) hbl).trans hc7
      have e8 : wr.cell? ⟨b, off + k * 10 + 9, none⟩ = some (x8) := (HB2.out.cell (p := ⟨b, off + k * 10 + 9, none⟩) hbl).trans hc8
      have HBL : Hid (b < wr.heap.size) := Nat.lt_of_lt_of_le hbl HB2.out.size
      clear ht hc0 hc1 hc2 hc3 hc4 hc5 hc6 hc7 hc8 hcn hnz hg hts hks hbl
      obtain ⟨oa, oc, rfl⟩ := own_slice HO2.out
      obtain ⟨x, hx⟩ : ∃ x, x = ns[k] := ⟨_, rfl⟩
      rw [← hx] at en m0 m1 HBK
      clear hx
      obtain ⟨y, hy⟩ : ∃ y, y = vs[k].text := ⟨_, rfl⟩
      have HY := Lib.hid hy
      rw [← hy] at m1 HBK
      clear hy
      go_wp2_with fail
      have hbd := below_drew wr
      replace HTE := Lib.hid (HTE.out.below hbd)
      replace HB2 := Lib.hid (below_thru HB2.out (Nat.le_refl _) hbd)
      replace HO2 := Lib.hid (own_below HO2.out hbd)
      replace en := (hbd.cell (p := ⟨b, off + k * 10, none⟩) HBL.out).trans en
      replace e0 := (hbd.cell (p := ⟨b, off + k * 10 + 1, none⟩) HBL.out).trans e0
      replace e1 := (hbd.cell (p := ⟨b, off + k * 10 + 2, none⟩) HBL.out).trans e1
      replace e2 := (hbd.cell (p := ⟨b, off + k * 10 + 3, none⟩) HBL.out).trans e2
      replace e3 := (hbd.cell (p := ⟨b, off + k * 10 + 4, none⟩) HBL.out).trans e3
      replace e4 := (hbd.cell (p := ⟨b, off + k * 10 + 5, none⟩) HBL.out).trans e4
      replace e5 := (hbd.cell (p := ⟨b, off + k * 10 + 6, none⟩) HBL.out).trans e5
      replace e6 := (hbd.cell (p := ⟨b, off + k * 10 + 7, none⟩) HBL.out).trans e6
      replace e7 := (hbd.cell (p := ⟨b, off + k * 10 + 8, none⟩) HBL.out).trans e7
      replace e8 := (hbd.cell (p := ⟨b, off + k * 10 + 9, none⟩) HBL.out).trans e8
      replace HBL : Hid (b < _) := Nat.lt_of_lt_of_le HBL.out hbd.size
      clear hbd
      go_region_law (first
        | (refine step_append_lies _ (by rfl) (.tmp 12) (.tmp 26) 122 (by rfl) w.heap.size 9 i0 (.string ⟨#[]⟩) 1 16 Tryd.underlying122 HI.out HZ0.out HZ1.out HZ2.out rfl (by omega) (.slice oa k oc) k ((bs.take k).map Value.string) (by simp [Act.eval]) (HO2.out.alloc _) ⟨w'.heap.size, 0, none⟩ 1 1 [.string (x ++ ⟨#[61]⟩ ++ y)] (by simp [Act.eval]) rfl (new_one _ _ _) (by simp [Value.oneCell']) (by omega) (by unfold maxLen; omega) (by omega) (by have := HB2.out.size; simp; omega) (w'.heap.size + 1) (by simp) ?_
           intro g gc w1 hown1 hgrow hat1 hlt1
           have HBW : Hid (Below w.heap.size w w1) := (HB2.out.alloc HB2.out.size _).grown hgrow (by have := HB2.out.size; simp; omega) (fun k hk => (HO2.out.lt k hk).1)
           have HOW : Hid (w1.ownsRow w.heap.size 9 1 (.slice (some ⟨g, 0, none⟩) (k + 1) gc) (k + 1) ((bs.take (k + 1)).map Value.string)) := by rw [co_take bs k hlt2, List.map_append, HBK.out]; exact hown1
           clear hown1 hgrow hat1 hlt1)
        | (go_simp
           go_at_call 60
           refine (IH.out _ vs[k] _ HTE.out hfk.out hzk).mono ?_
           rintro e w' ⟨rfl, hb⟩
           rw [← HY.out]
           replace HTE := Lib.hid (HTE.out.below hb)
           replace HB2 := Lib.hid (below_thru HB2.out (Nat.le_refl _) hb)
           replace HO2 := Lib.hid (own_below HO2.out hb)
           replace en := (hb.cell (p := ⟨b, off + k * 10, none⟩) HBL.out).trans en
           replace e0 := (hb.cell (p := ⟨b, off + k * 10 + 1, none⟩) HBL.out).trans e0
           replace e1 := (hb.cell (p := ⟨b, off + k * 10 + 2, none⟩) HBL.out).trans e1
           replace e2 := (hb.cell (p := ⟨b, off + k * 10 + 3, none⟩) HBL.out).trans e2
           replace e3 := (hb.cell (p := ⟨b, off + k * 10 + 4, none⟩) HBL.out).trans e3
           replace e4 := (hb.cell (p := ⟨b, off + k * 10 + 5, none⟩) HBL.out).trans e4
           replace e5 := (hb.cell (p := ⟨b, off + k * 10 + 6, none⟩) HBL.out).trans e5
           replace e6 := (hb.cell (p := ⟨b, off + k * 10 + 7, none⟩) HBL.out).trans e6
           replace e7 := (hb.cell (p := ⟨b, off + k * 10 + 8, none⟩) HBL.out).trans e7
           replace e8 := (hb.cell (p := ⟨b, off + k * 10 + 9, none⟩) HBL.out).trans e8
           replace HBL : Hid (b < _) := Nat.lt_of_lt_of_le HBL.out hb.size
           clear hb))
      all_goals
        go_wp2_with fail
        exact ⟨⟨k + 1, by omega, by go_num, HOW.out, HBW.out⟩, by simp [intOf]; omega⟩
    · obtain rfl : k = vs.length := by omega
      have HL := HO2.out
      rw [← HTL.out, List.take_length] at HL
      have HS := Lib.hid (Strs.of_own HL)
      rw [HTL.out] at HL
      obtain ⟨oa, oc, rfl⟩ := own_slice HL
      clear HL HO2
      have m2 : ¬ (9223372036854775807 < 1 + (joinB bs ⟨#[44]⟩).size) := by have := HJS.out; omega
      have m3 : ¬ (9223372036854775807 < 1 + (joinB bs ⟨#[44]⟩).size + 1) := by have := HJS.out; omega
      have HJ := Lib.hid (show Calls Tryd.prog _ _ wr (fun e w' => e = .returned (.string (joinB bs ⟨#[44]⟩)) ∧ Below wr.heap.size wr w') from specJoin _ bs ⟨#[44]⟩ (by rw [HTL.out]; exact hlen) (by have := HTOT.out; omega) (by decide) _ HS.out)
      generalize joinB bs ⟨#[44]⟩ = J at HJ HEN m2 m3
      go_wp2_with fail
      refine HJ.out.mono ?_
      rintro e w1 ⟨rfl, hb1⟩
      have HB1 := Lib.hid (below_thru HB2.out (Nat.le_refl _) hb1)
      clear hb1
      go_wp2_with fail
      go_ret
      exact ⟨by rw [HEN.out]; rfl, HB1.out⟩
end Go.Proofs.YtcohfbdhdngplaaDoor
