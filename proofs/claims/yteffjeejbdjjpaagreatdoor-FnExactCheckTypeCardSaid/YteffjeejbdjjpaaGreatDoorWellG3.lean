/-
  Proved: the leaves of types: impl's and the reference's NumType, BoolType, UnknownType. And plain facts: a type is equal to itself; its size and its depth by those of its parts.
-/
import Derived.Test.YteffjeejbdjjpaaGreatDoorWellG1
import Derived.WalkKit
import Derived.LaidEql
import Derived.Stop.Asserts
import Derived.RowKitTokens
import Derived.BigQuiet
import Derived.Test.YteffjeejbdjjpaaGreatDoorWellG2
/-
  Proved: plain facts on what a law carries through its calls: boxes, trees with blocks of their own.
-/
namespace Go.Proofs.YteffjeejbdjjpaaGreatDoor
open Go.RowKit

/-- Block p holds the cells cs from its beginning on. -/
def BoxAt (w : World) (p : Nat) (cs : Array Value) : Prop := p < w.heap.size ∧ ∀ j, w.cell? ⟨p, j, none⟩ = cs[j]?
theorem BoxAt.below {w w' : World} {p : Nat} {cs : Array Value} (h : BoxAt w p cs) (hb : Below w.heap.size w w') : BoxAt w' p cs :=
  ⟨Nat.lt_of_lt_of_le h.1 hb.size, fun j => (hb.cell (p := ⟨p, j, none⟩) h.1).trans (h.2 j)⟩
theorem BoxAt.kept {w w' : World} {p : Nat} {cs : Array Value} (h : BoxAt w p cs) (hz : w.heap.size ≤ w'.heap.size) (hk : w'.heap[p]? = w.heap[p]?) : BoxAt w' p cs :=
  ⟨Nat.lt_of_lt_of_le h.1 hz, fun j => (World.cell?_of_block hk).trans (h.2 j)⟩
theorem BoxAt.new (w : World) (cs : Array Value) (T : TypeId) : BoxAt (w.alloc (.cells cs T)) w.heap.size cs :=
  ⟨by simp, fun j => World.cell?_alloc_mark w cs T (0, 0) j⟩
theorem TyOwn.below {w w' : World} {d : Nat} {v : Value} {t : Ty} {fp : List Nat} (h : TyOwn w d v t fp) (hb : Below w.heap.size w w') : TyOwn w' d v t fp :=
  h.kept hb.size fun b hf => hb.block b (h.lt b hf)
theorem below_alloc (w : World) (o : Obj) : Below w.heap.size w (w.alloc o) := (Below.refl _ _).alloc (Nat.le_refl _) _
theorem below_drew (w : World) : Below w.heap.size w w.drew := (Below.refl _ _).drew
theorem below_thru {B : Nat} {w w1 w2 : World} (h : Below B w w1) (hB : B ≤ w.heap.size) (h2 : Below w1.heap.size w1 w2) : Below B w w2 :=
  h.trans (h2.mono (Nat.le_trans hB h.size))
theorem below_on {B : Nat} {w w1 w2 : World} (h : Below B w w1) (h2 : Below w1.heap.size w1 w2) (hB : B ≤ w1.heap.size) : Below B w w2 :=
  h.trans (h2.mono hB)
end Go.Proofs.YteffjeejbdjjpaaGreatDoor
/-
  Proved: errors.Is, asked for a sentinel of errors.New's make, says true of the sentinel and false of nil, and changes nothing.
-/
namespace Go.Proofs.YteffjeejbdjjpaaGreatDoor
open Go.RowKit Go.Extern.Stop Go.Stop Go.Extern

theorem errComp : (Tryz.prog.info? 141).map (·.comparable) = some true := by kernel_rfl
theorem errSize : (Tryz.prog.info? 167).map (·.size) = some 1 := by kernel_rfl
theorem errTypeOf (v : Value) (w : World) : (Extern.ReflectliteType.typeOf #[.iface 141 v]).run Tryz.prog w = .ok (.iface 109 (.agg #[.pointer (some ⟨3, 141, none⟩)])) w := by kernel_rfl
theorem errCompares : ∃ fc : Array Value → Sem Value, (∀ args w, (callFunc 138 args).run Tryz.prog w = ((fc args).run Tryz.prog w).andThen fun v w' => .ok (.value v) w') ∧ ∀ w, (fc #[.agg #[.pointer (some ⟨3, 141, none⟩)]]).run Tryz.prog w = .ok (.bool true) w :=
  ⟨Extern.ReflectliteType.method fun t => do _root_.Go.Extern.Rtype.noPackHeld "Comparable" t; pure (.bool (← typeInfo t).comparable), @run_callFunc_extern Tryz.prog 138 _ _ Tryz.func138 (by kernel_rfl) (by kernel_rfl) (by kernel_rfl) (by kernel_rfl), fun w => by kernel_rfl⟩
theorem errMethod (n : Nat) (v : Value) (w : World) : (Go.method (n + 1) 109 v "Comparable").run Tryz.prog w = .ok (138, v) w := by kernel_rfl
set_option maxRecDepth 100000 in
set_option maxHeartbeats 2000000 in
theorem errIs_same (a : Addr) (w : World) :
    Calls Tryz.prog 35 #[.iface 141 (.pointer (some a)), .iface 141 (.pointer (some a))] w fun e w' => e = .returned (.bool true) ∧ w' = w := by
  obtain ⟨i, hi, hcmp⟩ := Option.map_eq_some_iff.1 errComp
  obtain ⟨j, hj, hjs⟩ := Option.map_eq_some_iff.1 errSize
  have h1 := @run_callFunc_extern Tryz.prog 82 _ Extern.ReflectliteType.typeOf Tryz.func82 (by kernel_rfl) (by kernel_rfl) (by kernel_rfl) (by kernel_rfl)
  obtain ⟨fc, h2, h4⟩ := errCompares
  have h3 := errTypeOf
  have h5 := errMethod
  have heq := run_eql_iface_ptr_same (P := Tryz.prog) w a Tryz.underlying65 Tryz.underlying141 hi hcmp hj
  go_enter Tryz.func35, Tryz.ntmps35
  go_wp2
  refine wp_loop_rounds 1 ?_
  rw [rounds_succ]
  go_wp2
  go_ret
  exact ⟨rfl, rfl⟩
theorem errIs_nil (b : Addr) (w : World) :
    Calls Tryz.prog 35 #[.nilIface, .iface 141 (.pointer (some b))] w fun e w' => e = .returned (.bool false) ∧ w' = w := by
  have hn := run_eql_iface_nil_left (P := Tryz.prog) w 141 (.pointer (some b)) Tryz.underlying65
  go_enter Tryz.func35, Tryz.ntmps35
  go_wp2
  go_ret
  exact ⟨rfl, rfl⟩
end Go.Proofs.YteffjeejbdjjpaaGreatDoor
/-
  Proved: impl.UnknownType makes its type; the memory that was there stays as it was.
-/
namespace Go.Proofs.YteffjeejbdjjpaaGreatDoor
open Go.RowKit

set_option maxRecDepth 100000 in
theorem implUnknownType (w : World) : Calls Tryz.prog 67 #[] w fun e w' => e = .returned (.agg #[.int .i64 1, .slice none 0 0]) ∧ Below w.heap.size w w' := by
  go_enter Tryz.func67, Tryz.ntmps67
  go_wp2_with fail
  refine bodyPost_ret (v := .agg #[.int .i64 1, .slice none 0 0]) (by simp [results, Tryz.results67, go_sem]) rfl ?_
  exact ⟨rfl, below_alloc _ _⟩
end Go.Proofs.YteffjeejbdjjpaaGreatDoor
/-
  Proved: impl.NumType and BoolType make their types; the memory that was there stays as it was.
-/
namespace Go.Proofs.YteffjeejbdjjpaaGreatDoor
open Go.RowKit

set_option maxRecDepth 100000 in
theorem implNumType (w : World) : Calls Tryz.prog 73 #[] w fun e w' => e = .returned (.agg #[.int .i64 2, .slice none 0 0]) ∧ Below w.heap.size w w' := by
  go_enter Tryz.func73, Tryz.ntmps73
  go_wp2_with fail
  refine bodyPost_ret (v := .agg #[.int .i64 2, .slice none 0 0]) (by simp [results, Tryz.results73, go_sem]) rfl ?_
  exact ⟨rfl, below_alloc _ _⟩
set_option maxRecDepth 100000 in
theorem implBoolType (w : World) : Calls Tryz.prog 74 #[] w fun e w' => e = .returned (.agg #[.int .i64 3, .slice none 0 0]) ∧ Below w.heap.size w w' := by
  go_enter Tryz.func74, Tryz.ntmps74
  go_wp2_with fail
  refine bodyPost_ret (v := .agg #[.int .i64 3, .slice none 0 0]) (by simp [results, Tryz.results74, go_sem]) rfl ?_
  exact ⟨rfl, below_alloc _ _⟩
end Go.Proofs.YteffjeejbdjjpaaGreatDoor
/-
  Proved: a statement whose order Go leaves open, whose operations only read old memory and whose calls leave old memory as it was and answer with plain values, may be walked once, in the order of the text.
-/
namespace Go.Proofs.YteffjeejbdjjpaaGreatDoor
open Go.RowKit

/-- A world that has grown out of w: below B all is as it was. -/
structure Grown (B : Nat) (w : World) where
  val : World
  old : Below B w val
instance (B : Nat) (w : World) : Nonempty (Grown B w) := ⟨⟨w, Below.refl _ _⟩⟩
theorem wp_region_grown {P : Program} {id : Nat} {Q : Exit → Act → World → Prop} {a : Act} {w : World} {l : List Oper} (B : Nat) (hm : P.follows .mixedOrders = true) (hB : Region.lexB .any l.toArray = true)
    (h : wpQuiet P l.toArray (fun w' => ∃ n : Grown B w, w' = n.val) (fun a' => ∀ w', (∃ n : Grown B w, w' = n.val) → Q .normal a' w') l a) : (Code.region id l.toArray true).wp P Q a w :=
  wp_region_quiet (C := fun w' => ∃ n : Grown B w, w' = n.val) hm hB ⟨⟨{ w with drawn := w.drawn + 1 }, (Below.refl _ _).drew⟩, rfl⟩ (by simpa using h)
theorem grown_of {P : Program} {f : FuncId} {args : Array Value} {B : Nat} {w : World} {n : Grown B w} {v : Value} (hB : B ≤ w.heap.size)
    (h : Calls P f args n.val fun e w' => e = .returned v ∧ Below n.val.heap.size n.val w') : Calls P f args n.val fun e w'' => e = .returned v ∧ ∃ m : Grown B w, w'' = m.val :=
  h.mono fun _ w'' ⟨he, hb⟩ => ⟨he, ⟨w'', below_thru n.old hB hb⟩, rfl⟩
theorem BoxAt.grown {w : World} {p : Nat} {cs : Array Value} (h : BoxAt w p cs) (n : Grown w.heap.size w) : BoxAt n.val p cs := h.below n.old
end Go.Proofs.YteffjeejbdjjpaaGreatDoor
/-
  Proved: spec.UnknownType makes its type; the memory that was there stays as it was.
-/
namespace Go.Proofs.YteffjeejbdjjpaaGreatDoor
open Go.RowKit

set_option maxRecDepth 100000 in
theorem specUnknownType (w : World) : Calls Tryz.prog 54 #[] w fun e w' => e = .returned (.agg #[.int .i64 1, .slice none 0 0]) ∧ Below w.heap.size w w' := by
  go_enter Tryz.func54, Tryz.ntmps54
  go_wp2_with fail
  refine bodyPost_ret (v := .agg #[.int .i64 1, .slice none 0 0]) (by simp [results, Tryz.results54, go_sem]) rfl ?_
  exact ⟨rfl, below_alloc _ _⟩
end Go.Proofs.YteffjeejbdjjpaaGreatDoor
/-
  Proved: the reference's NumType.
-/
namespace Go.Proofs.YteffjeejbdjjpaaGreatDoor
open Go.RowKit

set_option maxRecDepth 100000 in
theorem specNumType (w : World) : Calls Tryz.prog 56 #[] w fun e w' => e = .returned (.agg #[.int .i64 2, .slice none 0 0]) ∧ Below w.heap.size w w' := by
  go_enter Tryz.func56, Tryz.ntmps56
  go_wp2_with fail
  refine bodyPost_ret (v := .agg #[.int .i64 2, .slice none 0 0]) (by simp [results, Tryz.results56, go_sem]) rfl ?_
  exact ⟨rfl, below_alloc _ _⟩
end Go.Proofs.YteffjeejbdjjpaaGreatDoor
/-
  Proved: spec.DepthOfType returns the depth of every tree of at most 2^60 nodes, and leaves the memory that was there as it was.
-/
namespace Go.Proofs.YteffjeejbdjjpaaGreatDoor
open Go.RowKit

mutual
def Ty.depth : Ty → Nat
  | .node _ ts => 1 + Ty.depths ts
def Ty.depths : List Ty → Nat
  | [] => 0
  | t :: r => max t.depth (Ty.depths r)
end
theorem Ty.depths_take (ts : List Ty) : ∀ k (h : k < ts.length), Ty.depths (ts.take (k + 1)) = max (Ty.depths (ts.take k)) ts[k].depth := by
  induction ts with
  | nil => intro k h; simp at h
  | cons s r ih =>
    intro k h
    cases k with
    | zero => simp [Ty.depths]
    | succ k =>
      simp only [List.take_succ_cons, Ty.depths, List.getElem_cons_succ]
      rw [ih k (by simpa using h)]; omega
mutual
theorem Ty.depth_le : ∀ t : Ty, t.depth ≤ t.size
  | .node _ ts => by have := Ty.depths_le ts; simp only [Ty.depth, Ty.size]; omega
theorem Ty.depths_le : ∀ ts : List Ty, Ty.depths ts ≤ Ty.sizes ts
  | [] => Nat.le_refl _
  | t :: r => by have := Ty.depth_le t; have := Ty.depths_le r; simp only [Ty.depths, Ty.sizes]; omega
end

set_option maxRecDepth 100000 in
set_option maxHeartbeats 1000000 in
theorem specDepth : ∀ (d : Nat) (v : Value) (t : Ty) (w : World), TyAt w d v t → t.size ≤ 1152921504606846976 →
    Calls Tryz.prog 85 #[v] w fun e w' => e = .returned (.int .i64 (t.depth : Int)) ∧ Below w.heap.size w w'
  | 0, _, _, _, h, _ => h.elim
  | d + 1, v, .node kd ts, w, h, hsz => by
    have IH : Hid (∀ (v : Value) (t : Ty) (w : World), TyAt w d v t → t.size ≤ 1152921504606846976 → Calls Tryz.prog 85 #[v] w fun e w' => e = .returned (.int .i64 (t.depth : Int)) ∧ Below w.heap.size w w') := specDepth d
    obtain ⟨sl, rfl, hk0, hk1, a, cap, rfl, hcap, hcap2, hat⟩ := h
    have HAT := Lib.hid hat; clear hat
    have hlen : ts.length ≤ 1152921504606846976 := by have := Ty.length_le ts; simp [Ty.size] at hsz; omega
    have HSZ : Hid (Ty.sizes ts + 1 ≤ 1152921504606846976) := by simp [Ty.size] at hsz; show _ ≤ _; omega
    clear hsz
    go_enter Tryz.func85, Tryz.ntmps85
    go_wp2_with fail
    go_loopw [3, 4] (fun n i wr => ∃ k : Nat, k ≤ ts.length ∧ i = .int .i64 k ∧ n = .int .i64 (Ty.depths (ts.take k) : Int) ∧ Below (w.heap.size + 1) (w.alloc (.cells #[.int .i64 kd, .slice a ts.length cap] 33)) wr) (fun _ i _ => ts.length - (intOf i).toNat)
    case atStart => exact ⟨0, by omega, rfl, by simp [Ty.depths], Below.refl _ _⟩
    case round =>
      obtain ⟨k, hk, rfl, rfl, hb⟩ := hrel
      have c1 := box_cell hb 1
      have HB := Lib.hid (box_below hb)
      have HBX := Lib.hid hb; clear hb
      have HS1 := Ty.sizes_le ts k
      have HS2 := HSZ.out
      by_cases hlt : k < ts.length
      · obtain ⟨b, off, x0, x1, rfl, hbl, hc0, hc1, ht⟩ := HAT.out k hlt
        have hg := Ty.size_get ts k hlt
        have e0 : wr.cell? ⟨b, off + k * 2, none⟩ = some x0 := by rw [HB.out.cell (p := ⟨b, off + k * 2, none⟩) hbl]; exact hc0
        have e1 : wr.cell? ⟨b, off + k * 2 + 1, none⟩ = some x1 := by rw [HB.out.cell (p := ⟨b, off + k * 2 + 1, none⟩) hbl]; exact hc1
        have HT := Lib.hid (ht.below HB.out)
        clear ht hc0 hc1
        go_wp2_with fail
        refine (IH.out _ _ wr HT.out (by omega)).mono ?_
        rintro e w' ⟨rfl, hb1⟩
        have HN := Lib.hid (box_next HBX.out hb1)
        have HT2 := Lib.hid (Ty.depths_take ts k hlt)
        have D1 : Ty.depths (ts.take k) ≤ 1152921504606846976 := by have := Ty.depths_le (ts.take k); omega
        have D2 : ts[k].depth ≤ 1152921504606846976 := by have := ts[k].depth_le; omega
        clear hb1
        go_wp2_with fail
        refine (specMax _ _ w').mono ?_
        rintro e w2 ⟨rfl, rfl⟩
        go_wp2_with fail
        exact ⟨⟨k + 1, by omega, by go_num, by rw [HT2.out]; go_num, HN.out⟩, by simp [intOf]; omega⟩
      · obtain rfl : k = ts.length := by omega
        have D1 : Ty.depths (ts.take ts.length) ≤ 1152921504606846976 := by have := Ty.depths_le (ts.take ts.length); omega
        rw [List.take_length] at D1 ⊢
        go_wp2_with fail
        go_ret
        refine ⟨?_, HB.out⟩
        show Ending.returned (.int .i64 ((Ty.depths ts : Int) + 1)) = Ending.returned (.int .i64 ((1 + Ty.depths ts : Nat) : Int))
        rw [show ((1 + Ty.depths ts : Nat) : Int) = (Ty.depths ts : Int) + 1 from by omega]
end Go.Proofs.YteffjeejbdjjpaaGreatDoor
/-
  Proved: spec.l3Form says whether every node of a tree has as many parts as its kind asks, and spec.l3Left takes a tree's nodes from what is left; both leave the memory that was there as it was.
-/
namespace Go.Proofs.YteffjeejbdjjpaaGreatDoor
open Go.RowKit

/-- A node of kind k has n parts: none for the kinds 1 to 3, two for 4 and 5; there is no other kind. -/
def kindOk (k : Int) (n : Nat) : Bool := if k = 1 ∨ k = 2 ∨ k = 3 then decide (n = 0) else if k = 4 ∨ k = 5 then decide (n = 2) else false
theorem len0 (n : Nat) : ((n : Int) == 0) = decide (n = 0) := by
  by_cases h : n = 0
  · subst h; rfl
  · rw [decide_eq_false h]; exact beq_false_of_ne (by omega)
theorem len2 (n : Nat) : ((n : Int) == 2) = decide (n = 2) := by
  by_cases h : n = 2
  · subst h; rfl
  · rw [decide_eq_false h]; exact beq_false_of_ne (by omega)
mutual
def Ty.form : Ty → Bool
  | .node k ts => Ty.forms ts && kindOk k ts.length
def Ty.forms : List Ty → Bool
  | [] => true
  | t :: r => t.form && Ty.forms r
end
theorem Ty.forms_take (ts : List Ty) : ∀ k (h : k < ts.length), Ty.forms (ts.take (k + 1)) = (Ty.forms (ts.take k) && ts[k].form) := by
  induction ts with
  | nil => intro k h; simp at h
  | cons s r ih =>
    intro k h
    cases k with
    | zero => simp [Ty.forms]
    | succ k =>
      simp only [List.take_succ_cons, Ty.forms, List.getElem_cons_succ]
      rw [ih k (by simpa using h), Bool.and_assoc]
theorem Ty.forms_false (ts : List Ty) (k : Nat) (h : Ty.forms (ts.take k) = false) : Ty.forms ts = false := by
  induction ts generalizing k with
  | nil => simp [Ty.forms] at h
  | cons s r ih =>
    cases k with
    | zero => simp [Ty.forms] at h
    | succ k =>
      simp only [List.take_succ_cons, Ty.forms, Bool.and_eq_false_iff] at h ⊢
      rcases h with h | h
      · exact Or.inl h
      · exact Or.inr (ih k h)

set_option maxRecDepth 100000 in
set_option maxHeartbeats 2000000 in
theorem specForm : ∀ (d : Nat) (v : Value) (t : Ty) (w : World), TyAt w d v t → t.size ≤ 1152921504606846976 →
    Calls Tryz.prog 86 #[v] w fun e w' => e = .returned (.bool t.form) ∧ Below w.heap.size w w'
  | 0, _, _, _, h, _ => h.elim
  | d + 1, v, .node kd ts, w, h, hsz => by
    have IH : Hid (∀ (v : Value) (t : Ty) (w : World), TyAt w d v t → t.size ≤ 1152921504606846976 → Calls Tryz.prog 86 #[v] w fun e w' => e = .returned (.bool t.form) ∧ Below w.heap.size w w') := specForm d
    obtain ⟨sl, rfl, hk0, hk1, a, cap, rfl, hcap, hcap2, hat⟩ := h
    have HAT := Lib.hid hat; clear hat
    have hlen : ts.length ≤ 1152921504606846976 := by have := Ty.length_le ts; simp [Ty.size] at hsz; omega
    have HSZ : Hid (Ty.sizes ts + 1 ≤ 1152921504606846976) := by simp [Ty.size] at hsz; show _ ≤ _; omega
    clear hsz
    go_enter Tryz.func86, Tryz.ntmps86
    go_wp2_with fail
    go_loopw [3] (fun i wr => ∃ k : Nat, k ≤ ts.length ∧ i = .int .i64 k ∧ Ty.forms (ts.take k) = true ∧ Below (w.heap.size + 1) (w.alloc (.cells #[.int .i64 kd, .slice a ts.length cap] 33)) wr) (fun i _ => ts.length - (intOf i).toNat)
    case atStart => exact ⟨0, by omega, rfl, by simp [Ty.forms], Below.refl _ _⟩
    case round =>
      obtain ⟨k, hk, rfl, hf, hb⟩ := hrel
      have HF := Lib.hid hf; clear hf
      have c0 := box_cell hb 0
      have c1 := box_cell hb 1
      have HB := Lib.hid (box_below hb)
      have HBX := Lib.hid hb; clear hb
      have HS2 := HSZ.out
      by_cases hlt : k < ts.length
      · obtain ⟨b, off, x0, x1, rfl, hbl, hc0, hc1, ht⟩ := HAT.out k hlt
        have hg := Ty.size_get ts k hlt
        have e0 : wr.cell? ⟨b, off + k * 2, none⟩ = some x0 := by rw [HB.out.cell (p := ⟨b, off + k * 2, none⟩) hbl]; exact hc0
        have e1 : wr.cell? ⟨b, off + k * 2 + 1, none⟩ = some x1 := by rw [HB.out.cell (p := ⟨b, off + k * 2 + 1, none⟩) hbl]; exact hc1
        have HT := Lib.hid (ht.below HB.out)
        clear ht hc0 hc1
        go_wp2_with fail
        refine (IH.out _ _ wr HT.out (by omega)).mono ?_
        rintro e w' ⟨rfl, hb1⟩
        have HN := Lib.hid (box_next HBX.out hb1); clear hb1
        have HT2 := Lib.hid (Ty.forms_take ts k hlt)
        cases hfk : ts[k].form with
        | true =>
          have HFK := Lib.hid hfk; clear hfk
          go_wp2_with fail
          exact ⟨⟨k + 1, by omega, by go_num, by rw [HT2.out, HF.out, HFK.out]; rfl, HN.out⟩, by simp [intOf]; omega⟩
        | false =>
          have HFK := Lib.hid hfk; clear hfk
          go_wp2_with fail
          go_ret
          have e : Ty.forms ts = false := Ty.forms_false ts (k + 1) (by rw [HT2.out, HF.out, HFK.out]; rfl)
          exact ⟨by simp [Ty.form, e], box_below HN.out⟩
      · obtain rfl : k = ts.length := by omega
        have HFT : Hid (Ty.forms ts = true) := by have := HF.out; rw [List.take_length] at this; exact this
        have done : ∀ b, kindOk kd ts.length = b → (Ty.node kd ts).form = b := fun b h => by simp [Ty.form, HFT.out, h]
        have HD := Lib.hid done; clear done
        by_cases q1 : kd = 1
        · subst q1
          go_wp2_with fail
          go_ret
          exact ⟨by rw [HD.out _ rfl]; simp [kindOk, -List.length_eq_zero_iff, len0], HB.out⟩
        · by_cases q2 : kd = 2
          · subst q2
            go_wp2_with fail
            go_ret
            exact ⟨by rw [HD.out _ rfl]; simp [kindOk, -List.length_eq_zero_iff, len0], HB.out⟩
          · by_cases q3 : kd = 3
            · subst q3
              go_wp2_with fail
              go_ret
              exact ⟨by rw [HD.out _ rfl]; simp [kindOk, -List.length_eq_zero_iff, len0], HB.out⟩
            · by_cases q4 : kd = 4
              · subst q4
                go_wp2_with fail
                go_ret
                exact ⟨by rw [HD.out _ rfl]; simp [kindOk, -List.length_eq_zero_iff, len2], HB.out⟩
              · by_cases q5 : kd = 5
                · subst q5
                  go_wp2_with fail
                  go_ret
                  exact ⟨by rw [HD.out _ rfl]; simp [kindOk, -List.length_eq_zero_iff, len2], HB.out⟩
                · go_wp2_with fail
                  go_ret
                  exact ⟨by rw [HD.out _ rfl]; simp [kindOk, q1, q2, q3, q4, q5], HB.out⟩
end Go.Proofs.YteffjeejbdjjpaaGreatDoor
namespace Go.Proofs.YteffjeejbdjjpaaGreatDoor
open Go.RowKit

set_option maxRecDepth 100000 in
theorem specBoolType (w : World) : Calls Tryz.prog 57 #[] w fun e w' => e = .returned (.agg #[.int .i64 3, .slice none 0 0]) ∧ Below w.heap.size w w' := by
  go_enter Tryz.func57, Tryz.ntmps57
  go_wp2_with fail
  refine bodyPost_ret (v := .agg #[.int .i64 3, .slice none 0 0]) (by simp [results, Tryz.results57, go_sem]) rfl ?_
  exact ⟨rfl, below_alloc _ _⟩
theorem leaf_at (w : World) (k : Int) (h0 : 0 ≤ k) (h1 : k ≤ 255) : TyAt w 1 (.agg #[.int .i64 k, .slice none 0 0]) (.node k []) :=
  ⟨_, rfl, by omega, by omega, none, 0, rfl, Nat.le_refl _, by omega, fun j hj => by simp at hj⟩
mutual
theorem Ty.beq_refl : ∀ t : Ty, t.beq t = true
  | .node k ts => by unfold Ty.beq; simp [Ty.beqs_refl ts]
theorem Ty.beqs_refl : ∀ ts : List Ty, Ty.beqs ts ts = true
  | [] => by unfold Ty.beqs; rfl
  | a :: r => by unfold Ty.beqs; simp [Ty.beq_refl a, Ty.beqs_refl r]
end
end Go.Proofs.YteffjeejbdjjpaaGreatDoor
