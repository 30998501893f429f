/-
  Proved: spec.IsNote says whether a type's tree is a note; it leaves the memory that was there as it was.
-/
import Derived.Test.YteffjeejbdjjpaaGreatDoorWellG1
import Derived.Test.YteffjeejbdjjpaaGreatDoorWellG3
import Derived.Deep.QuietTactic
import Derived.Test.YteffjeejbdjjpaaGreatDoorWellG4
import Derived.Deep.AppendLies
import Derived.Test.YteffjeejbdjjpaaGreatDoorWellG2
/-
  Proved: plain facts for loops over a type's parts: a part's value is a kind and a slice; the box that a round lays for it holds it.
-/
namespace Go.Proofs.YteffjeejbdjjpaaGreatDoor
open Go.RowKit

theorem at_parts {w : World} {d : Nat} {x0 x1 : Value} {t : Ty} (h : TyAt w d (.agg #[x0, x1]) t) : ∃ k a n c, x0 = .int .i64 k ∧ x1 = .slice a n c := by
  cases d with
  | zero => exact h.elim
  | succ d =>
    cases t with
    | node k ts =>
      obtain ⟨sl, hv, h0, h1, a, cap, rfl, h2⟩ := h
      injection hv with hv
      injection hv with hv
      simp at hv
      exact ⟨_, _, _, _, hv.1, hv.2⟩
theorem agg_parts {w : World} {d : Nat} {v : Value} {t : Ty} (h : TyAt w d v t) : ∃ k a n c, v = .agg #[.int .i64 k, .slice a n c] := by
  cases d with
  | zero => exact h.elim
  | succ d =>
    cases t with
    | node k ts =>
      obtain ⟨sl, rfl, h0, h1, a, cap, rfl, h2⟩ := h
      exact ⟨_, _, _, _, rfl⟩
end Go.Proofs.YteffjeejbdjjpaaGreatDoor
/-
  Proved: impl.nodeOf says which of the five kinds a type's root has (nil if it has none of their forms), and leaves the memory that was there as it was.
-/
namespace Go.Proofs.YteffjeejbdjjpaaGreatDoor
open Go.RowKit

theorem below_drewN {B : Nat} {a w : World} (h : Below B a w) (n : Nat) : Below B a (w.drewN n) := ⟨h.os, h.tape, h.output, h.size, h.block⟩
/-- What nodeOf gives for a root of kind k with the parts ts. -/
def NodeAt (w : World) (d : Nat) (n : Value) (k : Int) (ts : List Ty) : Prop :=
  (kindOk k ts.length = false ∧ n = .nilIface) ∨
  (kindOk k ts.length = true ∧ ts = [] ∧ ((k = 1 ∧ n = .iface 129 (.agg #[])) ∨ (k = 2 ∧ n = .iface 130 (.agg #[])) ∨ (k = 3 ∧ n = .iface 131 (.agg #[])))) ∨
  (kindOk k ts.length = true ∧ ∃ t1 t2 k1 s1 k2 s2, ts = [t1, t2] ∧ TyAt w d (.agg #[.int .i64 k1, s1]) t1 ∧ TyAt w d (.agg #[.int .i64 k2, s2]) t2 ∧
    ((k = 4 ∧ n = .iface 133 (.agg #[.int .i64 k1, s1, .int .i64 k2, s2])) ∨ (k = 5 ∧ n = .iface 135 (.agg #[.int .i64 k1, s1, .int .i64 k2, s2]))))
def NodeEnd (w0 w : World) (d : Nat) (k : Int) (ts : List Ty) (e : Ending) (w' : World) : Prop :=
  ∃ n, e = .returned n ∧ NodeAt w0 d n k ts ∧ Below w.heap.size w w'
theorem node_bad {w0 w w' : World} {d : Nat} {k : Int} {ts : List Ty} (h : kindOk k ts.length = false) (hb : Below w.heap.size w w') : NodeEnd w0 w d k ts (.returned .nilIface) w' :=
  ⟨_, rfl, Or.inl ⟨h, rfl⟩, hb⟩
theorem two_of {d : Nat} {w : World} {ts : List Ty} {a : Option Addr} (hl : ts.length = 2)
    (hat : ∀ j (h : j < ts.length), ∃ b off c0 c1, a = some ⟨b, off, none⟩ ∧ b < w.heap.size ∧ w.cell? ⟨b, off + j * 2, none⟩ = some c0 ∧ w.cell? ⟨b, off + j * 2 + 1, none⟩ = some c1 ∧ TyAt w d (.agg #[c0, c1]) ts[j]) :
    ∃ t1 t2 k1 s1 n1 c1 k2 s2 n2 c2 b off, ts = [t1, t2] ∧ a = some ⟨b, off, none⟩ ∧ b < w.heap.size ∧ w.cell? ⟨b, off, none⟩ = some (.int .i64 k1) ∧ w.cell? ⟨b, off + 1, none⟩ = some (.slice s1 n1 c1) ∧ w.cell? ⟨b, off + 2, none⟩ = some (.int .i64 k2) ∧ w.cell? ⟨b, off + 3, none⟩ = some (.slice s2 n2 c2) ∧
      TyAt w d (.agg #[.int .i64 k1, .slice s1 n1 c1]) t1 ∧ TyAt w d (.agg #[.int .i64 k2, .slice s2 n2 c2]) t2 := by
  match ts, hl, hat with
  | [t1, t2], _, hat =>
    obtain ⟨b, off, x0, x1, rfl, hbl, h0, h1, ht1⟩ := hat 0 (by simp)
    obtain ⟨b', off', y0, y1, he, _, h2, h3, ht2⟩ := hat 1 (by simp)
    cases he
    obtain ⟨k1, s1, n1, c1, rfl, rfl⟩ := at_parts ht1
    obtain ⟨k2, s2, n2, c2, rfl, rfl⟩ := at_parts ht2
    exact ⟨t1, t2, k1, s1, n1, c1, k2, s2, n2, c2, b, off, rfl, rfl, hbl, by simpa using h0, by simpa using h1, by simpa using h2, by simpa [Nat.add_assoc] using h3, ht1, ht2⟩

set_option maxRecDepth 100000 in
set_option maxHeartbeats 2000000 in
theorem implNode (w0 : World) (d : Nat) (v : Value) (kd : Int) (ts : List Ty) (w : World) (h : TyAt w0 (d + 1) v (.node kd ts)) (hw : Below w0.heap.size w0 w) (hsz : ts.length ≤ 1152921504606846976) :
    Calls Tryz.prog 110 #[v] w (NodeEnd w0 w d kd ts) := by
  have HW := Lib.hid hw; clear hw
  obtain ⟨sl, rfl, hk0, hk1, a, cap, rfl, hcap, hcap2, hat⟩ := h
  have HAT := Lib.hid hat; clear hat
  obtain ⟨n, hn⟩ : ∃ n, n = ts.length := ⟨_, rfl⟩
  have HN := Lib.hid hn
  rw [← hn] at hcap hsz ⊢
  clear hn
  by_cases q1 : kd = 1
  · subst q1
    by_cases z : n = 0
    · subst z
      go_enter Tryz.func110, Tryz.ntmps110
      go_wp2_with fail
      go_ret
      have hts : ts = [] := List.eq_nil_of_length_eq_zero HN.out.symm
      exact ⟨_, rfl, Or.inr (Or.inl ⟨by rw [hts]; rfl, hts, Or.inl ⟨rfl, rfl⟩⟩), below_alloc _ _⟩
    · have z2 : ¬ ((n : Int) = 0) := by omega
      go_enter Tryz.func110, Tryz.ntmps110
      go_wp2_with fail
      go_ret
      exact node_bad (by rw [← HN.out]; simp [kindOk, z]) (below_alloc _ _)
  by_cases q2 : kd = 2
  · subst q2
    by_cases z : n = 0
    · subst z
      go_enter Tryz.func110, Tryz.ntmps110
      go_wp2_with fail
      go_ret
      have hts : ts = [] := List.eq_nil_of_length_eq_zero HN.out.symm
      exact ⟨_, rfl, Or.inr (Or.inl ⟨by rw [hts]; rfl, hts, Or.inr (Or.inl ⟨rfl, rfl⟩)⟩), below_alloc _ _⟩
    · have z2 : ¬ ((n : Int) = 0) := by omega
      go_enter Tryz.func110, Tryz.ntmps110
      go_wp2_with fail
      go_ret
      exact node_bad (by rw [← HN.out]; simp [kindOk, z]) (below_alloc _ _)
  by_cases q3 : kd = 3
  · subst q3
    by_cases z : n = 0
    · subst z
      go_enter Tryz.func110, Tryz.ntmps110
      go_wp2_with fail
      go_ret
      have hts : ts = [] := List.eq_nil_of_length_eq_zero HN.out.symm
      exact ⟨_, rfl, Or.inr (Or.inl ⟨by rw [hts]; rfl, hts, Or.inr (Or.inr ⟨rfl, rfl⟩)⟩), below_alloc _ _⟩
    · have z2 : ¬ ((n : Int) = 0) := by omega
      go_enter Tryz.func110, Tryz.ntmps110
      go_wp2_with fail
      go_ret
      exact node_bad (by rw [← HN.out]; simp [kindOk, z]) (below_alloc _ _)
  by_cases q4 : kd = 4
  · subst q4
    by_cases z : n = 2
    · subst z
      obtain ⟨t1, t2, k1, s1, n1, c1, k2, s2, n2, c2, b, off, hts, rfl, hbl0, g0, g1, g2, g3, ht1, ht2⟩ := two_of HN.out.symm HAT.out
      have HTS := Lib.hid hts
      have H1 := Lib.hid ht1
      have H2 := Lib.hid ht2
      clear hts ht1 ht2 HAT
      have hbl := Nat.lt_of_lt_of_le hbl0 HW.out.size
      have h0 := (HW.out.cell (p := ⟨b, off, none⟩) hbl0).trans g0
      have h1 := (HW.out.cell (p := ⟨b, off + 1, none⟩) hbl0).trans g1
      have h2 := (HW.out.cell (p := ⟨b, off + 2, none⟩) hbl0).trans g2
      have h3 := (HW.out.cell (p := ⟨b, off + 3, none⟩) hbl0).trans g3
      clear g0 g1 g2 g3
      have hb2 : ¬ (b = w.heap.size) := by omega
      go_enter Tryz.func110, Tryz.ntmps110
      go_wp2_with fail
      go_quiet (fail)
      go_wp2_with fail
      go_ret
      have X : ∀ nq, Below w.heap.size w ((w.alloc (.cells #[.int .i64 4, .slice (some ⟨b, off, none⟩) 2 cap] 33)).drewN nq) := fun nq => below_drewN (below_alloc _ _) nq
      exact ⟨_, rfl, Or.inr (Or.inr ⟨by rw [HTS.out]; rfl, t1, t2, k1, _, k2, _, HTS.out, H1.out, H2.out, Or.inl ⟨rfl, rfl⟩⟩), X _⟩
    · have z2 : ¬ ((n : Int) = 2) := by omega
      go_enter Tryz.func110, Tryz.ntmps110
      go_wp2_with fail
      go_ret
      exact node_bad (by rw [← HN.out]; simp [kindOk, z]) (below_alloc _ _)
  by_cases q5 : kd = 5
  · subst q5
    by_cases z : n = 2
    · subst z
      obtain ⟨t1, t2, k1, s1, n1, c1, k2, s2, n2, c2, b, off, hts, rfl, hbl0, g0, g1, g2, g3, ht1, ht2⟩ := two_of HN.out.symm HAT.out
      have HTS := Lib.hid hts
      have H1 := Lib.hid ht1
      have H2 := Lib.hid ht2
      clear hts ht1 ht2 HAT
      have hbl := Nat.lt_of_lt_of_le hbl0 HW.out.size
      have h0 := (HW.out.cell (p := ⟨b, off, none⟩) hbl0).trans g0
      have h1 := (HW.out.cell (p := ⟨b, off + 1, none⟩) hbl0).trans g1
      have h2 := (HW.out.cell (p := ⟨b, off + 2, none⟩) hbl0).trans g2
      have h3 := (HW.out.cell (p := ⟨b, off + 3, none⟩) hbl0).trans g3
      clear g0 g1 g2 g3
      have hb2 : ¬ (b = w.heap.size) := by omega
      go_enter Tryz.func110, Tryz.ntmps110
      go_wp2_with fail
      go_quiet (fail)
      go_wp2_with fail
      go_ret
      have X : ∀ nq, Below w.heap.size w ((w.alloc (.cells #[.int .i64 5, .slice (some ⟨b, off, none⟩) 2 cap] 33)).drewN nq) := fun nq => below_drewN (below_alloc _ _) nq
      exact ⟨_, rfl, Or.inr (Or.inr ⟨by rw [HTS.out]; rfl, t1, t2, k1, _, k2, _, HTS.out, H1.out, H2.out, Or.inr ⟨rfl, rfl⟩⟩), X _⟩
    · have z2 : ¬ ((n : Int) = 2) := by omega
      go_enter Tryz.func110, Tryz.ntmps110
      go_wp2_with fail
      go_ret
      exact node_bad (by rw [← HN.out]; simp [kindOk, z]) (below_alloc _ _)
  go_enter Tryz.func110, Tryz.ntmps110
  go_wp2_with fail
  go_ret
  exact node_bad (by rw [← HN.out]; simp [kindOk, q1, q2, q3, q4, q5]) (below_alloc _ _)
end Go.Proofs.YteffjeejbdjjpaaGreatDoor
/-
  Proved: the method parts of each of the five nodes gives the parts of a type (none for the first three), and leaves the memory that was there as it was; which function a call of parts through the interface runs.
-/
namespace Go.Proofs.YteffjeejbdjjpaaGreatDoor
open Go.RowKit

theorem meth_unknown (n : Nat) (w : World) : (method (n + 1) 129 (.agg #[]) "loop.example/g00585/impl.parts").run Tryz.prog w = .ok (147, .agg #[]) w := by kernel_rfl
theorem meth_num (n : Nat) (w : World) : (method (n + 1) 130 (.agg #[]) "loop.example/g00585/impl.parts").run Tryz.prog w = .ok (148, .agg #[]) w := by kernel_rfl
theorem meth_bool (n : Nat) (w : World) : (method (n + 1) 131 (.agg #[]) "loop.example/g00585/impl.parts").run Tryz.prog w = .ok (149, .agg #[]) w := by kernel_rfl
theorem meth_arrow (n : Nat) (w : World) (a b c d : Value) : (method (n + 1) 133 (.agg #[a, b, c, d]) "loop.example/g00585/impl.parts").run Tryz.prog w = .ok (150, .agg #[a, b, c, d]) w := by kernel_rfl
theorem meth_pair (n : Nat) (w : World) (a b c d : Value) : (method (n + 1) 135 (.agg #[a, b, c, d]) "loop.example/g00585/impl.parts").run Tryz.prog w = .ok (151, .agg #[a, b, c, d]) w := by kernel_rfl

set_option maxRecDepth 100000 in
theorem parts_unknown (w : World) : Calls Tryz.prog 147 #[.agg #[]] w fun e w' => e = .returned (.slice none 0 0) ∧ Below w.heap.size w w' := by
  go_enter Tryz.func147, Tryz.ntmps147
  go_wp2_with fail
  go_ret
  exact ⟨rfl, below_alloc _ _⟩
set_option maxRecDepth 100000 in
theorem parts_num (w : World) : Calls Tryz.prog 148 #[.agg #[]] w fun e w' => e = .returned (.slice none 0 0) ∧ Below w.heap.size w w' := by
  go_enter Tryz.func148, Tryz.ntmps148
  go_wp2_with fail
  go_ret
  exact ⟨rfl, below_alloc _ _⟩
set_option maxRecDepth 100000 in
theorem parts_bool (w : World) : Calls Tryz.prog 149 #[.agg #[]] w fun e w' => e = .returned (.slice none 0 0) ∧ Below w.heap.size w w' := by
  go_enter Tryz.func149, Tryz.ntmps149
  go_wp2_with fail
  go_ret
  exact ⟨rfl, below_alloc _ _⟩
def PartsEnd (w0 : World) (d : Nat) (t1 t2 : Ty) (w : World) (e : Ending) (w' : World) : Prop :=
  ∃ b, e = .returned (.slice (some ⟨b, 0, none⟩) 2 2) ∧ RowIn (TyAt w0 d) w' w.heap.size (.slice (some ⟨b, 0, none⟩) 2 2) [t1, t2] ∧ Below w.heap.size w w'
theorem tys_two {w0 w : World} {d b lo : Nat} {t1 t2 : Ty} {k1 k2 : Int} {s1 s2 : Value} (hlo : lo ≤ b) (hb : b < w.heap.size) (h0 : w.cell? ⟨b, 0, none⟩ = some (.int .i64 k1)) (h1 : w.cell? ⟨b, 1, none⟩ = some s1) (h2 : w.cell? ⟨b, 2, none⟩ = some (.int .i64 k2)) (h3 : w.cell? ⟨b, 3, none⟩ = some s2)
    (ht1 : TyAt w0 d (.agg #[.int .i64 k1, s1]) t1) (ht2 : TyAt w0 d (.agg #[.int .i64 k2, s2]) t2) : RowIn (TyAt w0 d) w lo (.slice (some ⟨b, 0, none⟩) 2 2) [t1, t2] := by
  refine ⟨_, _, rfl, Nat.le_refl _, by simp, fun j hj => ?_⟩
  match j, hj with
  | 0, _ => exact ⟨b, 0, _, _, rfl, hlo, hb, by simpa using h0, by simpa using h1, ht1⟩
  | 1, _ => exact ⟨b, 0, _, _, rfl, hlo, hb, by simpa using h2, by simpa using h3, ht2⟩
theorem box_four {w : World} {a b c d : Value} {T : TypeId} : BoxAt ((w.alloc (.cells #[a, b, c, d] T)).alloc (.cells #[a, b, c, d] 33)) (w.heap.size + 1) #[a, b, c, d] := by
  have h := BoxAt.new (w.alloc (.cells #[a, b, c, d] T)) #[a, b, c, d] 33
  rw [show (w.alloc (.cells #[a, b, c, d] T)).heap.size = w.heap.size + 1 from by simp] at h
  exact h
set_option maxRecDepth 100000 in
set_option maxHeartbeats 1000000 in
theorem parts_arrow (w0 : World) (d : Nat) (t1 t2 : Ty) (k1 k2 : Int) (v1 v2 : Value) (w : World) (h1 : TyAt w0 d (.agg #[.int .i64 k1, v1]) t1) (h2 : TyAt w0 d (.agg #[.int .i64 k2, v2]) t2) :
    Calls Tryz.prog 150 #[.agg #[.int .i64 k1, v1, .int .i64 k2, v2]] w (PartsEnd w0 d t1 t2 w) := by
  obtain ⟨_, s1, n1, c1, _, rfl⟩ := at_parts h1
  obtain ⟨_, s2, n2, c2, _, rfl⟩ := at_parts h2
  have H1 := Lib.hid h1
  have H2 := Lib.hid h2
  clear h1 h2
  go_enter Tryz.func150, Tryz.ntmps150
  go_wp2_with fail
  go_ret
  have X := ((Below.refl w.heap.size w).alloc (Nat.le_refl _) (.cells #[.int .i64 k1, .slice s1 n1 c1, .int .i64 k2, .slice s2 n2 c2] 133)).alloc (by simp) (.cells #[.int .i64 k1, .slice s1 n1 c1, .int .i64 k2, .slice s2 n2 c2] 33)
  have Y := box_four (w := w) (a := .int .i64 k1) (b := .slice s1 n1 c1) (c := .int .i64 k2) (d := .slice s2 n2 c2) (T := 133)
  exact ⟨_, rfl, tys_two (by omega) Y.1 (Y.2 0) (Y.2 1) (Y.2 2) (Y.2 3) H1.out H2.out, X⟩
set_option maxRecDepth 100000 in
set_option maxHeartbeats 1000000 in
theorem parts_pair (w0 : World) (d : Nat) (t1 t2 : Ty) (k1 k2 : Int) (v1 v2 : Value) (w : World) (h1 : TyAt w0 d (.agg #[.int .i64 k1, v1]) t1) (h2 : TyAt w0 d (.agg #[.int .i64 k2, v2]) t2) :
    Calls Tryz.prog 151 #[.agg #[.int .i64 k1, v1, .int .i64 k2, v2]] w (PartsEnd w0 d t1 t2 w) := by
  obtain ⟨_, s1, n1, c1, _, rfl⟩ := at_parts h1
  obtain ⟨_, s2, n2, c2, _, rfl⟩ := at_parts h2
  have H1 := Lib.hid h1
  have H2 := Lib.hid h2
  clear h1 h2
  go_enter Tryz.func151, Tryz.ntmps151
  go_wp2_with fail
  go_ret
  have X := ((Below.refl w.heap.size w).alloc (Nat.le_refl _) (.cells #[.int .i64 k1, .slice s1 n1 c1, .int .i64 k2, .slice s2 n2 c2] 135)).alloc (by simp) (.cells #[.int .i64 k1, .slice s1 n1 c1, .int .i64 k2, .slice s2 n2 c2] 33)
  have Y := box_four (w := w) (a := .int .i64 k1) (b := .slice s1 n1 c1) (c := .int .i64 k2) (d := .slice s2 n2 c2) (T := 135)
  exact ⟨_, rfl, tys_two (by omega) Y.1 (Y.2 0) (Y.2 1) (Y.2 2) (Y.2 3) H1.out H2.out, X⟩
end Go.Proofs.YteffjeejbdjjpaaGreatDoor
/-
  Proved: plain facts on a row of trees that a call builds by append: each tree has blocks of its own, apart from the row's.
-/
namespace Go.Proofs.YteffjeejbdjjpaaGreatDoor
open Go.RowKit

def CopyRow (w : World) (base d : Nat) (v : Value) (ts : List Ty) : Prop :=
  ∃ cs fps, w.ownsRow base 33 2 v ts.length cs ∧ fps.length = ts.length ∧ Fp base w.heap.size (List.flatten fps) ∧ (∀ g, v.ownBlock = some g → g ∉ List.flatten fps) ∧
    ∀ j (h : j < ts.length), ∃ c0 c1 f, cs[j * 2]? = some c0 ∧ cs[j * 2 + 1]? = some c1 ∧ fps[j]? = some f ∧ TyOwn w d (.agg #[c0, c1]) ts[j] f
theorem CopyRow.nil (w : World) (base d : Nat) : CopyRow w base d (.slice none 0 0) [] :=
  ⟨[], [], World.ownsRow_nil _ _ _ _, rfl, Fp.nil _ _, fun g hg => by simp, fun j hj => by simp at hj⟩
theorem flat_mem {fps : List (List Nat)} {j b : Nat} {f : List Nat} (h : fps[j]? = some f) (hb : b ∈ f) : b ∈ fps.flatten := List.mem_flatten.2 ⟨f, List.mem_of_getElem? h, hb⟩
theorem CopyRow.kept {w w' : World} {base d : Nat} {v : Value} {ts : List Ty} (h : CopyRow w base d v ts) (hz : w.heap.size ≤ w'.heap.size) (hk : ∀ b, base ≤ b → b < w.heap.size → w'.heap[b]? = w.heap[b]?) : CopyRow w' base d v ts := by
  obtain ⟨cs, fps, hown, hl, hf, hg, hat⟩ := h
  have hlt := hown.lt
  refine ⟨cs, fps, ⟨hown.1, ?_⟩, hl, hf.mono (Nat.le_refl _) hz, hg, fun j hj => ?_⟩
  · rcases hown.2 with h | ⟨g, cap, cur, rfl, r1, r2, r3⟩
    · exact Or.inl h
    · exact Or.inr ⟨g, cap, cur, rfl, r1, by rw [hk g (hlt g rfl).1 (hlt g rfl).2]; exact r2, r3⟩
  · obtain ⟨c0, c1, f, h0, h1, h2, h3⟩ := hat j hj
    exact ⟨c0, c1, f, h0, h1, h2, h3.kept hz fun b hb => by have := hf.2 b (flat_mem h2 hb); exact hk b this.1 this.2⟩
theorem CopyRow.below {w w' : World} {base d : Nat} {v : Value} {ts : List Ty} (h : CopyRow w base d v ts) (hb : Below w.heap.size w w') : CopyRow w' base d v ts :=
  h.kept hb.size fun b _ hlt => hb.block b hlt
theorem CopyRow.stored {w : World} {base d : Nat} {v : Value} {ts : List Ty} (h : CopyRow w base d v ts) {p o : Nat} (hp : p < base) (u : Value) : CopyRow (w.setCell ⟨p, o, none⟩ u) base d v ts :=
  h.kept (by simp) fun b hb _ => heap_setCell_other _ _ _ _ (by simp; omega)
theorem CopyRow.form {w : World} {base d : Nat} {v : Value} {ts : List Ty} (h : CopyRow w base d v ts) : ∃ a c, v = .slice a ts.length c := by
  obtain ⟨cs, fps, hown, _⟩ := h
  rcases hown.2 with ⟨h1, h2⟩ | ⟨g, cap, cur, h1, _⟩
  · exact ⟨none, 0, by rw [h1, h2]⟩
  · exact ⟨_, cap, h1⟩
/-- An element is appended: wr is the world ahead of the element, w' the one behind it, w1 the one behind the append. -/
theorem CopyRow.append {wr w' : World} {base d : Nat} {v z0 z1 : Value} {ts : List Ty} {t : Ty} {f : List Nat} (h : CopyRow wr base d v ts) (hb : Below wr.heap.size wr w') (hbase : base ≤ wr.heap.size)
    (ht : TyOwn w' d (.agg #[z0, z1]) t f) (hft : Fp wr.heap.size w'.heap.size f) :
    ∃ cs, w'.ownsRow base 33 2 v ts.length cs ∧ ∀ (o : Obj) (g cap : Nat) (w1 : World), w1.ownsRow base 33 2 (.slice (some ⟨g, 0, none⟩) (ts.length + 1) cap) (ts.length + 1) (cs ++ [z0, z1]) →
      (w'.alloc o).grownBy w1 v.ownBlock → (v.ownBlock = some g ∨ g = w'.heap.size + 1) → CopyRow w1 base d (.slice (some ⟨g, 0, none⟩) (ts.length + 1) cap) (ts ++ [t]) := by
  obtain ⟨cs, fps, hown, hl, hf, hg, hat⟩ := h
  have hlt := hown.lt
  have hcs : cs.length = ts.length * 2 := hown.1
  have hz := hb.size
  refine ⟨cs, own_below hown hb, fun o g cap w1 hown1 hgrow hnew => ?_⟩
  have hza : (w'.alloc o).heap.size = w'.heap.size + 1 := by simp
  have hz1 := hgrow.size
  rw [hza] at hz1
  have hkeep : ∀ b, b < w'.heap.size → v.ownBlock ≠ some b → w1.heap[b]? = w'.heap[b]? := fun b h1 h2 => by
    rw [hgrow.block b (by rw [hza]; omega) (fun e => h2 e.symm), heap_alloc_old _ _ h1]
  refine ⟨_, fps ++ [f], by simpa using hown1, by simp [hl], ?_, ?_, fun j hj => ?_⟩
  · rw [List.flatten_append, List.flatten_cons, List.flatten_nil, List.append_nil]
    exact (hf.join hft hbase hz).mono (Nat.le_refl _) (by omega)
  · intro g' hg'
    simp only [Value.ownBlock, Option.some.injEq] at hg'
    subst hg'
    rw [List.flatten_append, List.flatten_cons, List.flatten_nil, List.append_nil]
    intro hm
    rcases List.mem_append.1 hm with hm | hm
    · rcases hnew with h | h
      · exact hg _ h hm
      · have := (hf.2 _ hm).2; omega
    · rcases hnew with h | h
      · have := (hlt _ h).2; have := (hft.2 _ hm).1; omega
      · have := (hft.2 _ hm).2; omega
  · by_cases hjn : j = ts.length
    · subst hjn
      refine ⟨z0, z1, f, ?_, ?_, ?_, ?_⟩
      · rw [List.getElem?_append_right (by omega), hcs]; simp
      · rw [List.getElem?_append_right (by omega), hcs]; simp
      · rw [List.getElem?_append_right (by omega), hl]; simp
      · rw [List.getElem_append_right (by omega)]
        simp only [Nat.sub_self, List.getElem_cons_zero]
        exact ht.kept (by omega) fun b hbf => hkeep b (hft.2 b hbf).2 (fun e => by have := (hlt b e).2; have := (hft.2 b hbf).1; omega)
    · have hj2 : j < ts.length := by simp at hj; omega
      obtain ⟨c0, c1, f', h0, h1, h2, h3⟩ := hat j hj2
      refine ⟨c0, c1, f', ?_, ?_, ?_, ?_⟩
      · rw [List.getElem?_append_left (by omega)]; exact h0
      · rw [List.getElem?_append_left (by omega)]; exact h1
      · rw [List.getElem?_append_left (by omega)]; exact h2
      · rw [List.getElem_append_left hj2]
        exact (h3.below hb).kept (by omega) fun b hbf => hkeep b (by have := (hf.2 b (flat_mem h2 hbf)).2; omega) (fun e => hg b e (flat_mem h2 hbf))
/-- The row is whole: the tree with this row has blocks of its own. -/
theorem CopyRow.tree {w : World} {base d : Nat} {v : Value} {ts : List Ty} (h : CopyRow w base d v ts) (k : Int) (h0 : -9223372036854775808 ≤ k) (h1 : k ≤ 9223372036854775807) :
    ∃ fp, TyOwn w (d + 1) (.agg #[.int .i64 k, v]) (.node k ts) fp ∧ Fp base w.heap.size fp := by
  obtain ⟨cs, fps, hown, hl, hf, hg, hat⟩ := h
  have hcs : cs.length = ts.length * 2 := hown.1
  rcases hown.2 with ⟨rfl, hn⟩ | ⟨g, cap, cur, rfl, hbg, hgc, hnc, hm, hcur, htake⟩
  · have hts : ts = [] := List.eq_nil_of_length_eq_zero hn
    subst hts
    exact ⟨[], ⟨_, rfl, h0, h1, none, 0, [], [], rfl, Nat.le_refl _, by omega, rfl, rfl, (fun b hb => by cases hb), fun j hj => by simp at hj⟩, Fp.nil _ _⟩
  · have hlt := (hown.lt g rfl).2
    refine ⟨[g] ++ fps.flatten, ⟨_, rfl, h0, h1, some ⟨g, 0, none⟩, cap, [g], fps, rfl, hnc, by unfold maxLen at hm; omega, hl, rfl, fun b hb => by cases List.mem_singleton.1 hb; exact hlt, fun j hj => ?_⟩, ?_⟩
    · obtain ⟨c0, c1, f, e0, e1, e2, e3⟩ := hat j hj
      exact ⟨g, 0, c0, c1, f, rfl, rfl, hlt, by rw [Nat.zero_add, hown.cellAt (j * 2) (by omega)]; exact e0, hown.frozenAt _, by rw [Nat.zero_add, hown.cellAt (j * 2 + 1) (by omega)]; exact e1, e2, e3⟩
    · refine ⟨?_, fun b hb => ?_⟩
      · rw [List.singleton_append, List.nodup_cons]
        exact ⟨hg g rfl, hf.1⟩
      · rcases List.mem_append.1 hb with hb | hb
        · cases List.mem_singleton.1 hb; exact ⟨hbg, hlt⟩
        · exact hf.2 b hb
end Go.Proofs.YteffjeejbdjjpaaGreatDoor
/-
  Proved: plain facts on a row of two types that a call builds.
-/
namespace Go.Proofs.YteffjeejbdjjpaaGreatDoor
open Go.RowKit

/-- A type whose row of parts the call has built, from block base on. -/
def Built (w : World) (base d : Nat) (v : Value) (t : Ty) : Prop :=
  ∃ k sl ts, v = .agg #[.int .i64 k, sl] ∧ t = .node k ts ∧ 0 ≤ k ∧ k ≤ 255 ∧ CopyRow w base d sl ts
/-- What building a type ends in. -/
def BuiltEnd (d : Nat) (t : Ty) (w : World) (e : Ending) (w' : World) : Prop :=
  ∃ v, e = .returned v ∧ Built w' w.heap.size d v t ∧ Below w.heap.size w w'
theorem Built.tree {w : World} {base d : Nat} {v : Value} {t : Ty} (h : Built w base d v t) : ∃ fp, TyOwn w (d + 1) v t fp ∧ Fp base w.heap.size fp := by
  obtain ⟨k, sl, ts, rfl, rfl, h0, h1, h⟩ := h
  exact h.tree k (by omega) (by omega)
theorem Built.at_ {w : World} {base d : Nat} {v : Value} {t : Ty} (h : Built w base d v t) : TyAt w (d + 1) v t := by
  obtain ⟨fp, h, _⟩ := h.tree
  exact h.at_
theorem Built.below {w w' : World} {base d : Nat} {v : Value} {t : Ty} (h : Built w base d v t) (hb : Below w.heap.size w w') : Built w' base d v t := by
  obtain ⟨k, sl, ts, rfl, rfl, h0, h1, h⟩ := h
  exact ⟨k, sl, ts, rfl, rfl, h0, h1, h.below hb⟩
theorem BuiltEnd.to {d : Nat} {t : Ty} {w : World} {e : Ending} {w' : World} (h : BuiltEnd d t w e w') : ToTyEnd (d + 1) t w e w' := by
  obtain ⟨v, rfl, h, hb⟩ := h
  obtain ⟨fp, h1, h2⟩ := h.tree
  exact ⟨v, fp, rfl, h1, h2, hb⟩
theorem CopyRow.lower {w : World} {base base' d : Nat} {v : Value} {ts : List Ty} (h : CopyRow w base d v ts) (hb : base' ≤ base) : CopyRow w base' d v ts := by
  obtain ⟨cs, fps, hown, hl, hf, hg, hat⟩ := h
  refine ⟨cs, fps, ⟨hown.1, ?_⟩, hl, hf.mono hb (Nat.le_refl _), hg, hat⟩
  rcases hown.2 with h | ⟨g, cap, cur, rfl, r1, r2, r3⟩
  · exact Or.inl h
  · exact Or.inr ⟨g, cap, cur, rfl, Nat.le_trans hb r1, r2, r3⟩
theorem row_two {X : World} {d lo mid hi : Nat} {c0 c1 d0 d1 : Value} {t1 t2 : Ty} {f1 f2 : List Nat} (hX : hi = X.heap.size)
    (HC : TyOwn X d (.agg #[c0, c1]) t1 f1) (HD : TyOwn X d (.agg #[d0, d1]) t2 f2) (F1 : Fp lo mid f1) (F2 : Fp mid hi f2) (h1 : lo ≤ mid) (h2 : mid ≤ hi) :
    CopyRow (X.alloc (.cells #[c0, c1, d0, d1] 33)) lo d (.slice (some ⟨hi, 0, none⟩) 2 2) [t1, t2] := by
  subst hX
  have hb := below_alloc X (.cells #[c0, c1, d0, d1] 33)
  have hj := F1.join F2 h1 h2
  refine ⟨[c0, c1, d0, d1], [f1, f2], ⟨rfl, Or.inr ⟨X.heap.size, 2, #[c0, c1, d0, d1], rfl, by omega, heap_alloc_new X _, Nat.le_refl _, by unfold maxLen; omega, rfl, rfl⟩⟩, rfl, ?_, ?_, fun j hj => ?_⟩
  · simp only [List.flatten_cons, List.flatten_nil, List.append_nil]
    exact hj.mono (Nat.le_refl _) (by simp)
  · intro g hg
    simp only [Value.ownBlock, Option.some.injEq] at hg
    subst hg
    simp only [List.flatten_cons, List.flatten_nil, List.append_nil]
    intro hm
    have := (hj.2 _ hm).2
    omega
  · match j, hj with
    | 0, _ => exact ⟨c0, c1, f1, rfl, rfl, rfl, HC.below hb⟩
    | 1, _ => exact ⟨d0, d1, f2, rfl, rfl, rfl, HD.below hb⟩
end Go.Proofs.YteffjeejbdjjpaaGreatDoor
/-
  Proved: plain facts on the meet of two types.
-/
namespace Go.Proofs.YteffjeejbdjjpaaGreatDoor
open Go.RowKit

mutual
/-- They agree: one is unknown, or the same kind with parts that agree. -/
def Ty.cons : Ty → Ty → Bool
  | .node k cs, .node l bs => (decide (k = 1) || decide (l = 1)) || (decide (k = l) && Ty.conss cs bs)
def Ty.conss : List Ty → List Ty → Bool
  | [], [] => true
  | a :: r, b :: s => a.cons b && Ty.conss r s
  | _, _ => false
end
mutual
/-- What both say together. -/
def Ty.meet : Ty → Ty → Ty
  | .node k cs, .node l bs => if k = 1 then .node l bs else if l = 1 then .node k cs else .node k (Ty.meets cs bs)
def Ty.meets : List Ty → List Ty → List Ty
  | a :: r, b :: s => a.meet b :: Ty.meets r s
  | _, _ => []
end
theorem Ty.conss_take : ∀ (cs bs : List Ty) (k : Nat) (h : k < cs.length) (h' : k < bs.length), Ty.conss (cs.take (k + 1)) (bs.take (k + 1)) = (Ty.conss (cs.take k) (bs.take k) && cs[k].cons bs[k])
  | [], _, _, h, _ => by simp at h
  | _ :: _, [], _, _, h => by simp at h
  | a :: r, b :: s, 0, _, _ => by simp [Ty.conss]
  | a :: r, b :: s, k + 1, h, h' => by
    simp only [List.take_succ_cons, Ty.conss, List.getElem_cons_succ]
    rw [Ty.conss_take r s k (by simpa using h) (by simpa using h'), Bool.and_assoc]
theorem Ty.conss_false : ∀ (cs bs : List Ty) (k : Nat), Ty.conss (cs.take k) (bs.take k) = false → cs.length = bs.length → Ty.conss cs bs = false
  | [], [], k, h, _ => by simp [Ty.conss] at h
  | [], _ :: _, _, _, e => by simp at e
  | _ :: _, [], _, _, e => by simp at e
  | a :: r, b :: s, 0, h, _ => by simp [Ty.conss] at h
  | a :: r, b :: s, k + 1, h, e => by
    simp only [List.take_succ_cons, Ty.conss, Bool.and_eq_false_iff] at h ⊢
    rcases h with h | h
    · exact Or.inl h
    · exact Or.inr (Ty.conss_false r s k h (by simpa using e))
theorem Ty.forms_getm (ts : List Ty) (h : Ty.forms ts = true) (k : Nat) (hk : k < ts.length) : ts[k].form = true := by
  have e := Ty.forms_take ts k hk
  cases hf : ts[k].form with
  | true => rfl
  | false =>
    rw [hf, Bool.and_false] at e
    rw [Ty.forms_false ts (k + 1) e] at h; cases h
theorem form_lenm {k : Int} {cs bs : List Ty} (h1 : (Ty.node k cs).form = true) (h2 : (Ty.node k bs).form = true) : bs.length = cs.length := by
  simp only [Ty.form, Bool.and_eq_true] at h1 h2
  have e1 := h1.2
  have e2 := h2.2
  unfold kindOk at e1 e2
  split at e1
  · rw [if_pos (by assumption)] at e2
    simp at e1 e2; rw [e1, e2]
  · split at e1
    · rw [if_neg (by assumption), if_pos (by assumption)] at e2
      simp at e1 e2; rw [e1, e2]
    · cases e1

theorem Ty.meets_take : ∀ (cs bs : List Ty) (k : Nat) (h : k < cs.length) (h' : k < bs.length), Ty.meets (cs.take (k + 1)) (bs.take (k + 1)) = Ty.meets (cs.take k) (bs.take k) ++ [cs[k].meet bs[k]]
  | [], _, _, h, _ => by simp at h
  | _ :: _, [], _, _, h => by simp at h
  | a :: r, b :: s, 0, _, _ => by simp [Ty.meets]
  | a :: r, b :: s, k + 1, h, h' => by
    simp only [List.take_succ_cons, Ty.meets, List.getElem_cons_succ, List.cons_append]
    rw [Ty.meets_take r s k (by simpa using h) (by simpa using h')]
theorem Ty.meets_length : ∀ (cs bs : List Ty), bs.length = cs.length → (Ty.meets cs bs).length = cs.length
  | [], _, _ => by simp [Ty.meets]
  | _ :: _, [], h => by simp at h
  | a :: r, b :: s, h => by
    simp only [Ty.meets, List.length_cons]
    rw [Ty.meets_length r s (by simpa using h)]
theorem kinds_of {k : Int} {ts : List Ty} (h : (Ty.node k ts).form = true) : (k = 1 ∨ k = 2 ∨ k = 3) ∧ ts = [] ∨ (k = 4 ∨ k = 5) ∧ ts.length = 2 := by
  simp only [Ty.form, Bool.and_eq_true] at h
  have e1 := h.2
  unfold kindOk at e1
  split at e1
  · left
    simp at e1
    exact ⟨by omega, e1⟩
  · split at e1
    · right
      simp at e1
      exact ⟨by omega, e1⟩
    · cases e1
end Go.Proofs.YteffjeejbdjjpaaGreatDoor
/-
  Proved: spec.SizeOfType returns the number of nodes of every tree of at most 2^60 nodes, and leaves the memory that was there as it was.
-/
namespace Go.Proofs.YteffjeejbdjjpaaGreatDoor
open Go.RowKit

set_option maxRecDepth 100000 in
set_option maxHeartbeats 1000000 in
theorem specSize : ∀ (d : Nat) (v : Value) (t : Ty) (w : World), TyAt w d v t → t.size ≤ 1152921504606846976 →
    Calls Tryz.prog 96 #[v] w fun e w' => e = .returned (.int .i64 (t.size : Int)) ∧ Below w.heap.size w w'
  | 0, _, _, _, h, _ => h.elim
  | d + 1, v, .node kd ts, w, h, hsz => by
    have IH : Hid (∀ (v : Value) (t : Ty) (w : World), TyAt w d v t → t.size ≤ 1152921504606846976 → Calls Tryz.prog 96 #[v] w fun e w' => e = .returned (.int .i64 (t.size : Int)) ∧ Below w.heap.size w w') := specSize d
    obtain ⟨sl, rfl, hk0, hk1, a, cap, rfl, hcap, hcap2, hat⟩ := h
    have HAT := Lib.hid hat; clear hat
    have hlen : ts.length ≤ 1152921504606846976 := by have := Ty.length_le ts; simp [Ty.size] at hsz; omega
    have HSZ : Hid (Ty.sizes ts + 1 ≤ 1152921504606846976) := by simp [Ty.size] at hsz; show _ ≤ _; omega
    clear hsz
    go_enter Tryz.func96, Tryz.ntmps96
    go_wp2_with fail
    go_loopw [3, 4] (fun n i wr => ∃ k : Nat, k ≤ ts.length ∧ i = .int .i64 k ∧ n = .int .i64 (1 + (Ty.sizes (ts.take k) : Int)) ∧ Below (w.heap.size + 1) (w.alloc (.cells #[.int .i64 kd, .slice a ts.length cap] 33)) wr) (fun _ i _ => ts.length - (intOf i).toNat)
    case atStart => exact ⟨0, by omega, rfl, by simp [Ty.sizes], Below.refl _ _⟩
    case round =>
      obtain ⟨k, hk, rfl, rfl, hb⟩ := hrel
      have c1 := box_cell hb 1
      have HB := Lib.hid (box_below hb)
      have HBX := Lib.hid hb; clear hb
      have HS1 := Ty.sizes_le ts k
      have HS2 := HSZ.out
      by_cases hlt : k < ts.length
      · obtain ⟨b, off, x0, x1, rfl, hbl, hc0, hc1, ht⟩ := HAT.out k hlt
        have hg := Ty.size_get ts k hlt
        have e0 : wr.cell? ⟨b, off + k * 2, none⟩ = some x0 := by rw [HB.out.cell (p := ⟨b, off + k * 2, none⟩) hbl]; exact hc0
        have e1 : wr.cell? ⟨b, off + k * 2 + 1, none⟩ = some x1 := by rw [HB.out.cell (p := ⟨b, off + k * 2 + 1, none⟩) hbl]; exact hc1
        have HT := Lib.hid (ht.below HB.out)
        clear ht hc0 hc1
        go_wp2_with fail
        refine (IH.out _ _ wr HT.out (by omega)).mono ?_
        rintro e w' ⟨rfl, hb1⟩
        have HN := Lib.hid (box_next HBX.out hb1)
        have HT2 := Lib.hid (Ty.sizes_take ts k hlt)
        have HS3 := Ty.sizes_le ts (k + 1)
        have HS4 : Ty.sizes (ts.take k) + ts[k].size ≤ Ty.sizes ts := by rw [← HT2.out]; exact HS3
        clear hb1 HS3
        go_wp2_with fail
        exact ⟨⟨k + 1, by omega, by go_num, by rw [HT2.out]; go_num, HN.out⟩, by simp [intOf]; omega⟩
      · obtain rfl : k = ts.length := by omega
        go_wp2_with fail
        go_ret
        refine ⟨?_, HB.out⟩
        rw [List.take_length]
        simp [Ty.size]
end Go.Proofs.YteffjeejbdjjpaaGreatDoor
namespace Go.Proofs.YteffjeejbdjjpaaGreatDoor
open Go.RowKit

/-- A note: a valid type of at most 15 nodes, at most 5 deep. -/
def Ty.note (t : Ty) : Bool := t.valid && (decide (t.size ≤ 15) && decide (t.depth ≤ 5))
set_option maxRecDepth 100000 in
set_option maxHeartbeats 1000000 in
theorem specNote' (d : Nat) (v : Value) (t : Ty) (w : World) (h : TyAt w d v t) (hsz : t.size ≤ 1048577) :
    Calls Tryz.prog 50 #[v] w fun e w' => e = .returned (.bool (t.valid && (decide (t.size ≤ 15) && decide (t.depth ≤ 5)))) ∧ Below w.heap.size w w' := by
  have HT := Lib.hid h
  obtain ⟨yk, ya, yn, yc, rfl⟩ := agg_parts h
  clear h
  have E0 : Below w.heap.size w (w.alloc (.cells #[.int .i64 yk, .slice ya yn yc] 33)) := (Below.refl _ _).alloc (Nat.le_refl _) _
  have HT0 := Lib.hid (HT.out.below E0)
  clear E0
  go_enter Tryz.func50, Tryz.ntmps50
  go_wp2_with fail
  refine (specValid d _ t _ HT0.out hsz).mono ?_
  rintro e w1 ⟨rfl, hb1⟩
  have B1 := Lib.hid (box_next (Below.refl _ _) hb1); clear hb1
  have c0 := box_cell B1.out 0
  have c1 := box_cell B1.out 1
  cases hv : t.valid with
  | false =>
    have HV := Lib.hid hv; clear hv
    go_wp2_with fail
    go_ret
    exact ⟨by simp [HV.out], box_below B1.out⟩
  | true =>
    have HV := Lib.hid hv; clear hv
    go_wp2_with fail
    refine (specSize d _ t _ (HT.out.below (box_below B1.out)) (by omega)).mono ?_
    rintro e w2 ⟨rfl, hb2⟩
    have B2 := Lib.hid (box_next B1.out hb2); clear hb2 B1 c0 c1
    have c0 := box_cell B2.out 0
    have c1 := box_cell B2.out 1
    by_cases q1 : t.size ≤ 15
    · go_wp2_with fail
      refine (specDepth d _ t _ (HT.out.below (box_below B2.out)) (by omega)).mono ?_
      rintro e w3 ⟨rfl, hb3⟩
      have B3 := Lib.hid (box_next B2.out hb3); clear hb3 B2
      by_cases q2 : t.depth ≤ 5
      · have q3 : (t.depth : Int) ≤ 5 := by omega
        go_wp2_with fail
        go_ret
        exact ⟨by simp [HV.out, q1, q2], box_below B3.out⟩
      · have q3 : ¬ ((t.depth : Int) ≤ 5) := by omega
        go_wp2_with fail
        go_ret
        exact ⟨by simp [q2, q3], box_below B3.out⟩
    · go_wp2_with fail
      go_ret
      exact ⟨rfl, box_below B2.out⟩
theorem specNote (d : Nat) (v : Value) (t : Ty) (w : World) (h : TyAt w d v t) (hsz : t.size ≤ 1048577) :
    Calls Tryz.prog 50 #[v] w fun e w' => e = .returned (.bool t.note) ∧ Below w.heap.size w w' :=
  (specNote' d v t w h hsz).mono fun _ _ h => h
end Go.Proofs.YteffjeejbdjjpaaGreatDoor
