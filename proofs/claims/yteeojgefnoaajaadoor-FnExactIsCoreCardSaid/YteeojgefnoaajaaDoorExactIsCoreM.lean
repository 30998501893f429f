/-
  Proved: the law FnExactIsCore: for every core expression, impl.IsCore returns the same as the reference and changes no argument; the program's table holds what its text lays (the card ties it).
-/
import Derived.Test.YteeojgefnoaajaaDoorImplWord
import Derived.Laws.RangeAny
import Derived.Test.YteeojgefnoaajaaDoorSpecForm
import Derived.Test.YteeojgefnoaajaaDoorPart
import Derived.Test.YteeojgefnoaajaaDoorHold
import Derived.Deep.QuietTactic
import Derived.Test.YteeojgefnoaajaaDoorSpecValid
import Derived.Test.YteeojgefnoaajaaDoorTyEq
import Derived.Test.YteeojgefnoaajaaDoorCoForm
import Derived.Test.YteeojgefnoaajaaDoorSetGuard
import Derived.Test.YteeojgefnoaajaaDoorSzCore
import Derived.Test.YteeojgefnoaajaaDoorExTree
import Derived.Test.YteeojgefnoaajaaDoorCoTree
import Derived.Test.YteeojgefnoaajaaDoorSpecFields
import Derived.Test.YteeojgefnoaajaaDoorCoreFull
import Derived.Test.YteeojgefnoaajaaDoorCoreArity
import Derived.Test.YteeojgefnoaajaaDoorGrown
import Derived.Deep.RegionHeld3
import Derived.Test.YteeojgefnoaajaaDoorSpecNote
import Derived.Test.YteeojgefnoaajaaDoorToType
import Derived.Test.YteeojgefnoaajaaDoorArity
import Derived.Deep.RegionLaw
import Derived.Test.YteeojgefnoaajaaDoorSpecExForm
import Derived.Test.YteeojgefnoaajaaDoorTwo
import Derived.Test.YteeojgefnoaajaaDoorToCore
import Derived.Test.YteeojgefnoaajaaDoorEqCore
import Derived.Test.YteeojgefnoaajaaDoorSpecIsCore
import Derived.Test.YteeojgefnoaajaaDoorLaw
import Derived.OpenVars
import Derived.Test.YteeojgefnoaajaaDoorCards
import Derived.Test.YteeojgefnoaajaaDoorTie
import Derived.Deep.DeepHandedRow
import Derived.Lib.LaidTab
import Derived.LaidMore
import Derived.Test.YteeojgefnoaajaaDoorCoreArg
import Derived.ChangeVars
/-
  Proved: impl.IsName says whether a text is a name; the memory that was there stays as it was.
-/
namespace Go.Proofs.YteeojgefnoaajaaDoor
open Go.RowKit

theorem below_iter (w : World) (s : ByteArray) (k : Nat) : Below w.heap.size w (w.iter s k) := (Below.refl _ _).alloc (Nat.le_refl _) _
set_option maxRecDepth 100000 in
set_option maxHeartbeats 4000000 in
theorem implName (s : ByteArray) (w : World) (hs : s.size ≤ 9223372036854775807) : Calls Tryd.prog 131 #[.string s] w fun e w' => e = .returned (.bool (nameB s)) ∧ Below w.heap.size w w' := by
  by_cases r1 : 1 ≤ s.size
  case neg =>
    have hz : s.size = 0 := by omega
    have hl : s.toList = [] := List.eq_nil_of_length_eq_zero (by rw [size_of_toList]; exact hz)
    have h1 : (s.toList == []) = true := by rw [hl]; rfl
    have h2 : s.toList.isEmpty = true := by rw [hl]; rfl
    have HR := Lib.hid r1
    clear hz hl r1
    go_enter Tryd.func131, Tryd.ntmps131
    go_wp2_with fail
    go_ret
    exact ⟨by simp [nameB, HR.out], Below.refl _ _⟩
  have h1 : (s.toList == []) = false := toList_some r1
  have h2 : s.toList.isEmpty = false := by cases hh : s.toList with | nil => rw [hh] at h1; cases h1 | cons a r => rfl
  by_cases r2 : s.size ≤ 5
  case neg =>
    have i2 : (5 : Int) < (s.size : Int) := by omega
    go_enter Tryd.func131, Tryd.ntmps131
    go_wp2_with fail
    go_ret
    exact ⟨by simp [nameB, r2], Below.refl _ _⟩
  have i2 : ¬ ((5 : Int) < (s.size : Int)) := by omega
  cases hw : wordB s with
  | true =>
    go_enter Tryd.func131, Tryd.ntmps131
    go_wp2_with fail
    refine (implWord s w).mono ?_
    rintro e w1 ⟨rfl, rfl⟩
    go_wp2_with fail
    go_ret
    exact ⟨by simp [nameB, hw], Below.refl _ _⟩
  | false =>
    have HNB : Hid (nameB s = okB s s.size) := by show _ = _; simp [nameB, hw, r1, r2]
    go_enter Tryd.func131, Tryd.ntmps131
    go_wp2_with fail
    refine (implWord s w).mono ?_
    rintro e w1 ⟨rfl, rfl⟩
    go_wp2_with fail
    go_loopw [3] (fun _ wr => ∃ k : Nat, wr = w.iter s k ∧ k ≤ s.size ∧ okB s k = true) (fun _ wr => s.size - wr.iterPos w.heap.size)
    case atStart => exact ⟨0, rfl, by omega, rfl⟩
    case round =>
      obtain ⟨k, rfl, hk, hf⟩ := hrel
      have HF := Lib.hid hf; clear hf
      by_cases hlt : k < s.size
      · have HSUC := Lib.hid (okB_succ s k hlt)
        by_cases hasc : (s[k]'hlt).toNat < 128
        · have hnx : ∀ ty, (Instr.next (.pointer (some ⟨w.heap.size, 0, none⟩)) true ty).run Tryd.prog (w.iter s k) = _ := fun ty => run_next_ascii w s k ty hlt hasc
          by_cases l1 : 97 ≤ (s[k]'hlt).toNat ∧ (s[k]'hlt).toNat ≤ 122
          · have OK := Lib.hid (okAt_letter (k := k) l1.1 l1.2)
            obtain ⟨l1a, l1b⟩ := l1
            have l1d : decide ((97 : Int) ≤ ((s[k]'hlt).toNat : Int)) = true := by simpa using (by omega : (97 : Int) ≤ ((s[k]'hlt).toNat : Int))
            have l2d : decide (((s[k]'hlt).toNat : Int) ≤ 122) = true := by simpa using (by omega : ((s[k]'hlt).toNat : Int) ≤ 122)
            clear l1a l1b
            go_wp2_with fail
            all_goals exact ⟨⟨k + 1, rfl, hlt, by rw [HSUC.out, HF.out, OK.out]; rfl⟩, by simp; omega⟩
          · by_cases l3 : 97 ≤ (s[k]'hlt).toNat
            · skip
              by_cases z : k = 0
              · have OK := Lib.hid (okAt_bad (c := (s[k]'hlt).toNat) (k := k) (by omega) (Or.inl z))
                have l1d : decide ((97 : Int) ≤ ((s[k]'hlt).toNat : Int)) = true := by simpa using (by omega : (97 : Int) ≤ ((s[k]'hlt).toNat : Int))
                have l2d : decide (((s[k]'hlt).toNat : Int) ≤ 122) = false := by simpa using (by omega : (122 : Int) < ((s[k]'hlt).toNat : Int))
                have zb : ((k : Int) == 0) = true := by simp [z]
                clear l1 l3 z
                go_wp2_with fail
                all_goals go_ret
                all_goals exact ⟨by rw [HNB.out, okB_false s (k + 1) s.size (by rw [HSUC.out, HF.out, OK.out]; rfl) hlt]; rfl, below_iter _ _ _⟩
              · have zb : ((k : Int) == 0) = false := by simpa using z
                have z1 : 1 ≤ k := by omega
                by_cases g1 : 48 ≤ (s[k]'hlt).toNat ∧ (s[k]'hlt).toNat ≤ 57
                · have OK := Lib.hid (okAt_digit (k := k) z1 g1.1 g1.2)
                  obtain ⟨g1a, g1b⟩ := g1
                  have l1d : decide ((97 : Int) ≤ ((s[k]'hlt).toNat : Int)) = true := by simpa using (by omega : (97 : Int) ≤ ((s[k]'hlt).toNat : Int))
                  have l2d : decide (((s[k]'hlt).toNat : Int) ≤ 122) = false := by simpa using (by omega : (122 : Int) < ((s[k]'hlt).toNat : Int))
                  have g1d : decide ((48 : Int) ≤ ((s[k]'hlt).toNat : Int)) = true := by simpa using (by omega : (48 : Int) ≤ ((s[k]'hlt).toNat : Int))
                  have g2d : decide (((s[k]'hlt).toNat : Int) ≤ 57) = true := by simpa using (by omega : ((s[k]'hlt).toNat : Int) ≤ 57)
                  clear z l1 l3 g1a g1b
                  go_wp2_with fail
                  all_goals exact ⟨⟨k + 1, rfl, hlt, by rw [HSUC.out, HF.out, OK.out]; rfl⟩, by simp; omega⟩
                · have OK := Lib.hid (okAt_bad (c := (s[k]'hlt).toNat) (k := k) (by omega) (Or.inr (by omega)))
                  by_cases g2 : 48 ≤ (s[k]'hlt).toNat
                  · skip
                    have l1d : decide ((97 : Int) ≤ ((s[k]'hlt).toNat : Int)) = true := by simpa using (by omega : (97 : Int) ≤ ((s[k]'hlt).toNat : Int))
                    have l2d : decide (((s[k]'hlt).toNat : Int) ≤ 122) = false := by simpa using (by omega : (122 : Int) < ((s[k]'hlt).toNat : Int))
                    have g1d : decide ((48 : Int) ≤ ((s[k]'hlt).toNat : Int)) = true := by simpa using (by omega : (48 : Int) ≤ ((s[k]'hlt).toNat : Int))
                    have g2d : decide (((s[k]'hlt).toNat : Int) ≤ 57) = false := by simpa using (by omega : (57 : Int) < ((s[k]'hlt).toNat : Int))
                    clear z l1 l3 g1 g2
                    go_wp2_with fail
                    all_goals go_ret
                    all_goals exact ⟨by rw [HNB.out, okB_false s (k + 1) s.size (by rw [HSUC.out, HF.out, OK.out]; rfl) hlt]; rfl, below_iter _ _ _⟩
                  · skip
                    have l1d : decide ((97 : Int) ≤ ((s[k]'hlt).toNat : Int)) = true := by simpa using (by omega : (97 : Int) ≤ ((s[k]'hlt).toNat : Int))
                    have l2d : decide (((s[k]'hlt).toNat : Int) ≤ 122) = false := by simpa using (by omega : (122 : Int) < ((s[k]'hlt).toNat : Int))
                    have g1d : decide ((48 : Int) ≤ ((s[k]'hlt).toNat : Int)) = false := by simpa using (by omega : ((s[k]'hlt).toNat : Int) < 48)
                    clear z l1 l3 g1 g2
                    go_wp2_with fail
                    all_goals go_ret
                    all_goals exact ⟨by rw [HNB.out, okB_false s (k + 1) s.size (by rw [HSUC.out, HF.out, OK.out]; rfl) hlt]; rfl, below_iter _ _ _⟩
            · skip
              by_cases z : k = 0
              · have OK := Lib.hid (okAt_bad (c := (s[k]'hlt).toNat) (k := k) (by omega) (Or.inl z))
                have l1d : decide ((97 : Int) ≤ ((s[k]'hlt).toNat : Int)) = false := by simpa using (by omega : ((s[k]'hlt).toNat : Int) < 97)
                have zb : ((k : Int) == 0) = true := by simp [z]
                clear l1 l3 z
                go_wp2_with fail
                all_goals go_ret
                all_goals exact ⟨by rw [HNB.out, okB_false s (k + 1) s.size (by rw [HSUC.out, HF.out, OK.out]; rfl) hlt]; rfl, below_iter _ _ _⟩
              · have zb : ((k : Int) == 0) = false := by simpa using z
                have z1 : 1 ≤ k := by omega
                by_cases g1 : 48 ≤ (s[k]'hlt).toNat ∧ (s[k]'hlt).toNat ≤ 57
                · have OK := Lib.hid (okAt_digit (k := k) z1 g1.1 g1.2)
                  obtain ⟨g1a, g1b⟩ := g1
                  have l1d : decide ((97 : Int) ≤ ((s[k]'hlt).toNat : Int)) = false := by simpa using (by omega : ((s[k]'hlt).toNat : Int) < 97)
                  have g1d : decide ((48 : Int) ≤ ((s[k]'hlt).toNat : Int)) = true := by simpa using (by omega : (48 : Int) ≤ ((s[k]'hlt).toNat : Int))
                  have g2d : decide (((s[k]'hlt).toNat : Int) ≤ 57) = true := by simpa using (by omega : ((s[k]'hlt).toNat : Int) ≤ 57)
                  clear z l1 l3 g1a g1b
                  go_wp2_with fail
                  all_goals exact ⟨⟨k + 1, rfl, hlt, by rw [HSUC.out, HF.out, OK.out]; rfl⟩, by simp; omega⟩
                · have OK := Lib.hid (okAt_bad (c := (s[k]'hlt).toNat) (k := k) (by omega) (Or.inr (by omega)))
                  by_cases g2 : 48 ≤ (s[k]'hlt).toNat
                  · skip
                    have l1d : decide ((97 : Int) ≤ ((s[k]'hlt).toNat : Int)) = false := by simpa using (by omega : ((s[k]'hlt).toNat : Int) < 97)
                    have g1d : decide ((48 : Int) ≤ ((s[k]'hlt).toNat : Int)) = true := by simpa using (by omega : (48 : Int) ≤ ((s[k]'hlt).toNat : Int))
                    have g2d : decide (((s[k]'hlt).toNat : Int) ≤ 57) = false := by simpa using (by omega : (57 : Int) < ((s[k]'hlt).toNat : Int))
                    clear z l1 l3 g1 g2
                    go_wp2_with fail
                    all_goals go_ret
                    all_goals exact ⟨by rw [HNB.out, okB_false s (k + 1) s.size (by rw [HSUC.out, HF.out, OK.out]; rfl) hlt]; rfl, below_iter _ _ _⟩
                  · skip
                    have l1d : decide ((97 : Int) ≤ ((s[k]'hlt).toNat : Int)) = false := by simpa using (by omega : ((s[k]'hlt).toNat : Int) < 97)
                    have g1d : decide ((48 : Int) ≤ ((s[k]'hlt).toNat : Int)) = false := by simpa using (by omega : ((s[k]'hlt).toNat : Int) < 48)
                    clear z l1 l3 g1 g2
                    go_wp2_with fail
                    all_goals go_ret
                    all_goals exact ⟨by rw [HNB.out, okB_false s (k + 1) s.size (by rw [HSUC.out, HF.out, OK.out]; rfl) hlt]; rfl, below_iter _ _ _⟩
        · have hnx : ∀ ty, (Instr.next (.pointer (some ⟨w.heap.size, 0, none⟩)) true ty).run Tryd.prog (w.iter s k) = _ := fun ty => run_next_any w s k ty hlt
          have hd := (decode_high s k hlt (by omega)).1
          have OK : Hid (okAt (s[k]'hlt).toNat k = false) := okAt_bad (by omega) (Or.inr (by omega))
          have m1 : decide ((97 : Int) ≤ ((Utf8.decode s k).1 : Int)) = true := by simpa using (by omega : (97 : Int) ≤ ((Utf8.decode s k).1 : Int))
          have m2 : decide (((Utf8.decode s k).1 : Int) ≤ 122) = false := by simpa using (by omega : (122 : Int) < ((Utf8.decode s k).1 : Int))
          have m3 : decide ((48 : Int) ≤ ((Utf8.decode s k).1 : Int)) = true := by simpa using (by omega : (48 : Int) ≤ ((Utf8.decode s k).1 : Int))
          have m4 : decide (((Utf8.decode s k).1 : Int) ≤ 57) = false := by simpa using (by omega : (57 : Int) < ((Utf8.decode s k).1 : Int))
          by_cases z : k = 0
          · have zb : ((k : Int) == 0) = true := by simp [z]
            clear z
            go_wp2_with fail
            go_ret
            exact ⟨by rw [HNB.out, okB_false s (k + 1) s.size (by rw [HSUC.out, HF.out, OK.out]; rfl) hlt]; rfl, below_iter _ _ _⟩
          · have zb : ((k : Int) == 0) = false := by simpa using z
            clear z
            go_wp2_with fail
            go_ret
            exact ⟨by rw [HNB.out, okB_false s (k + 1) s.size (by rw [HSUC.out, HF.out, OK.out]; rfl) hlt]; rfl, below_iter _ _ _⟩
      · have hnx : ∀ ty, (Instr.next (.pointer (some ⟨w.heap.size, 0, none⟩)) true ty).run Tryd.prog (w.iter s k) = _ := fun ty => run_next_end w s k ty hlt
        have hks : k = s.size := by omega
        have HK := Lib.hid hks
        clear hks
        go_wp2_with fail
        go_ret
        exact ⟨by rw [HNB.out, ← HK.out, HF.out]; rfl, below_iter _ _ _⟩
end Go.Proofs.YteeojgefnoaajaaDoor
/-
  Proved: impl.nodeOf says which of the five kinds a type's root has (nil if it has none of their forms), and leaves the memory that was there as it was.
-/
namespace Go.Proofs.YteeojgefnoaajaaDoor
open Go.RowKit

theorem below_drewN {B : Nat} {a w : World} (h : Below B a w) (n : Nat) : Below B a (w.drewN n) := ⟨h.os, h.tape, h.output, h.size, h.block⟩
/-- What nodeOf gives for a root of kind k with the parts ts. -/
def NodeAt (w : World) (d : Nat) (n : Value) (k : Int) (ts : List Ty) : Prop :=
  (kindOk k ts.length = false ∧ n = .nilIface) ∨
  (kindOk k ts.length = true ∧ ts = [] ∧ ((k = 1 ∧ n = .iface 156 (.agg #[])) ∨ (k = 2 ∧ n = .iface 157 (.agg #[])) ∨ (k = 3 ∧ n = .iface 158 (.agg #[])))) ∨
  (kindOk k ts.length = true ∧ ∃ t1 t2 k1 s1 k2 s2, ts = [t1, t2] ∧ TyAt w d (.agg #[.int .i64 k1, s1]) t1 ∧ TyAt w d (.agg #[.int .i64 k2, s2]) t2 ∧
    ((k = 4 ∧ n = .iface 160 (.agg #[.int .i64 k1, s1, .int .i64 k2, s2])) ∨ (k = 5 ∧ n = .iface 162 (.agg #[.int .i64 k1, s1, .int .i64 k2, s2]))))
def NodeEnd (w0 w : World) (d : Nat) (k : Int) (ts : List Ty) (e : Ending) (w' : World) : Prop :=
  ∃ n, e = .returned n ∧ NodeAt w0 d n k ts ∧ Below w.heap.size w w'
theorem node_bad {w0 w w' : World} {d : Nat} {k : Int} {ts : List Ty} (h : kindOk k ts.length = false) (hb : Below w.heap.size w w') : NodeEnd w0 w d k ts (.returned .nilIface) w' :=
  ⟨_, rfl, Or.inl ⟨h, rfl⟩, hb⟩
theorem two_of {d : Nat} {w : World} {ts : List Ty} {a : Option Addr} (hl : ts.length = 2)
    (hat : ∀ j (h : j < ts.length), ∃ b off c0 c1, a = some ⟨b, off, none⟩ ∧ b < w.heap.size ∧ w.cell? ⟨b, off + j * 2, none⟩ = some c0 ∧ w.cell? ⟨b, off + j * 2 + 1, none⟩ = some c1 ∧ TyAt w d (.agg #[c0, c1]) ts[j]) :
    ∃ t1 t2 k1 s1 n1 c1 k2 s2 n2 c2 b off, ts = [t1, t2] ∧ a = some ⟨b, off, none⟩ ∧ b < w.heap.size ∧ w.cell? ⟨b, off, none⟩ = some (.int .i64 k1) ∧ w.cell? ⟨b, off + 1, none⟩ = some (.slice s1 n1 c1) ∧ w.cell? ⟨b, off + 2, none⟩ = some (.int .i64 k2) ∧ w.cell? ⟨b, off + 3, none⟩ = some (.slice s2 n2 c2) ∧
      TyAt w d (.agg #[.int .i64 k1, .slice s1 n1 c1]) t1 ∧ TyAt w d (.agg #[.int .i64 k2, .slice s2 n2 c2]) t2 := by
  match ts, hl, hat with
  | [t1, t2], _, hat =>
    obtain ⟨b, off, x0, x1, rfl, hbl, h0, h1, ht1⟩ := hat 0 (by simp)
    obtain ⟨b', off', y0, y1, he, _, h2, h3, ht2⟩ := hat 1 (by simp)
    cases he
    obtain ⟨k1, s1, n1, c1, rfl, rfl⟩ := at_parts ht1
    obtain ⟨k2, s2, n2, c2, rfl, rfl⟩ := at_parts ht2
    exact ⟨t1, t2, k1, s1, n1, c1, k2, s2, n2, c2, b, off, rfl, rfl, hbl, by simpa using h0, by simpa using h1, by simpa using h2, by simpa [Nat.add_assoc] using h3, ht1, ht2⟩

set_option maxRecDepth 100000 in
set_option maxHeartbeats 2000000 in
theorem implNode (w0 : World) (d : Nat) (v : Value) (kd : Int) (ts : List Ty) (w : World) (h : TyAt w0 (d + 1) v (.node kd ts)) (hw : Below w0.heap.size w0 w) (hsz : ts.length ≤ 1152921504606846976) :
    Calls Tryd.prog 166 #[v] w (NodeEnd w0 w d kd ts) := by
  have HW := Lib.hid hw; clear hw
  obtain ⟨sl, rfl, hk0, hk1, a, cap, rfl, hcap, hcap2, hat⟩ := h
  have HAT := Lib.hid hat; clear hat
  obtain ⟨n, hn⟩ : ∃ n, n = ts.length := ⟨_, rfl⟩
  have HN := Lib.hid hn
  rw [← hn] at hcap hsz ⊢
  clear hn
  by_cases q1 : kd = 1
  · subst q1
    by_cases z : n = 0
    · subst z
      go_enter Tryd.func166, Tryd.ntmps166
      go_wp2_with fail
      go_ret
      have hts : ts = [] := List.eq_nil_of_length_eq_zero HN.out.symm
      exact ⟨_, rfl, Or.inr (Or.inl ⟨by rw [hts]; rfl, hts, Or.inl ⟨rfl, rfl⟩⟩), below_alloc _ _⟩
    · have z2 : ¬ ((n : Int) = 0) := by omega
      go_enter Tryd.func166, Tryd.ntmps166
      go_wp2_with fail
      go_ret
      exact node_bad (by rw [← HN.out]; simp [kindOk, z]) (below_alloc _ _)
  by_cases q2 : kd = 2
  · subst q2
    by_cases z : n = 0
    · subst z
      go_enter Tryd.func166, Tryd.ntmps166
      go_wp2_with fail
      go_ret
      have hts : ts = [] := List.eq_nil_of_length_eq_zero HN.out.symm
      exact ⟨_, rfl, Or.inr (Or.inl ⟨by rw [hts]; rfl, hts, Or.inr (Or.inl ⟨rfl, rfl⟩)⟩), below_alloc _ _⟩
    · have z2 : ¬ ((n : Int) = 0) := by omega
      go_enter Tryd.func166, Tryd.ntmps166
      go_wp2_with fail
      go_ret
      exact node_bad (by rw [← HN.out]; simp [kindOk, z]) (below_alloc _ _)
  by_cases q3 : kd = 3
  · subst q3
    by_cases z : n = 0
    · subst z
      go_enter Tryd.func166, Tryd.ntmps166
      go_wp2_with fail
      go_ret
      have hts : ts = [] := List.eq_nil_of_length_eq_zero HN.out.symm
      exact ⟨_, rfl, Or.inr (Or.inl ⟨by rw [hts]; rfl, hts, Or.inr (Or.inr ⟨rfl, rfl⟩)⟩), below_alloc _ _⟩
    · have z2 : ¬ ((n : Int) = 0) := by omega
      go_enter Tryd.func166, Tryd.ntmps166
      go_wp2_with fail
      go_ret
      exact node_bad (by rw [← HN.out]; simp [kindOk, z]) (below_alloc _ _)
  by_cases q4 : kd = 4
  · subst q4
    by_cases z : n = 2
    · subst z
      obtain ⟨t1, t2, k1, s1, n1, c1, k2, s2, n2, c2, b, off, hts, rfl, hbl0, g0, g1, g2, g3, ht1, ht2⟩ := two_of HN.out.symm HAT.out
      have HTS := Lib.hid hts
      have H1 := Lib.hid ht1
      have H2 := Lib.hid ht2
      clear hts ht1 ht2 HAT
      have hbl := Nat.lt_of_lt_of_le hbl0 HW.out.size
      have h0 := (HW.out.cell (p := ⟨b, off, none⟩) hbl0).trans g0
      have h1 := (HW.out.cell (p := ⟨b, off + 1, none⟩) hbl0).trans g1
      have h2 := (HW.out.cell (p := ⟨b, off + 2, none⟩) hbl0).trans g2
      have h3 := (HW.out.cell (p := ⟨b, off + 3, none⟩) hbl0).trans g3
      clear g0 g1 g2 g3
      have hb2 : ¬ (b = w.heap.size) := by omega
      go_enter Tryd.func166, Tryd.ntmps166
      go_wp2_with fail
      go_quiet (fail)
      go_wp2_with fail
      go_ret
      have X : ∀ nq, Below w.heap.size w ((w.alloc (.cells #[.int .i64 4, .slice (some ⟨b, off, none⟩) 2 cap] 33)).drewN nq) := fun nq => below_drewN (below_alloc _ _) nq
      exact ⟨_, rfl, Or.inr (Or.inr ⟨by rw [HTS.out]; rfl, t1, t2, k1, _, k2, _, HTS.out, H1.out, H2.out, Or.inl ⟨rfl, rfl⟩⟩), X _⟩
    · have z2 : ¬ ((n : Int) = 2) := by omega
      go_enter Tryd.func166, Tryd.ntmps166
      go_wp2_with fail
      go_ret
      exact node_bad (by rw [← HN.out]; simp [kindOk, z]) (below_alloc _ _)
  by_cases q5 : kd = 5
  · subst q5
    by_cases z : n = 2
    · subst z
      obtain ⟨t1, t2, k1, s1, n1, c1, k2, s2, n2, c2, b, off, hts, rfl, hbl0, g0, g1, g2, g3, ht1, ht2⟩ := two_of HN.out.symm HAT.out
      have HTS := Lib.hid hts
      have H1 := Lib.hid ht1
      have H2 := Lib.hid ht2
      clear hts ht1 ht2 HAT
      have hbl := Nat.lt_of_lt_of_le hbl0 HW.out.size
      have h0 := (HW.out.cell (p := ⟨b, off, none⟩) hbl0).trans g0
      have h1 := (HW.out.cell (p := ⟨b, off + 1, none⟩) hbl0).trans g1
      have h2 := (HW.out.cell (p := ⟨b, off + 2, none⟩) hbl0).trans g2
      have h3 := (HW.out.cell (p := ⟨b, off + 3, none⟩) hbl0).trans g3
      clear g0 g1 g2 g3
      have hb2 : ¬ (b = w.heap.size) := by omega
      go_enter Tryd.func166, Tryd.ntmps166
      go_wp2_with fail
      go_quiet (fail)
      go_wp2_with fail
      go_ret
      have X : ∀ nq, Below w.heap.size w ((w.alloc (.cells #[.int .i64 5, .slice (some ⟨b, off, none⟩) 2 cap] 33)).drewN nq) := fun nq => below_drewN (below_alloc _ _) nq
      exact ⟨_, rfl, Or.inr (Or.inr ⟨by rw [HTS.out]; rfl, t1, t2, k1, _, k2, _, HTS.out, H1.out, H2.out, Or.inr ⟨rfl, rfl⟩⟩), X _⟩
    · have z2 : ¬ ((n : Int) = 2) := by omega
      go_enter Tryd.func166, Tryd.ntmps166
      go_wp2_with fail
      go_ret
      exact node_bad (by rw [← HN.out]; simp [kindOk, z]) (below_alloc _ _)
  go_enter Tryd.func166, Tryd.ntmps166
  go_wp2_with fail
  go_ret
  exact node_bad (by rw [← HN.out]; simp [kindOk, q1, q2, q3, q4, q5]) (below_alloc _ _)
end Go.Proofs.YteeojgefnoaajaaDoor
/-
  Proved: the method parts of each of the five nodes gives the parts of a type (none for the first three), and leaves the memory that was there as it was; which function a call of parts through the interface runs.
-/
namespace Go.Proofs.YteeojgefnoaajaaDoor
open Go.RowKit

theorem meth_unknown (n : Nat) (w : World) : (method (n + 1) 156 (.agg #[]) "loop.example/g00585/impl.parts").run Tryd.prog w = .ok (218, .agg #[]) w := by kernel_rfl
theorem meth_num (n : Nat) (w : World) : (method (n + 1) 157 (.agg #[]) "loop.example/g00585/impl.parts").run Tryd.prog w = .ok (219, .agg #[]) w := by kernel_rfl
theorem meth_bool (n : Nat) (w : World) : (method (n + 1) 158 (.agg #[]) "loop.example/g00585/impl.parts").run Tryd.prog w = .ok (220, .agg #[]) w := by kernel_rfl
theorem meth_arrow (n : Nat) (w : World) (a b c d : Value) : (method (n + 1) 160 (.agg #[a, b, c, d]) "loop.example/g00585/impl.parts").run Tryd.prog w = .ok (221, .agg #[a, b, c, d]) w := by kernel_rfl
theorem meth_pair (n : Nat) (w : World) (a b c d : Value) : (method (n + 1) 162 (.agg #[a, b, c, d]) "loop.example/g00585/impl.parts").run Tryd.prog w = .ok (222, .agg #[a, b, c, d]) w := by kernel_rfl

set_option maxRecDepth 100000 in
theorem parts_unknown (w : World) : Calls Tryd.prog 218 #[.agg #[]] w fun e w' => e = .returned (.slice none 0 0) ∧ Below w.heap.size w w' := by
  go_enter Tryd.func218, Tryd.ntmps218
  go_wp2_with fail
  go_ret
  exact ⟨rfl, below_alloc _ _⟩
set_option maxRecDepth 100000 in
theorem parts_num (w : World) : Calls Tryd.prog 219 #[.agg #[]] w fun e w' => e = .returned (.slice none 0 0) ∧ Below w.heap.size w w' := by
  go_enter Tryd.func219, Tryd.ntmps219
  go_wp2_with fail
  go_ret
  exact ⟨rfl, below_alloc _ _⟩
set_option maxRecDepth 100000 in
theorem parts_bool (w : World) : Calls Tryd.prog 220 #[.agg #[]] w fun e w' => e = .returned (.slice none 0 0) ∧ Below w.heap.size w w' := by
  go_enter Tryd.func220, Tryd.ntmps220
  go_wp2_with fail
  go_ret
  exact ⟨rfl, below_alloc _ _⟩
def PartsEnd (w0 : World) (d : Nat) (t1 t2 : Ty) (w : World) (e : Ending) (w' : World) : Prop :=
  ∃ b, e = .returned (.slice (some ⟨b, 0, none⟩) 2 2) ∧ RowIn (TyAt w0 d) w' w.heap.size (.slice (some ⟨b, 0, none⟩) 2 2) [t1, t2] ∧ Below w.heap.size w w'
theorem tys_two {w0 w : World} {d b lo : Nat} {t1 t2 : Ty} {k1 k2 : Int} {s1 s2 : Value} (hlo : lo ≤ b) (hb : b < w.heap.size) (h0 : w.cell? ⟨b, 0, none⟩ = some (.int .i64 k1)) (h1 : w.cell? ⟨b, 1, none⟩ = some s1) (h2 : w.cell? ⟨b, 2, none⟩ = some (.int .i64 k2)) (h3 : w.cell? ⟨b, 3, none⟩ = some s2)
    (ht1 : TyAt w0 d (.agg #[.int .i64 k1, s1]) t1) (ht2 : TyAt w0 d (.agg #[.int .i64 k2, s2]) t2) : RowIn (TyAt w0 d) w lo (.slice (some ⟨b, 0, none⟩) 2 2) [t1, t2] := by
  refine ⟨_, _, rfl, Nat.le_refl _, by simp, fun j hj => ?_⟩
  match j, hj with
  | 0, _ => exact ⟨b, 0, _, _, rfl, hlo, hb, by simpa using h0, by simpa using h1, ht1⟩
  | 1, _ => exact ⟨b, 0, _, _, rfl, hlo, hb, by simpa using h2, by simpa using h3, ht2⟩
theorem box_four {w : World} {a b c d : Value} {T : TypeId} : BoxAt ((w.alloc (.cells #[a, b, c, d] T)).alloc (.cells #[a, b, c, d] 33)) (w.heap.size + 1) #[a, b, c, d] := by
  have h := BoxAt.new (w.alloc (.cells #[a, b, c, d] T)) #[a, b, c, d] 33
  rw [show (w.alloc (.cells #[a, b, c, d] T)).heap.size = w.heap.size + 1 from by simp] at h
  exact h
set_option maxRecDepth 100000 in
set_option maxHeartbeats 1000000 in
theorem parts_arrow (w0 : World) (d : Nat) (t1 t2 : Ty) (k1 k2 : Int) (v1 v2 : Value) (w : World) (h1 : TyAt w0 d (.agg #[.int .i64 k1, v1]) t1) (h2 : TyAt w0 d (.agg #[.int .i64 k2, v2]) t2) :
    Calls Tryd.prog 221 #[.agg #[.int .i64 k1, v1, .int .i64 k2, v2]] w (PartsEnd w0 d t1 t2 w) := by
  obtain ⟨_, s1, n1, c1, _, rfl⟩ := at_parts h1
  obtain ⟨_, s2, n2, c2, _, rfl⟩ := at_parts h2
  have H1 := Lib.hid h1
  have H2 := Lib.hid h2
  clear h1 h2
  go_enter Tryd.func221, Tryd.ntmps221
  go_wp2_with fail
  go_ret
  have X := ((Below.refl w.heap.size w).alloc (Nat.le_refl _) (.cells #[.int .i64 k1, .slice s1 n1 c1, .int .i64 k2, .slice s2 n2 c2] 160)).alloc (by simp) (.cells #[.int .i64 k1, .slice s1 n1 c1, .int .i64 k2, .slice s2 n2 c2] 33)
  have Y := box_four (w := w) (a := .int .i64 k1) (b := .slice s1 n1 c1) (c := .int .i64 k2) (d := .slice s2 n2 c2) (T := 160)
  exact ⟨_, rfl, tys_two (by omega) Y.1 (Y.2 0) (Y.2 1) (Y.2 2) (Y.2 3) H1.out H2.out, X⟩
set_option maxRecDepth 100000 in
set_option maxHeartbeats 1000000 in
theorem parts_pair (w0 : World) (d : Nat) (t1 t2 : Ty) (k1 k2 : Int) (v1 v2 : Value) (w : World) (h1 : TyAt w0 d (.agg #[.int .i64 k1, v1]) t1) (h2 : TyAt w0 d (.agg #[.int .i64 k2, v2]) t2) :
    Calls Tryd.prog 222 #[.agg #[.int .i64 k1, v1, .int .i64 k2, v2]] w (PartsEnd w0 d t1 t2 w) := by
  obtain ⟨_, s1, n1, c1, _, rfl⟩ := at_parts h1
  obtain ⟨_, s2, n2, c2, _, rfl⟩ := at_parts h2
  have H1 := Lib.hid h1
  have H2 := Lib.hid h2
  clear h1 h2
  go_enter Tryd.func222, Tryd.ntmps222
  go_wp2_with fail
  go_ret
  have X := ((Below.refl w.heap.size w).alloc (Nat.le_refl _) (.cells #[.int .i64 k1, .slice s1 n1 c1, .int .i64 k2, .slice s2 n2 c2] 162)).alloc (by simp) (.cells #[.int .i64 k1, .slice s1 n1 c1, .int .i64 k2, .slice s2 n2 c2] 33)
  have Y := box_four (w := w) (a := .int .i64 k1) (b := .slice s1 n1 c1) (c := .int .i64 k2) (d := .slice s2 n2 c2) (T := 162)
  exact ⟨_, rfl, tys_two (by omega) Y.1 (Y.2 0) (Y.2 1) (Y.2 2) (Y.2 3) H1.out H2.out, X⟩
end Go.Proofs.YteeojgefnoaajaaDoor
/-
  Proved: impl.typeWithin says whether a type's tree has the form of a type and fits into the room and the depth that are left; it counts the room down, and touches nothing else.
-/
namespace Go.Proofs.YteeojgefnoaajaaDoor
open Go.RowKit

def within (t : Ty) (r dp : Int) : Bool := decide ((t.size : Int) ≤ r) && decide ((t.depth : Int) ≤ dp) && t.form
def WithinEnd (p : Nat) (r dp : Int) (t : Ty) (w : World) (e : Ending) (w' : World) : Prop :=
  ∃ r' : Int, e = .returned (.bool (within t r dp)) ∧ w'.cell? ⟨p, 0, none⟩ = some (.int .i64 r') ∧ w'.frozen? ⟨p, 0, none⟩ = false ∧ r - t.size ≤ r' ∧ r' ≤ r ∧ (within t r dp = true → r' = r - t.size) ∧
    Below p w w' ∧ (∀ b, b < w.heap.size → b ≠ p → w'.heap[b]? = w.heap[b]?)
/-- What the count leaves of memory: below p nothing has changed, nor any old block but p; the room holds r. -/
def Room (p : Nat) (r : Int) (w w' : World) : Prop :=
  w'.cell? ⟨p, 0, none⟩ = some (.int .i64 r) ∧ w'.frozen? ⟨p, 0, none⟩ = false ∧ Below p w w' ∧ (∀ b, b < w.heap.size → b ≠ p → w'.heap[b]? = w.heap[b]?)
theorem Room.stored {p : Nat} {r : Int} {x : Value} {w w2 : World} (hp : p < w.heap.size) (hb : Below w.heap.size w w2) (e0 : w2.cell? ⟨p, 0, none⟩ = some x) (e1 : w2.frozen? ⟨p, 0, none⟩ = false) : Room p r w (w2.setCell ⟨p, 0, none⟩ (.int .i64 r)) := by
  refine ⟨by simp [go_sem, e0], by simp [go_sem, e1], (hb.mono (Nat.le_of_lt hp)).setCell (Nat.le_refl _) _, fun b h1 h2 => ?_⟩
  rw [heap_setCell_other _ _ _ _ h2]
  exact hb.block b h1
theorem Room.below {p : Nat} {r : Int} {w w1 w2 : World} (hp : p < w.heap.size) (h : Room p r w w1) (hb : Below w1.heap.size w1 w2) : Room p r w w2 := by
  obtain ⟨h0, h1, h2, h3⟩ := h
  have hz := h2.size
  refine ⟨(hb.cell (p := ⟨p, 0, none⟩) (Nat.lt_of_lt_of_le hp hz)).trans h0, (hb.frozen (p := ⟨p, 0, none⟩) (Nat.lt_of_lt_of_le hp hz)).trans h1, h2.trans (hb.mono (by omega)), fun b hb1 hb2 => ?_⟩
  rw [hb.block b (by omega)]
  exact h3 b hb1 hb2
theorem Room.on {p : Nat} {r r2 : Int} {w w1 w2 : World} (h : Room p r w w1) (h2 : Room p r2 w1 w2) : Room p r2 w w2 := by
  obtain ⟨_, _, g2, g3⟩ := h
  obtain ⟨k0, k1, k2, k3⟩ := h2
  refine ⟨k0, k1, g2.trans k2, fun b hb1 hb2 => ?_⟩
  rw [k3 b (by have := g2.size; omega) hb2]
  exact g3 b hb1 hb2
theorem WithinEnd.of {p : Nat} {r dp r' : Int} {t : Ty} {w w' : World} {b : Bool} (hb : within t r dp = b) (hr : Room p r' w w') (h1 : r - t.size ≤ r') (h2 : r' ≤ r) (h3 : b = true → r' = r - t.size) : WithinEnd p r dp t w (.returned (.bool b)) w' := by
  subst hb
  exact ⟨r', rfl, hr.1, hr.2.1, h1, h2, h3, hr.2.2.1, hr.2.2.2⟩
theorem WithinEnd.room {p : Nat} {r dp : Int} {t : Ty} {w w' : World} {e : Ending} (h : WithinEnd p r dp t w e w') : ∃ r', e = .returned (.bool (within t r dp)) ∧ Room p r' w w' ∧ r - t.size ≤ r' ∧ r' ≤ r ∧ (within t r dp = true → r' = r - t.size) := by
  obtain ⟨r', h0, h1, h2, h3, h4, h5, h6, h7⟩ := h
  exact ⟨r', h0, ⟨h1, h2, h6, h7⟩, h3, h4, h5⟩
theorem Ty.depths_get (ts : List Ty) (k : Nat) (h : k < ts.length) : ts[k].depth ≤ Ty.depths ts := by
  induction ts generalizing k with
  | nil => simp at h
  | cons s r ih =>
    cases k with
    | zero => simp only [List.getElem_cons_zero, Ty.depths]; omega
    | succ k => simp only [List.getElem_cons_succ, Ty.depths]; have := ih k (by simpa using h); omega
theorem within_true {t : Ty} {r dp : Int} (h : within t r dp = true) : (t.size : Int) ≤ r ∧ (t.depth : Int) ≤ dp ∧ t.form = true := by
  simp only [within, Bool.and_eq_true, decide_eq_true_eq] at h
  exact ⟨h.1.1, h.1.2, h.2⟩
theorem within_sub {kd r dp r2 : Int} {ts : List Ty} {k : Nat} (h : k < ts.length) (hr : r2 = r - 1 - Ty.sizes (ts.take k)) (hf : within ts[k] r2 (dp - 1) = false) : within (.node kd ts) r dp = false := by
  cases hw : within (.node kd ts) r dp with
  | false => rfl
  | true =>
    obtain ⟨w1, w2, w3⟩ := within_true hw
    simp only [Ty.size, Ty.depth, Ty.form, Bool.and_eq_true] at w1 w2 w3
    have h1 := Ty.sizes_take ts k h
    have h2 := Ty.sizes_le ts (k + 1)
    have h3 := Ty.depths_get ts k h
    have h4 : ts[k].form = true := by
      have e := Ty.forms_take ts k h
      cases hfk : ts[k].form with
      | true => rfl
      | false =>
        rw [hfk, Bool.and_false] at e
        have := Ty.forms_false ts (k + 1) e
        rw [this] at w3; exact absurd w3.1 (by simp)
    have : within ts[k] r2 (dp - 1) = true := by
      simp only [within, Bool.and_eq_true, decide_eq_true_eq]
      exact ⟨⟨by omega, by omega⟩, h4⟩
    rw [this] at hf; cases hf
theorem within_mk {t : Ty} {r dp : Int} (h1 : (t.size : Int) ≤ r) (h2 : (t.depth : Int) ≤ dp) (h3 : t.form = true) : within t r dp = true := by
  simp only [within, Bool.and_eq_true, decide_eq_true_eq]
  exact ⟨⟨h1, h2⟩, h3⟩
set_option maxRecDepth 100000 in
set_option maxHeartbeats 4000000 in
theorem implWithin (w0 : World) : ∀ (d : Nat) (v : Value) (t : Ty) (p : Nat) (r dp : Int) (w : World), TyAt w0 d v t → Below w0.heap.size w0 w → w0.heap.size ≤ p → t.size ≤ 1048577 → p < w.heap.size → 0 ≤ r → r ≤ 1048576 → 0 ≤ dp → dp ≤ 100 →
    w.cell? ⟨p, 0, none⟩ = some (.int .i64 r) → w.frozen? ⟨p, 0, none⟩ = false →
    Calls Tryd.prog 165 #[v, .pointer (some ⟨p, 0, none⟩), .int .i64 dp] w (WithinEnd p r dp t w)
  | 0, _, _, _, _, _, _, h, _, _, _, _, _, _, _, _, _, _ => h.elim
  | d + 1, v, .node kd ts, p, r, dp, w, h, hw0, hp0, hsz, hp, hr0, hr1, hd0, hd1, hcell, hfroz => by
    have IH : Hid (∀ (v : Value) (t : Ty) (p : Nat) (r dp : Int) (w : World), TyAt w0 d v t → Below w0.heap.size w0 w → w0.heap.size ≤ p → t.size ≤ 1048577 → p < w.heap.size → 0 ≤ r → r ≤ 1048576 → 0 ≤ dp → dp ≤ 100 →
      w.cell? ⟨p, 0, none⟩ = some (.int .i64 r) → w.frozen? ⟨p, 0, none⟩ = false →
      Calls Tryd.prog 165 #[v, .pointer (some ⟨p, 0, none⟩), .int .i64 dp] w (WithinEnd p r dp t w)) := implWithin w0 d
    have hlen : ts.length ≤ 1152921504606846976 := by have := Ty.length_le ts; simp [Ty.size] at hsz; omega
    have HSZ : Hid (1 + Ty.sizes ts ≤ 1048577) := by simp [Ty.size] at hsz; show _ ≤ _; omega
    have hszi : (Ty.node kd ts).size = 1 + Ty.sizes ts := rfl
    have HSI := Lib.hid hszi
    clear hsz hszi
    have HT := Lib.hid h
    obtain ⟨sk, sa, sn, sc, rfl⟩ := agg_parts h
    clear h
    have HW0 := Lib.hid hw0; clear hw0
    have hb := HW0.out.alloc HW0.out.size (.cells #[.int .i64 sk, .slice sa sn sc] 33)
    have HW1 := Lib.hid hb; clear hb
    have hpw : ¬ (p = w.heap.size) := by omega
    go_enter Tryd.func165, Tryd.ntmps165
    go_wp2_with fail
    refine (implNode w0 d _ kd ts _ HT.out HW1.out hlen).mono ?_
    rintro e w2 ⟨n, rfl, hnode, hb⟩
    have B2 := Lib.hid (below_on (below_alloc w _) hb (by simp)); clear hb HW1
    have e0 := (B2.out.cell (p := ⟨p, 0, none⟩) hp).trans hcell
    have e1 := (B2.out.frozen (p := ⟨p, 0, none⟩) hp).trans hfroz
    have R2 := Lib.hid (Room.stored (r := r - 1) hp B2.out e0 e1)
    clear hcell hfroz
    have fin : ∀ b, within (.node kd ts) r dp = b → b = false → WithinEnd p r dp (.node kd ts) w (.returned (.bool b)) (w2.setCell ⟨p, 0, none⟩ (.int .i64 (r - 1))) := fun b h1 h2 =>
      WithinEnd.of h1 R2.out (by rw [HSI.out]; omega) (by omega) (fun h => by rw [h2] at h; cases h)
    have FIN := Lib.hid fin; clear fin
    have HSG : Hid (Ty.size (.node kd ts) = 1 + Ty.sizes ts) := HSI.out
    by_cases hkb : kindOk kd ts.length = false
    · have hn : n = .nilIface := by
        rcases hnode with ⟨_, h⟩ | ⟨h, _⟩ | ⟨h, _⟩
        · exact h
        · rw [hkb] at h; cases h
        · rw [hkb] at h; cases h
      subst hn
      go_wp2_with fail
      go_ret
      exact FIN.out _ (by simp [within, Ty.form, hkb]) rfl
    have hko : kindOk kd ts.length = true := by simpa using hkb
    have HKO := Lib.hid hko; clear hko hkb
    have early : r < 1 ∨ dp = 0 → within (.node kd ts) r dp = false := fun h => by
      cases hw : within (.node kd ts) r dp with
      | false => rfl
      | true =>
        obtain ⟨w1, w2, w3⟩ := within_true hw
        simp only [Ty.size, Ty.depth] at w1 w2
        omega
    have EARLY := Lib.hid early; clear early
    by_cases hr : r < 1
    · rcases hnode with ⟨h, _⟩ | ⟨_, rfl, ⟨rfl, rfl⟩ | ⟨rfl, rfl⟩ | ⟨rfl, rfl⟩⟩ | ⟨_, t1, t2, k1, s1, k2, s2, rfl, ht1, ht2, ⟨rfl, rfl⟩ | ⟨rfl, rfl⟩⟩
      · rw [HKO.out] at h; cases h
      all_goals (go_wp2_with fail; go_ret; exact FIN.out _ (EARLY.out (Or.inl hr)) rfl)
    by_cases hd : dp = 0
    · have hdb : (dp == 0) = true := by simp [hd]
      rcases hnode with ⟨h, _⟩ | ⟨_, rfl, ⟨rfl, rfl⟩ | ⟨rfl, rfl⟩ | ⟨rfl, rfl⟩⟩ | ⟨_, t1, t2, k1, s1, k2, s2, rfl, ht1, ht2, ⟨rfl, rfl⟩ | ⟨rfl, rfl⟩⟩
      · rw [HKO.out] at h; cases h
      all_goals (go_wp2_with fail; go_ret; exact FIN.out _ (EARLY.out (Or.inr hd)) rfl)
    have hdb : (dp == 0) = false := by simp [hd]
    clear FIN EARLY
    rcases hnode with ⟨h, _⟩ | ⟨_, rfl, ⟨rfl, rfl⟩ | ⟨rfl, rfl⟩ | ⟨rfl, rfl⟩⟩ | ⟨_, t1, t2, k1, s1, k2, s2, rfl, ht1, ht2, ⟨rfl, rfl⟩ | ⟨rfl, rfl⟩⟩
    · rw [HKO.out] at h; cases h
    · have hm := meth_unknown
      go_wp2_with fail
      refine (parts_unknown _).mono ?_
      rintro e w4 ⟨rfl, hb⟩
      have R4 := Lib.hid (R2.out.below hp hb)
      have HZ : Hid (w.heap.size ≤ w2.heap.size) := B2.out.size
      have hz4 := hb.size
      rw [World.size_setCell] at hz4
      clear hb R2 e0 e1 B2 hm
      have hz2 : w.heap.size ≤ w2.heap.size := HZ.out
      clear HZ
      go_wp2_with fail
      go_loopw [32] (fun i wr => ∃ k : Nat, k ≤ 0 ∧ i = .int .i64 k ∧ 0 ≤ r - 1 - (Ty.sizes (List.take k []) : Int) ∧ (Ty.depths (List.take k []) : Int) ≤ dp - 1 ∧ Ty.forms (List.take k []) = true ∧ Room p (r - 1 - Ty.sizes (List.take k [])) w wr ∧ w4.heap.size ≤ wr.heap.size ∧ (∀ b, b < w4.heap.size → b ≠ p → wr.heap[b]? = w4.heap[b]?)) (fun i _ => 0 - (intOf i).toNat)
      case atStart => exact ⟨0, by omega, rfl, by simp [Ty.sizes]; omega, by simp [Ty.depths]; omega, by simp [Ty.forms], by simpa [Ty.sizes] using R4.out, Nat.le_refl _, fun _ _ _ => rfl⟩
      case round =>
        obtain ⟨k, hk, rfl, hs, hds, hf, hroom, hz, hkeep⟩ := hrel
        have HS := Lib.hid hs
        have HD := Lib.hid hds
        have HF := Lib.hid hf
        have HR := Lib.hid hroom
        have HK := Lib.hid hkeep
        clear hs hds hf hroom hkeep
        obtain rfl : k = 0 := by omega
        have hfin : within (.node 1 []) r dp = true := by
          have h1 : 0 ≤ r - 1 - (Ty.sizes [] : Int) := HS.out
          have h2 : (Ty.depths [] : Int) ≤ dp - 1 := HD.out
          have h3 : Ty.forms [] = true := HF.out
          have h4 := HKO.out
          exact within_mk (show ((1 + Ty.sizes [] : Nat) : Int) ≤ r by omega) (show ((1 + Ty.depths [] : Nat) : Int) ≤ dp by omega) (by simp only [Ty.form, h3, h4, Bool.and_self])
        have HFIN := Lib.hid hfin; clear hfin
        have h1 : 0 ≤ r - 1 - (Ty.sizes [] : Int) := HS.out
        have hlo : r - ↑(1 + Ty.sizes []) ≤ r - 1 - ↑(Ty.sizes []) := by omega
        have HLO := Lib.hid hlo; clear hlo h1
        go_wp2_with fail
        go_ret
        exact WithinEnd.of (r' := r - 1 - ↑(Ty.sizes [])) HFIN.out HR.out (by rw [HSG.out]; exact HLO.out) (by omega) (fun _ => by rw [HSG.out]; omega)
    · have hm := meth_num
      go_wp2_with fail
      refine (parts_num _).mono ?_
      rintro e w4 ⟨rfl, hb⟩
      have R4 := Lib.hid (R2.out.below hp hb)
      have HZ : Hid (w.heap.size ≤ w2.heap.size) := B2.out.size
      have hz4 := hb.size
      rw [World.size_setCell] at hz4
      clear hb R2 e0 e1 B2 hm
      have hz2 : w.heap.size ≤ w2.heap.size := HZ.out
      clear HZ
      go_wp2_with fail
      go_loopw [32] (fun i wr => ∃ k : Nat, k ≤ 0 ∧ i = .int .i64 k ∧ 0 ≤ r - 1 - (Ty.sizes (List.take k []) : Int) ∧ (Ty.depths (List.take k []) : Int) ≤ dp - 1 ∧ Ty.forms (List.take k []) = true ∧ Room p (r - 1 - Ty.sizes (List.take k [])) w wr ∧ w4.heap.size ≤ wr.heap.size ∧ (∀ b, b < w4.heap.size → b ≠ p → wr.heap[b]? = w4.heap[b]?)) (fun i _ => 0 - (intOf i).toNat)
      case atStart => exact ⟨0, by omega, rfl, by simp [Ty.sizes]; omega, by simp [Ty.depths]; omega, by simp [Ty.forms], by simpa [Ty.sizes] using R4.out, Nat.le_refl _, fun _ _ _ => rfl⟩
      case round =>
        obtain ⟨k, hk, rfl, hs, hds, hf, hroom, hz, hkeep⟩ := hrel
        have HS := Lib.hid hs
        have HD := Lib.hid hds
        have HF := Lib.hid hf
        have HR := Lib.hid hroom
        have HK := Lib.hid hkeep
        clear hs hds hf hroom hkeep
        obtain rfl : k = 0 := by omega
        have hfin : within (.node 2 []) r dp = true := by
          have h1 : 0 ≤ r - 1 - (Ty.sizes [] : Int) := HS.out
          have h2 : (Ty.depths [] : Int) ≤ dp - 1 := HD.out
          have h3 : Ty.forms [] = true := HF.out
          have h4 := HKO.out
          exact within_mk (show ((1 + Ty.sizes [] : Nat) : Int) ≤ r by omega) (show ((1 + Ty.depths [] : Nat) : Int) ≤ dp by omega) (by simp only [Ty.form, h3, h4, Bool.and_self])
        have HFIN := Lib.hid hfin; clear hfin
        have h1 : 0 ≤ r - 1 - (Ty.sizes [] : Int) := HS.out
        have hlo : r - ↑(1 + Ty.sizes []) ≤ r - 1 - ↑(Ty.sizes []) := by omega
        have HLO := Lib.hid hlo; clear hlo h1
        go_wp2_with fail
        go_ret
        exact WithinEnd.of (r' := r - 1 - ↑(Ty.sizes [])) HFIN.out HR.out (by rw [HSG.out]; exact HLO.out) (by omega) (fun _ => by rw [HSG.out]; omega)
    · have hm := meth_bool
      go_wp2_with fail
      refine (parts_bool _).mono ?_
      rintro e w4 ⟨rfl, hb⟩
      have R4 := Lib.hid (R2.out.below hp hb)
      have HZ : Hid (w.heap.size ≤ w2.heap.size) := B2.out.size
      have hz4 := hb.size
      rw [World.size_setCell] at hz4
      clear hb R2 e0 e1 B2 hm
      have hz2 : w.heap.size ≤ w2.heap.size := HZ.out
      clear HZ
      go_wp2_with fail
      go_loopw [32] (fun i wr => ∃ k : Nat, k ≤ 0 ∧ i = .int .i64 k ∧ 0 ≤ r - 1 - (Ty.sizes (List.take k []) : Int) ∧ (Ty.depths (List.take k []) : Int) ≤ dp - 1 ∧ Ty.forms (List.take k []) = true ∧ Room p (r - 1 - Ty.sizes (List.take k [])) w wr ∧ w4.heap.size ≤ wr.heap.size ∧ (∀ b, b < w4.heap.size → b ≠ p → wr.heap[b]? = w4.heap[b]?)) (fun i _ => 0 - (intOf i).toNat)
      case atStart => exact ⟨0, by omega, rfl, by simp [Ty.sizes]; omega, by simp [Ty.depths]; omega, by simp [Ty.forms], by simpa [Ty.sizes] using R4.out, Nat.le_refl _, fun _ _ _ => rfl⟩
      case round =>
        obtain ⟨k, hk, rfl, hs, hds, hf, hroom, hz, hkeep⟩ := hrel
        have HS := Lib.hid hs
        have HD := Lib.hid hds
        have HF := Lib.hid hf
        have HR := Lib.hid hroom
        have HK := Lib.hid hkeep
        clear hs hds hf hroom hkeep
        obtain rfl : k = 0 := by omega
        have hfin : within (.node 3 []) r dp = true := by
          have h1 : 0 ≤ r - 1 - (Ty.sizes [] : Int) := HS.out
          have h2 : (Ty.depths [] : Int) ≤ dp - 1 := HD.out
          have h3 : Ty.forms [] = true := HF.out
          have h4 := HKO.out
          exact within_mk (show ((1 + Ty.sizes [] : Nat) : Int) ≤ r by omega) (show ((1 + Ty.depths [] : Nat) : Int) ≤ dp by omega) (by simp only [Ty.form, h3, h4, Bool.and_self])
        have HFIN := Lib.hid hfin; clear hfin
        have h1 : 0 ≤ r - 1 - (Ty.sizes [] : Int) := HS.out
        have hlo : r - ↑(1 + Ty.sizes []) ≤ r - 1 - ↑(Ty.sizes []) := by omega
        have HLO := Lib.hid hlo; clear hlo h1
        go_wp2_with fail
        go_ret
        exact WithinEnd.of (r' := r - 1 - ↑(Ty.sizes [])) HFIN.out HR.out (by rw [HSG.out]; exact HLO.out) (by omega) (fun _ => by rw [HSG.out]; omega)
    · have H1 := Lib.hid ht1
      have H2 := Lib.hid ht2
      clear ht1 ht2
      have hm := fun (n : Nat) (w : World) => meth_arrow n w (.int .i64 k1) s1 (.int .i64 k2) s2
      go_wp2_with fail
      refine (parts_arrow w0 d t1 t2 k1 k2 s1 s2 _ H1.out H2.out).mono ?_
      rintro e w4 ⟨bb, rfl, hrow, hb⟩
      have R4 := Lib.hid (R2.out.below hp hb)
      have HZ : Hid (w.heap.size ≤ w2.heap.size) := B2.out.size
      have hz4 := hb.size
      rw [World.size_setCell] at hz4
      clear hb R2 e0 e1 B2 hm
      have hz2 : w.heap.size ≤ w2.heap.size := HZ.out
      clear HZ
      have HROW : Hid (∀ j (h : j < 2), ∃ x0 x1, p < bb ∧ bb < w4.heap.size ∧ w4.cell? ⟨bb, j * 2, none⟩ = some x0 ∧ w4.cell? ⟨bb, j * 2 + 1, none⟩ = some x1 ∧ TyAt w0 d (.agg #[x0, x1]) ([t1, t2][j]'h)) := fun j hj => by
        obtain ⟨a9, c9, he, _, _, hat⟩ := hrow
        obtain ⟨b9, o9, x0, x1, ha, h1, h2, h3, h4, h5⟩ := hat j hj
        simp only [Value.slice.injEq] at he
        obtain ⟨rfl, _⟩ := he
        injection ha with ha
        injection ha with ha1 ha2
        subst ha1 ha2
        rw [World.size_setCell] at h1
        exact ⟨x0, x1, by omega, h2, by simpa using h3, by simpa using h4, h5⟩
      clear hrow H1 H2
      go_wp2_with fail
      go_loopw [32] (fun i wr => ∃ k : Nat, k ≤ 2 ∧ i = .int .i64 k ∧ 0 ≤ r - 1 - (Ty.sizes (List.take k [t1, t2]) : Int) ∧ (Ty.depths (List.take k [t1, t2]) : Int) ≤ dp - 1 ∧ Ty.forms (List.take k [t1, t2]) = true ∧ Room p (r - 1 - Ty.sizes (List.take k [t1, t2])) w wr ∧ w4.heap.size ≤ wr.heap.size ∧ (∀ b, b < w4.heap.size → b ≠ p → wr.heap[b]? = w4.heap[b]?)) (fun i _ => 2 - (intOf i).toNat)
      case atStart => exact ⟨0, by omega, rfl, by simp [Ty.sizes]; omega, by simp [Ty.depths]; omega, by simp [Ty.forms], by simpa [Ty.sizes] using R4.out, Nat.le_refl _, fun _ _ _ => rfl⟩
      case round =>
        obtain ⟨k, hk, rfl, hs, hds, hf, hroom, hz, hkeep⟩ := hrel
        have HS := Lib.hid hs
        have HD := Lib.hid hds
        have HF := Lib.hid hf
        have HR := Lib.hid hroom
        have HK := Lib.hid hkeep
        clear hs hds hf hroom hkeep
        by_cases hlt : k < 2
        · obtain ⟨x0, x1, hpb, hbl, hc0, hc1, ht⟩ := HROW.out k hlt
          obtain ⟨yk, ya, yn, yc, rfl, rfl⟩ := at_parts ht
          have x0 : wr.cell? ⟨bb, k * 2, none⟩ = some (.int .i64 yk) := by rw [World.cell?_of_block (HK.out bb hbl (by omega))]; exact hc0
          have x1 : wr.cell? ⟨bb, k * 2 + 1, none⟩ = some (.slice ya yn yc) := by rw [World.cell?_of_block (HK.out bb hbl (by omega))]; exact hc1
          have hpp := below_alloc wr (.cells #[.int .i64 yk, .slice ya yn yc] 33)
          have HTK := Lib.hid ht
          have HRP := Lib.hid (HR.out.below hp hpp)
          have HWP : Hid (Below w0.heap.size w0 (wr.alloc (.cells #[.int .i64 yk, .slice ya yn yc] 33))) := HW0.out.trans (HRP.out.2.2.1.mono hp0)
          have hg := Ty.size_get [t1, t2] k hlt
          have hzk : Ty.size ([t1, t2][k]'hlt) ≤ 1048577 := by have := HSZ.out; omega
          have hpk : p < (wr.alloc (.cells #[.int .i64 yk, .slice ya yn yc] 33)).heap.size := by simp; omega
          obtain ⟨rr, hrr⟩ : ∃ rr, rr = r - 1 - (Ty.sizes (List.take k [t1, t2]) : Int) := ⟨_, rfl⟩
          rw [← hrr] at HRP HS
          have HRR := Lib.hid hrr; clear hrr
          have g0 : 0 ≤ rr := HS.out
          have g1 : rr ≤ 1048576 := by have := HRR.out; omega
          have gd : 0 ≤ dp - 1 := by omega
          clear ht hc0 hc1 hpp hg
          go_wp2_with fail
          refine (IH.out _ _ p rr (dp - 1) _ HTK.out HWP.out hp0 hzk hpk g0 g1 gd (by omega) HRP.out.1 HRP.out.2.1).mono ?_
          rintro e w6 hend
          obtain ⟨r6, rfl, hr6, h1, h2, h3⟩ := hend.room
          have HR6 := Lib.hid (HRP.out.on hr6)
          have HK6 : Hid (∀ b, b < w4.heap.size → b ≠ p → w6.heap[b]? = w4.heap[b]?) := fun b hb1 hb2 => by
            rw [hr6.2.2.2 b (by simp; omega) hb2, heap_alloc_old _ _ (by omega)]
            exact HK.out b hb1 hb2
          have hz6 : w4.heap.size ≤ w6.heap.size := by have := hr6.2.2.1.size; simp at this; omega
          clear hend hr6
          cases hw : within ([t1, t2][k]'hlt) rr (dp - 1) with
          | true =>
            have h4 := h3 hw
            obtain ⟨u1, u2, u3⟩ := within_true hw
            subst h4
            have HU3 := Lib.hid u3
            have T1 := Lib.hid (Ty.sizes_take [t1, t2] k hlt)
            have T2 := Lib.hid (Ty.depths_take [t1, t2] k hlt)
            have T3 := Lib.hid (Ty.forms_take [t1, t2] k hlt)
            have HW := Lib.hid hw
            have U2 := Lib.hid u2
            have U1 := Lib.hid u1
            clear h1 h2 h3 u3 u2 u1 hw
            have eq1 : Hid (rr - ↑(Ty.size ([t1, t2][k]'hlt)) = r - 1 - ↑(Ty.sizes (List.take (k + 1) [t1, t2]))) := by rw [T1.out]; have := HRR.out; show _ = _; omega
            go_wp2_with fail
            exact ⟨⟨k + 1, by omega, by go_num, by rw [← eq1.out]; have := U1.out; omega, by rw [T2.out]; have := HD.out; have := U2.out; omega, by rw [T3.out, HF.out, HU3.out]; rfl, by rw [← eq1.out]; exact HR6.out, hz6, HK6.out⟩, by simp [intOf]; omega⟩
          | false =>
            have hfin := within_sub (kd := 4) (r := r) (dp := dp) hlt HRR.out hw
            have HFIN := Lib.hid hfin
            have hsz1 := Ty.sizes_take [t1, t2] k hlt
            have hsz2 := Ty.sizes_le [t1, t2] (k + 1)
            have hq := HRR.out
            have hlo : r - ↑(1 + Ty.sizes [t1, t2]) ≤ r6 := by omega
            have hhi : r6 ≤ r := by omega
            clear hfin hw hsz1 hsz2 hq h1 h2 h3
            go_wp2_with fail
            go_ret
            exact WithinEnd.of HFIN.out HR6.out (by rw [HSG.out]; exact hlo) hhi (fun h => by cases h)
        · obtain rfl : k = 2 := by omega
          have hfin : within (.node 4 [t1, t2]) r dp = true := by
            have h1 : 0 ≤ r - 1 - (Ty.sizes [t1, t2] : Int) := HS.out
            have h2 : (Ty.depths [t1, t2] : Int) ≤ dp - 1 := HD.out
            have h3 : Ty.forms [t1, t2] = true := HF.out
            have h4 := HKO.out
            exact within_mk (show ((1 + Ty.sizes [t1, t2] : Nat) : Int) ≤ r by omega) (show ((1 + Ty.depths [t1, t2] : Nat) : Int) ≤ dp by omega) (by simp only [Ty.form, h3, h4, Bool.and_self])
          have HFIN := Lib.hid hfin; clear hfin
          have h1 : 0 ≤ r - 1 - (Ty.sizes [t1, t2] : Int) := HS.out
          have hlo : r - ↑(1 + Ty.sizes [t1, t2]) ≤ r - 1 - ↑(Ty.sizes [t1, t2]) := by omega
          have HLO := Lib.hid hlo; clear hlo h1
          go_wp2_with fail
          go_ret
          exact WithinEnd.of (r' := r - 1 - ↑(Ty.sizes [t1, t2])) HFIN.out HR.out (by rw [HSG.out]; exact HLO.out) (by omega) (fun _ => by rw [HSG.out]; omega)
    · have H1 := Lib.hid ht1
      have H2 := Lib.hid ht2
      clear ht1 ht2
      have hm := fun (n : Nat) (w : World) => meth_pair n w (.int .i64 k1) s1 (.int .i64 k2) s2
      go_wp2_with fail
      refine (parts_pair w0 d t1 t2 k1 k2 s1 s2 _ H1.out H2.out).mono ?_
      rintro e w4 ⟨bb, rfl, hrow, hb⟩
      have R4 := Lib.hid (R2.out.below hp hb)
      have HZ : Hid (w.heap.size ≤ w2.heap.size) := B2.out.size
      have hz4 := hb.size
      rw [World.size_setCell] at hz4
      clear hb R2 e0 e1 B2 hm
      have hz2 : w.heap.size ≤ w2.heap.size := HZ.out
      clear HZ
      have HROW : Hid (∀ j (h : j < 2), ∃ x0 x1, p < bb ∧ bb < w4.heap.size ∧ w4.cell? ⟨bb, j * 2, none⟩ = some x0 ∧ w4.cell? ⟨bb, j * 2 + 1, none⟩ = some x1 ∧ TyAt w0 d (.agg #[x0, x1]) ([t1, t2][j]'h)) := fun j hj => by
        obtain ⟨a9, c9, he, _, _, hat⟩ := hrow
        obtain ⟨b9, o9, x0, x1, ha, h1, h2, h3, h4, h5⟩ := hat j hj
        simp only [Value.slice.injEq] at he
        obtain ⟨rfl, _⟩ := he
        injection ha with ha
        injection ha with ha1 ha2
        subst ha1 ha2
        rw [World.size_setCell] at h1
        exact ⟨x0, x1, by omega, h2, by simpa using h3, by simpa using h4, h5⟩
      clear hrow H1 H2
      go_wp2_with fail
      go_loopw [32] (fun i wr => ∃ k : Nat, k ≤ 2 ∧ i = .int .i64 k ∧ 0 ≤ r - 1 - (Ty.sizes (List.take k [t1, t2]) : Int) ∧ (Ty.depths (List.take k [t1, t2]) : Int) ≤ dp - 1 ∧ Ty.forms (List.take k [t1, t2]) = true ∧ Room p (r - 1 - Ty.sizes (List.take k [t1, t2])) w wr ∧ w4.heap.size ≤ wr.heap.size ∧ (∀ b, b < w4.heap.size → b ≠ p → wr.heap[b]? = w4.heap[b]?)) (fun i _ => 2 - (intOf i).toNat)
      case atStart => exact ⟨0, by omega, rfl, by simp [Ty.sizes]; omega, by simp [Ty.depths]; omega, by simp [Ty.forms], by simpa [Ty.sizes] using R4.out, Nat.le_refl _, fun _ _ _ => rfl⟩
      case round =>
        obtain ⟨k, hk, rfl, hs, hds, hf, hroom, hz, hkeep⟩ := hrel
        have HS := Lib.hid hs
        have HD := Lib.hid hds
        have HF := Lib.hid hf
        have HR := Lib.hid hroom
        have HK := Lib.hid hkeep
        clear hs hds hf hroom hkeep
        by_cases hlt : k < 2
        · obtain ⟨x0, x1, hpb, hbl, hc0, hc1, ht⟩ := HROW.out k hlt
          obtain ⟨yk, ya, yn, yc, rfl, rfl⟩ := at_parts ht
          have x0 : wr.cell? ⟨bb, k * 2, none⟩ = some (.int .i64 yk) := by rw [World.cell?_of_block (HK.out bb hbl (by omega))]; exact hc0
          have x1 : wr.cell? ⟨bb, k * 2 + 1, none⟩ = some (.slice ya yn yc) := by rw [World.cell?_of_block (HK.out bb hbl (by omega))]; exact hc1
          have hpp := below_alloc wr (.cells #[.int .i64 yk, .slice ya yn yc] 33)
          have HTK := Lib.hid ht
          have HRP := Lib.hid (HR.out.below hp hpp)
          have HWP : Hid (Below w0.heap.size w0 (wr.alloc (.cells #[.int .i64 yk, .slice ya yn yc] 33))) := HW0.out.trans (HRP.out.2.2.1.mono hp0)
          have hg := Ty.size_get [t1, t2] k hlt
          have hzk : Ty.size ([t1, t2][k]'hlt) ≤ 1048577 := by have := HSZ.out; omega
          have hpk : p < (wr.alloc (.cells #[.int .i64 yk, .slice ya yn yc] 33)).heap.size := by simp; omega
          obtain ⟨rr, hrr⟩ : ∃ rr, rr = r - 1 - (Ty.sizes (List.take k [t1, t2]) : Int) := ⟨_, rfl⟩
          rw [← hrr] at HRP HS
          have HRR := Lib.hid hrr; clear hrr
          have g0 : 0 ≤ rr := HS.out
          have g1 : rr ≤ 1048576 := by have := HRR.out; omega
          have gd : 0 ≤ dp - 1 := by omega
          clear ht hc0 hc1 hpp hg
          go_wp2_with fail
          refine (IH.out _ _ p rr (dp - 1) _ HTK.out HWP.out hp0 hzk hpk g0 g1 gd (by omega) HRP.out.1 HRP.out.2.1).mono ?_
          rintro e w6 hend
          obtain ⟨r6, rfl, hr6, h1, h2, h3⟩ := hend.room
          have HR6 := Lib.hid (HRP.out.on hr6)
          have HK6 : Hid (∀ b, b < w4.heap.size → b ≠ p → w6.heap[b]? = w4.heap[b]?) := fun b hb1 hb2 => by
            rw [hr6.2.2.2 b (by simp; omega) hb2, heap_alloc_old _ _ (by omega)]
            exact HK.out b hb1 hb2
          have hz6 : w4.heap.size ≤ w6.heap.size := by have := hr6.2.2.1.size; simp at this; omega
          clear hend hr6
          cases hw : within ([t1, t2][k]'hlt) rr (dp - 1) with
          | true =>
            have h4 := h3 hw
            obtain ⟨u1, u2, u3⟩ := within_true hw
            subst h4
            have HU3 := Lib.hid u3
            have T1 := Lib.hid (Ty.sizes_take [t1, t2] k hlt)
            have T2 := Lib.hid (Ty.depths_take [t1, t2] k hlt)
            have T3 := Lib.hid (Ty.forms_take [t1, t2] k hlt)
            have HW := Lib.hid hw
            have U2 := Lib.hid u2
            have U1 := Lib.hid u1
            clear h1 h2 h3 u3 u2 u1 hw
            have eq1 : Hid (rr - ↑(Ty.size ([t1, t2][k]'hlt)) = r - 1 - ↑(Ty.sizes (List.take (k + 1) [t1, t2]))) := by rw [T1.out]; have := HRR.out; show _ = _; omega
            go_wp2_with fail
            exact ⟨⟨k + 1, by omega, by go_num, by rw [← eq1.out]; have := U1.out; omega, by rw [T2.out]; have := HD.out; have := U2.out; omega, by rw [T3.out, HF.out, HU3.out]; rfl, by rw [← eq1.out]; exact HR6.out, hz6, HK6.out⟩, by simp [intOf]; omega⟩
          | false =>
            have hfin := within_sub (kd := 5) (r := r) (dp := dp) hlt HRR.out hw
            have HFIN := Lib.hid hfin
            have hsz1 := Ty.sizes_take [t1, t2] k hlt
            have hsz2 := Ty.sizes_le [t1, t2] (k + 1)
            have hq := HRR.out
            have hlo : r - ↑(1 + Ty.sizes [t1, t2]) ≤ r6 := by omega
            have hhi : r6 ≤ r := by omega
            clear hfin hw hsz1 hsz2 hq h1 h2 h3
            go_wp2_with fail
            go_ret
            exact WithinEnd.of HFIN.out HR6.out (by rw [HSG.out]; exact hlo) hhi (fun h => by cases h)
        · obtain rfl : k = 2 := by omega
          have hfin : within (.node 5 [t1, t2]) r dp = true := by
            have h1 : 0 ≤ r - 1 - (Ty.sizes [t1, t2] : Int) := HS.out
            have h2 : (Ty.depths [t1, t2] : Int) ≤ dp - 1 := HD.out
            have h3 : Ty.forms [t1, t2] = true := HF.out
            have h4 := HKO.out
            exact within_mk (show ((1 + Ty.sizes [t1, t2] : Nat) : Int) ≤ r by omega) (show ((1 + Ty.depths [t1, t2] : Nat) : Int) ≤ dp by omega) (by simp only [Ty.form, h3, h4, Bool.and_self])
          have HFIN := Lib.hid hfin; clear hfin
          have h1 : 0 ≤ r - 1 - (Ty.sizes [t1, t2] : Int) := HS.out
          have hlo : r - ↑(1 + Ty.sizes [t1, t2]) ≤ r - 1 - ↑(Ty.sizes [t1, t2]) := by omega
          have HLO := Lib.hid hlo; clear hlo h1
          go_wp2_with fail
          go_ret
          exact WithinEnd.of (r' := r - 1 - ↑(Ty.sizes [t1, t2])) HFIN.out HR.out (by rw [HSG.out]; exact HLO.out) (by omega) (fun _ => by rw [HSG.out]; omega)
end Go.Proofs.YteeojgefnoaajaaDoor
/-
  Proved: impl.IsValidType says whether a type's tree is a valid type; it leaves the memory that was there as it was.
-/
namespace Go.Proofs.YteeojgefnoaajaaDoor
open Go.RowKit

theorem within_valid (t : Ty) : within t 800 24 = t.valid := by
  have e1 : decide ((t.size : Int) ≤ 800) = decide (t.size ≤ 800) := decide_eq_decide.2 (by omega)
  have e2 : decide ((t.depth : Int) ≤ 24) = decide (t.depth ≤ 24) := decide_eq_decide.2 (by omega)
  unfold within Ty.valid
  rw [e1, e2]
set_option maxRecDepth 100000 in
set_option maxHeartbeats 1000000 in
theorem implValid (d : Nat) (v : Value) (t : Ty) (w : World) (h : TyAt w d v t) (hsz : t.size ≤ 1048577) :
    Calls Tryd.prog 141 #[v] w fun e w' => e = .returned (.bool t.valid) ∧ Below w.heap.size w w' := by
  have HT := Lib.hid h
  obtain ⟨yk, ya, yn, yc, rfl⟩ := agg_parts h
  clear h
  have X : Hid (Below w.heap.size w ((w.alloc (.cells #[.int .i64 yk, .slice ya yn yc] 33)).alloc (.cells #[.int .i64 800] 3))) := ((Below.refl _ _).alloc (Nat.le_refl _) _).alloc (by simp) _
  go_enter Tryd.func141, Tryd.ntmps141
  go_wp2_with fail
  refine (implWithin w d _ t (w.heap.size + 1) 800 24 _ HT.out X.out (by omega) hsz (by simp) (by omega) (by omega) (by omega) (by omega) (by simp [go_sem]) (by simp [go_sem])).mono ?_
  intro e w' hend
  obtain ⟨r', rfl, hr, _⟩ := hend.room
  have HB := Lib.hid (X.out.trans (hr.2.2.1.mono (Nat.le_succ _)))
  clear hend hr
  go_wp2_with fail
  go_ret
  exact ⟨by rw [within_valid]; rfl, HB.out⟩
end Go.Proofs.YteeojgefnoaajaaDoor
/-
  Proved: impl.EqualType says whether two trees are equal, and leaves the memory that was there as it was.
-/
namespace Go.Proofs.YteeojgefnoaajaaDoor
open Go.RowKit

set_option maxRecDepth 100000 in
set_option maxHeartbeats 2000000 in
theorem implEqual : ∀ (d : Nat) (v1 v2 : Value) (t1 t2 : Ty) (w : World), TyAt w d v1 t1 → TyAt w d v2 t2 →
    Calls Tryd.prog 159 #[v1, v2] w fun e w' => e = .returned (.bool (t1.beq t2)) ∧ Below w.heap.size w w'
  | 0, _, _, _, _, _, h, _ => h.elim
  | d + 1, v1, v2, .node k1 cs, .node k2 bs, w, h1, h2 => by
    have IH : Hid (∀ (v1 v2 : Value) (t1 t2 : Ty) (w : World), TyAt w d v1 t1 → TyAt w d v2 t2 → Calls Tryd.prog 159 #[v1, v2] w fun e w' => e = .returned (.bool (t1.beq t2)) ∧ Below w.heap.size w w') := implEqual d
    obtain ⟨s1, rfl, hk0, hk1, a1, cap1, rfl, hcap1, hm1, hat1⟩ := h1
    obtain ⟨s2, rfl, hk2, hk3, a2, cap2, rfl, hcap2, hm2, hat2⟩ := h2
    have HA1 := Lib.hid hat1; clear hat1
    have HA2 := Lib.hid hat2; clear hat2
    by_cases q1 : k1 = k2
    · subst q1
      by_cases q2 : bs.length = cs.length
      · have HFIN : Hid ((Ty.node k1 cs).beq (Ty.node k1 bs) = Ty.beqs cs bs) := by show _ = _; simp [Ty.beq]
        rw [q2]
        go_enter Tryd.func159, Tryd.ntmps159
        go_wp2_with fail
        go_loopw [23] (fun i wr => ∃ k : Nat, k ≤ cs.length ∧ i = .int .i64 k ∧ Ty.beqs (cs.take k) (bs.take k) = true ∧ Below (w.heap.size + 2) ((w.alloc (.cells #[.int .i64 k1, .slice a1 cs.length cap1] 33)).alloc (.cells #[.int .i64 k1, .slice a2 cs.length cap2] 33)) wr) (fun i _ => cs.length - (intOf i).toNat)
        case atStart => exact ⟨0, by omega, rfl, by simp [Ty.beqs], Below.refl _ _⟩
        case round =>
          obtain ⟨k, hk, rfl, hf, hb⟩ := hrel
          have HF := Lib.hid hf; clear hf
          have y1 := two_first hb 1
          have y2 := two_next hb 1
          have HB := Lib.hid (two_below hb)
          have HBX := Lib.hid hb; clear hb
          by_cases hlt : k < cs.length
          · have hlt2 : k < bs.length := by omega
            obtain ⟨b1, off1, x0, x1, rfl, hbl1, hc10, hc11, ht1⟩ := HA1.out k hlt
            obtain ⟨b2, off2, z0, z1, rfl, hbl2, hc20, hc21, ht2⟩ := HA2.out k hlt2
            have c10 : wr.cell? ⟨b1, off1 + k * 2, none⟩ = some x0 := by rw [HB.out.cell (p := ⟨b1, off1 + k * 2, none⟩) hbl1]; exact hc10
            have c11 : wr.cell? ⟨b1, off1 + k * 2 + 1, none⟩ = some x1 := by rw [HB.out.cell (p := ⟨b1, off1 + k * 2 + 1, none⟩) hbl1]; exact hc11
            have c20 : wr.cell? ⟨b2, off2 + k * 2, none⟩ = some z0 := by rw [HB.out.cell (p := ⟨b2, off2 + k * 2, none⟩) hbl2]; exact hc20
            have c21 : wr.cell? ⟨b2, off2 + k * 2 + 1, none⟩ = some z1 := by rw [HB.out.cell (p := ⟨b2, off2 + k * 2 + 1, none⟩) hbl2]; exact hc21
            have HT1 := Lib.hid (ht1.below HB.out.drew)
            have HT2 := Lib.hid (ht2.below HB.out.drew)
            clear ht1 ht2 hc10 hc11 hc20 hc21
            go_wp2_with fail
            go_still_tail 10, (by kernel_rfl)
            change wpList _ _ _ _ _ wr.drew
            go_wp2_with fail
            refine (IH.out _ _ _ _ wr.drew HT1.out HT2.out).mono ?_
            rintro e w' ⟨rfl, hb1⟩
            have HN := Lib.hid (two_on HBX.out.drew hb1); clear hb1
            have HTK := Lib.hid (Ty.beqs_take cs bs k hlt hlt2)
            cases hfk : cs[k].beq bs[k] with
            | true =>
              have HFK := Lib.hid hfk; clear hfk
              go_wp2_with fail
              exact ⟨⟨k + 1, by omega, by go_num, by rw [HTK.out, HF.out, HFK.out]; rfl, HN.out⟩, by simp [intOf]; omega⟩
            | false =>
              have HFK := Lib.hid hfk; clear hfk
              go_wp2_with fail
              go_ret
              have e : Ty.beqs cs bs = false := Ty.beqs_false cs bs (k + 1) (by rw [HTK.out, HF.out, HFK.out]; rfl) q2.symm
              exact ⟨by rw [HFIN.out, e]; rfl, two_below HN.out⟩
          · obtain rfl : k = cs.length := by omega
            have e : Hid (Ty.beqs cs bs = true) := by
              have := HF.out
              rw [List.take_length, ← q2, List.take_length] at this; exact this
            go_wp2_with fail
            go_ret
            exact ⟨by rw [HFIN.out, e.out]; rfl, HB.out⟩
      · have HFIN : Hid ((Ty.node k1 cs).beq (Ty.node k1 bs) = false) := by show _ = _; simp [Ty.beq, Ty.beqs_len cs bs (fun e => q2 e.symm)]
        have q3 : ¬ ((cs.length : Int) = (bs.length : Int)) := by omega
        go_enter Tryd.func159, Tryd.ntmps159
        go_wp2_with fail
        go_ret
        exact ⟨by rw [HFIN.out]; rfl, ((Below.refl _ _).alloc (Nat.le_refl _) _).alloc (by simp) _⟩
    · have HFIN : Hid ((Ty.node k1 cs).beq (Ty.node k2 bs) = false) := by show _ = _; simp [Ty.beq, q1]
      go_enter Tryd.func159, Tryd.ntmps159
      go_wp2_with fail
      go_ret
      exact ⟨by rw [HFIN.out]; rfl, ((Below.refl _ _).alloc (Nat.le_refl _) _).alloc (by simp) _⟩
end Go.Proofs.YteeojgefnoaajaaDoor
/-
  Proved: impl.isCoreNumberFor, impl.isCoreTypeIf and impl.hasOwnNames say whether the number, a type and the names of an environment belong to a node; the memory that was there stays as it was.
-/
namespace Go.Proofs.YteeojgefnoaajaaDoor
open Go.RowKit Go.Maps Go.WideMaps

set_option maxRecDepth 100000 in
set_option maxHeartbeats 4000000 in
theorem implCoNum (kd n : Int) (w : World) : Calls Tryd.prog 130 #[.int .i64 kd, .int .i64 n] w fun e w' => e = .returned (.bool (coNumFor kd n)) ∧ Below w.heap.size w w' := by
  by_cases q1 : kd = 1
  · subst q1
    by_cases r1 : 1 ≤ n
    · by_cases r2 : n ≤ 99
      · skip
        go_enter Tryd.func130, Tryd.ntmps130
        go_wp2_with fail
        go_ret
        exact ⟨by first | (simp [coNumFor, *]; done) | (simp [coNumFor, *]; omega), Below.refl _ _⟩
      · skip
        go_enter Tryd.func130, Tryd.ntmps130
        go_wp2_with fail
        go_ret
        exact ⟨by first | (simp [coNumFor, *]; done) | (simp [coNumFor, *]; omega), Below.refl _ _⟩
    · skip
      go_enter Tryd.func130, Tryd.ntmps130
      go_wp2_with fail
      go_ret
      exact ⟨by first | (simp [coNumFor, *]; done) | (simp [coNumFor, *]; omega), Below.refl _ _⟩
  by_cases q2 : kd = 2
  · subst q2
    by_cases r1 : 1 ≤ n
    · by_cases r2 : n ≤ 99
      · skip
        go_enter Tryd.func130, Tryd.ntmps130
        go_wp2_with fail
        go_ret
        exact ⟨by first | (simp [coNumFor, *]; done) | (simp [coNumFor, *]; omega), Below.refl _ _⟩
      · skip
        go_enter Tryd.func130, Tryd.ntmps130
        go_wp2_with fail
        go_ret
        exact ⟨by first | (simp [coNumFor, *]; done) | (simp [coNumFor, *]; omega), Below.refl _ _⟩
    · skip
      go_enter Tryd.func130, Tryd.ntmps130
      go_wp2_with fail
      go_ret
      exact ⟨by first | (simp [coNumFor, *]; done) | (simp [coNumFor, *]; omega), Below.refl _ _⟩
  by_cases q9 : kd = 9
  · subst q9
    by_cases r0 : n = 0
    · subst r0
      go_enter Tryd.func130, Tryd.ntmps130
      go_wp2_with fail
      go_ret
      exact ⟨by simp [coNumFor], Below.refl _ _⟩
    · have r0b : (n == 0) = false := by simp [r0]
      by_cases r1 : n = 1
      · subst r1
        go_enter Tryd.func130, Tryd.ntmps130
        go_wp2_with fail
        go_ret
        exact ⟨by simp [coNumFor], Below.refl _ _⟩
      · have r1b : (n == 1) = false := by simp [r1]
        go_enter Tryd.func130, Tryd.ntmps130
        go_wp2_with fail
        go_ret
        exact ⟨by simp [coNumFor]; omega, Below.refl _ _⟩
  have z1 : (kd == 1) = false := by simp [q1]
  have z2 : (kd == 2) = false := by simp [q2]
  have z9 : (kd == 9) = false := by simp [q9]
  by_cases r0 : n = 0
  · subst r0
    go_enter Tryd.func130, Tryd.ntmps130
    go_wp2_with fail
    go_ret
    exact ⟨by simp [coNumFor, q1, q2, q9], Below.refl _ _⟩
  have r0b : (n == 0) = false := by simp [r0]
  by_cases q6 : kd = 6
  · subst q6
    go_enter Tryd.func130, Tryd.ntmps130
    go_wp2_with fail
    go_ret
    exact ⟨by simp [coNumFor], Below.refl _ _⟩
  have z6 : (kd == 6) = false := by simp [q6]
  go_enter Tryd.func130, Tryd.ntmps130
  go_wp2_with fail
  go_ret
  exact ⟨by simp [coNumFor, q1, q2, q9, q6, r0], Below.refl _ _⟩
theorem nil_ty (w : World) {d : Nat} {v : Value} {t : Ty} (h : TyAt w d v t) : TyAt w d (.agg #[.int .i64 0, .slice none 0 0]) (.node 0 []) := by
  cases d with
  | zero => exact h.elim
  | succ d => exact ⟨_, rfl, by omega, by omega, none, 0, rfl, Nat.le_refl _, by omega, fun j hj => by simp at hj⟩
set_option maxRecDepth 100000 in
set_option maxHeartbeats 4000000 in
theorem implCoTyIf (d : Nat) (b : Bool) (v : Value) (t : Ty) (w : World) (h : TyAt w d v t) (hsz : t.size ≤ 1048577) : Calls Tryd.prog 133 #[.bool b, v] w fun e w' => e = .returned (.bool (coTyFor b t)) ∧ Below w.heap.size w w' := by
  have HT := Lib.hid h
  obtain ⟨yk, ya, yn, yc, rfl⟩ := agg_parts h
  clear h
  cases b with
  | true =>
    go_enter Tryd.func133, Tryd.ntmps133
    go_wp2_with fail
    refine (implValid d _ t _ (HT.out.below (below_alloc _ _)) hsz).mono ?_
    rintro e w2 ⟨rfl, hb2⟩
    go_wp2_with fail
    go_ret
    exact ⟨rfl, below_on (below_alloc _ _) hb2 (by simp)⟩
  | false =>
    go_enter Tryd.func133, Tryd.ntmps133
    go_wp2_with fail
    refine (implEqual d _ _ t (.node 0 []) _ (HT.out.below (below_alloc _ _)) (nil_ty _ (HT.out.below (below_alloc _ _)))).mono ?_
    rintro e w2 ⟨rfl, hb2⟩
    go_wp2_with fail
    go_ret
    exact ⟨rfl, below_on (below_alloc _ _) hb2 (by simp)⟩
set_option maxRecDepth 100000 in
set_option maxHeartbeats 4000000 in
theorem own_step {ns : List ByteArray} {k : Nat} (h : k < ns.length) (hb : (nameB ns[k] && !seenB (ns.take k) ns[k].data.toList) = false) : ownNames [] ns = false := by
  have e := ownNames_take ns [] k h
  rw [List.nil_append, hb, Bool.and_false] at e
  exact ownNames_false ns [] (k + 1) e
set_option maxRecDepth 100000 in
set_option maxHeartbeats 4000000 in
theorem implOwnNames (d : Nat) (v : Value) (ns : List ByteArray) (vs : List Co) (w : World) (h : CbsAt w d v ns vs) (hn : vs.length ≤ 1048576) :
    Calls Tryd.prog 132 #[v] w fun e w' => e = .returned (.bool (ownNames [] ns)) ∧ Below w.heap.size w w' := by
  obtain ⟨hln, a, cap, rfl, hcap, hcap2, hat⟩ := h
  have HAT := Lib.hid hat; clear hat
  have HLN := Lib.hid hln; clear hln
  have hmm := @run_makeMap Tryd.prog
  go_enter Tryd.func132, Tryd.ntmps132
  go_wp2_with fail
  clear hmm
  go_loopw [9] (fun i wr => ∃ (k : Nat) (L : List ByteArray), k ≤ vs.length ∧ i = .int .i64 k ∧ L = ns.take k ∧ ownNames [] (ns.take k) = true ∧ NamesAt wr w.heap.size k L ∧ Below w.heap.size w wr) (fun i _ => vs.length - (intOf i).toNat)
  case atStart => exact ⟨0, [], by omega, rfl, by simp, by simp [ownNames], by show SetAt _ _ _ _ _ _ _ _; rw [← seenB_nil]; exact SetAt.new _ _ _ _ _, (Below.refl _ _).alloc (Nat.le_refl _) _⟩
  case round =>
    obtain ⟨k, L, hk, rfl, hL, hon, hset, hb⟩ := hrel
    have HL := Lib.hid hL; clear hL
    have HON := Lib.hid hon; clear hon
    have HB := Lib.hid hb; clear hb
    have HN := Lib.hid hset; clear hset
    by_cases hlt : k < vs.length
    · have hlt2 : k < ns.length := by have := HLN.out; omega
      obtain ⟨b, off, x0, x1, x2, x3, x4, x5, x6, x7, x8, rfl, hbl, hnz, hcn, _⟩ := HAT.out k hlt hlt2
      have HTK := Lib.hid (take_add ns k hlt2)
      have HOT := Lib.hid (ownNames_take ns [] k hlt2)
      have HNAME : Hid ((nameB ns[k] && !seenB L ns[k].data.toList) = false → ownNames [] ns = false) := by intro hq; rw [HL.out] at hq; exact own_step hlt2 hq
      obtain ⟨x, hx⟩ : ∃ x, x = ns[k] := ⟨_, rfl⟩
      rw [← hx] at hcn hnz
      rw [← hx] at HTK HOT HNAME
      clear hx
      have en : wr.cell? ⟨b, off + k * 10, none⟩ = some (.string x) := (HB.out.cell (p := ⟨b, off + k * 10, none⟩) hbl).trans hcn
      have hkey : keyOf Tryd.prog 9 (.string x) = some (.string x.data.toList) := keyOf_string_mk Tryd.underlying9 hnz
      have HK := Lib.hid hkey; clear hkey hcn
      go_wp2_with fail
      refine (implName x _ hnz).mono ?_
      rintro e w2 ⟨rfl, hb2⟩
      replace HN := Lib.hid (HN.out.below hb2)
      replace HB := Lib.hid (HB.out.trans (hb2.mono HB.out.size))
      clear hb2 en
      cases hnb : nameB x with
      | false =>
        have HNO := Lib.hid (HNAME.out (by rw [hnb]; rfl))
        clear hnb
        go_wp2_with fail
        go_ret
        exact ⟨by rw [HNO.out]; rfl, HB.out⟩
      | true =>
        have HNB := Lib.hid hnb; clear hnb
        go_wp2_with (first
          | (at_lookup; refine set_lookup_w _ (by first | rfl | kernel_rfl) _ _ 149 rfl law_str Tryd.underlying149 Tryd.underlying4 (zero_bool _) rfl HN.out _ x.data.toList rfl HK.out ?_)
          | (at_mapUpdate; refine set_store _ rfl _ _ _ 149 rfl law_str Tryd.underlying149 Tryd.underlying4 rfl HN.out (by unfold maxLen; omega) _ x.data.toList rfl true rfl HK.out (fun _ h => by injection h) trivial ?_; intro w1 hset1 hg1))
        · have hq : seenB L x.data.toList = true := by assumption
          have HNO := Lib.hid (HNAME.out (by rw [HNB.out, hq]; rfl))
          go_ret
          exact ⟨by rw [HNO.out]; rfl, HB.out⟩
        · have hq : seenB L x.data.toList = false := by assumption
          have HQ := Lib.hid hq
          have hn1 : NamesAt w1 w.heap.size (k + 1) (L ++ [x]) := by
            show SetAt _ _ _ _ _ _ _ _
            rw [← seenB_put]; exact hset1
          have HN1 := Lib.hid hn1
          have HB1 := Lib.hid (HB.out.grown hg1 HB.out.size (fun j hj => by cases hj; exact Nat.le_refl _))
          clear hset1 hg1 hn1 hq
          go_roundw
          case rel => exact ⟨k + 1, L ++ [x], by omega, by go_num, by rw [HTK.out, HL.out], by have h := HQ.out; rw [HL.out] at h; rw [HOT.out, HON.out, HNB.out, List.nil_append, h]; rfl, HN1.out, HB1.out⟩
          case measure => simp [intOf]; omega
    · obtain rfl : k = vs.length := by omega
      have HEN : Hid (ownNames [] ns = true) := by have h1 := HON.out; rw [← HLN.out, List.take_length] at h1; exact h1
      go_wp2_with fail
      go_ret
      exact ⟨by rw [HEN.out]; rfl, HB.out⟩
end Go.Proofs.YteeojgefnoaajaaDoor
/-
  Proved: plain facts on equal expressions; the memory that was there stays as it was.
-/
namespace Go.Proofs.YteeojgefnoaajaaDoor
open Go.RowKit

theorem text_ne {a b : ByteArray} (h : a ≠ b) : (a.toList == b.toList) = false := by
  rw [ByteArray.toList_eq, ByteArray.toList_eq]
  refine beq_false_of_ne fun e => h ?_
  cases a; cases b
  exact congrArg ByteArray.mk (Array.toList_inj.1 e)
/-- Two expressions have equal roots: all fields but the parts, and the number of these. -/
def Ex.roots : Ex → Ex → Bool
  | .node k nm n ty es, .node l nl m tz fs => decide (k = l) && (decide (nm = nl) && (decide (n = m) && (ty.beq tz && decide (es.length = fs.length))))
mutual
def Ex.beq : Ex → Ex → Bool
  | .node k nm n ty es, .node l nl m tz fs => (decide (k = l) && (decide (nm = nl) && (decide (n = m) && (ty.beq tz && decide (es.length = fs.length))))) && Ex.beqs es fs
def Ex.beqs : List Ex → List Ex → Bool
  | [], [] => true
  | a :: r, b :: s => a.beq b && Ex.beqs r s
  | _, _ => false
end
theorem Ex.beqs_take : ∀ (cs bs : List Ex) (k : Nat) (h : k < cs.length) (h' : k < bs.length), Ex.beqs (cs.take (k + 1)) (bs.take (k + 1)) = (Ex.beqs (cs.take k) (bs.take k) && cs[k].beq bs[k])
  | [], _, _, h, _ => by simp at h
  | _ :: _, [], _, _, h => by simp at h
  | a :: r, b :: s, 0, _, _ => by simp [Ex.beqs]
  | a :: r, b :: s, k + 1, h, h' => by
    simp only [List.take_succ_cons, Ex.beqs, List.getElem_cons_succ]
    rw [Ex.beqs_take r s k (by simpa using h) (by simpa using h'), Bool.and_assoc]
theorem Ex.beqs_false : ∀ (cs bs : List Ex) (k : Nat), Ex.beqs (cs.take k) (bs.take k) = false → cs.length = bs.length → Ex.beqs cs bs = false
  | [], [], k, h, _ => by simp [Ex.beqs] at h
  | [], _ :: _, _, _, e => by simp at e
  | _ :: _, [], _, _, e => by simp at e
  | a :: r, b :: s, 0, h, _ => by simp [Ex.beqs] at h
  | a :: r, b :: s, k + 1, h, e => by
    simp only [List.take_succ_cons, Ex.beqs, Bool.and_eq_false_iff] at h ⊢
    rcases h with h | h
    · exact Or.inl h
    · exact Or.inr (Ex.beqs_false r s k h (by simpa using e))
end Go.Proofs.YteeojgefnoaajaaDoor
/-
  Proved: plain facts on equal core expressions and environments; no program.
-/
namespace Go.Proofs.YteeojgefnoaajaaDoor
open Go.RowKit

def nbeqs : List ByteArray → List ByteArray → Bool
  | [], [] => true
  | a :: r, b :: s => decide (a = b) && nbeqs r s
  | _, _ => false
mutual
def Co.beq : Co → Co → Bool
  | .node k nm n fr ty es ns vs, .node l nl m gr tz fs ms us => (decide (k = l) && (decide (nm = nl) && (decide (n = m) && (fr.beq gr && ty.beq tz)))) && (Co.beqs es fs && (nbeqs ns ms && Co.beqs vs us))
def Co.beqs : List Co → List Co → Bool
  | [], [] => true
  | a :: r, b :: s => a.beq b && Co.beqs r s
  | _, _ => false
end
theorem nbeqs_len : ∀ (cs bs : List ByteArray), cs.length ≠ bs.length → nbeqs cs bs = false
  | [], [], h => (h rfl).elim
  | [], _ :: _, _ => rfl
  | _ :: _, [], _ => rfl
  | a :: r, b :: s, h => by
    simp only [nbeqs, nbeqs_len r s (by simpa using h), Bool.and_false]
theorem nbeqs_take : ∀ (cs bs : List ByteArray) (k : Nat) (h : k < cs.length) (h' : k < bs.length), nbeqs (cs.take (k + 1)) (bs.take (k + 1)) = (nbeqs (cs.take k) (bs.take k) && decide (cs[k] = bs[k]))
  | [], _, _, h, _ => by simp at h
  | _ :: _, [], _, _, h => by simp at h
  | a :: r, b :: s, 0, _, _ => by simp [nbeqs]
  | a :: r, b :: s, k + 1, h, h' => by
    simp only [List.take_succ_cons, nbeqs, List.getElem_cons_succ]
    rw [nbeqs_take r s k (by simpa using h) (by simpa using h'), Bool.and_assoc]
theorem nbeqs_false : ∀ (cs bs : List ByteArray) (k : Nat), nbeqs (cs.take k) (bs.take k) = false → cs.length = bs.length → nbeqs cs bs = false
  | [], [], k, h, _ => by simp [nbeqs] at h
  | [], _ :: _, _, _, e => by simp at e
  | _ :: _, [], _, _, e => by simp at e
  | a :: r, b :: s, 0, h, _ => by simp [nbeqs] at h
  | a :: r, b :: s, k + 1, h, e => by
    simp only [List.take_succ_cons, nbeqs, Bool.and_eq_false_iff] at h ⊢
    rcases h with h | h
    · exact Or.inl h
    · exact Or.inr (nbeqs_false r s k h (by simpa using e))
theorem Co.beqs_len : ∀ (cs bs : List Co), cs.length ≠ bs.length → Co.beqs cs bs = false
  | [], [], h => (h rfl).elim
  | [], _ :: _, _ => rfl
  | _ :: _, [], _ => rfl
  | a :: r, b :: s, h => by
    simp only [Co.beqs, Co.beqs_len r s (by simpa using h), Bool.and_false]
theorem Co.beqs_take : ∀ (cs bs : List Co) (k : Nat) (h : k < cs.length) (h' : k < bs.length), Co.beqs (cs.take (k + 1)) (bs.take (k + 1)) = (Co.beqs (cs.take k) (bs.take k) && cs[k].beq bs[k])
  | [], _, _, h, _ => by simp at h
  | _ :: _, [], _, _, h => by simp at h
  | a :: r, b :: s, 0, _, _ => by simp [Co.beqs]
  | a :: r, b :: s, k + 1, h, h' => by
    simp only [List.take_succ_cons, Co.beqs, List.getElem_cons_succ]
    rw [Co.beqs_take r s k (by simpa using h) (by simpa using h'), Bool.and_assoc]
theorem Co.beqs_false : ∀ (cs bs : List Co) (k : Nat), Co.beqs (cs.take k) (bs.take k) = false → cs.length = bs.length → Co.beqs cs bs = false
  | [], [], k, h, _ => by simp [Co.beqs] at h
  | [], _ :: _, _, _, e => by simp at e
  | _ :: _, [], _, _, e => by simp at e
  | a :: r, b :: s, 0, h, _ => by simp [Co.beqs] at h
  | a :: r, b :: s, k + 1, h, e => by
    simp only [List.take_succ_cons, Co.beqs, Bool.and_eq_false_iff] at h ⊢
    rcases h with h | h
    · exact Or.inl h
    · exact Or.inr (Co.beqs_false r s k h (by simpa using e))
/-- Two environments are equal: their names and their values. -/
def ebeq (ns : List ByteArray) (vs : List Co) (ms : List ByteArray) (us : List Co) : Bool := nbeqs ns ms && Co.beqs vs us
theorem ebeq_len (ns : List ByteArray) (vs : List Co) (ms : List ByteArray) (us : List Co) (h : vs.length ≠ us.length) : ebeq ns vs ms us = false := by
  unfold ebeq
  rw [Co.beqs_len vs us h, Bool.and_false]
theorem ebeq_take (ns : List ByteArray) (vs : List Co) (ms : List ByteArray) (us : List Co) (k : Nat) (h1 : k < ns.length) (h2 : k < vs.length) (h3 : k < ms.length) (h4 : k < us.length) :
    ebeq (ns.take (k + 1)) (vs.take (k + 1)) (ms.take (k + 1)) (us.take (k + 1)) = (ebeq (ns.take k) (vs.take k) (ms.take k) (us.take k) && (decide (ns[k] = ms[k]) && vs[k].beq us[k])) := by
  unfold ebeq
  rw [nbeqs_take ns ms k h1 h3, Co.beqs_take vs us k h2 h4]
  cases nbeqs (ns.take k) (ms.take k) <;> cases decide (ns[k] = ms[k]) <;> cases Co.beqs (vs.take k) (us.take k) <;> rfl
theorem ebeq_bad (ns : List ByteArray) (vs : List Co) (ms : List ByteArray) (us : List Co) (k : Nat) (h1 : k < ns.length) (h2 : k < vs.length) (h3 : k < ms.length) (h4 : k < us.length) (e1 : ns.length = ms.length) (e2 : vs.length = us.length)
    (hb : (decide (ns[k] = ms[k]) && vs[k].beq us[k]) = false) : ebeq ns vs ms us = false := by
  unfold ebeq
  cases hd : decide (ns[k] = ms[k]) with
  | false => rw [nbeqs_false ns ms (k + 1) (by rw [nbeqs_take ns ms k h1 h3, hd, Bool.and_false]) e1, Bool.false_and]
  | true =>
    rw [hd, Bool.true_and] at hb
    rw [Co.beqs_false vs us (k + 1) (by rw [Co.beqs_take vs us k h2 h4, hb, Bool.and_false]) e2, Bool.and_false]
/-- In the world w the pointer v leads to the core expression t. -/
def PtrCo (w : World) (d : Nat) (v : Value) (t : Co) : Prop :=
  ∃ b off c0 c1 c2 c3 c4 c5 c6 c7 c8, v = .pointer (some ⟨b, off, none⟩) ∧ b < w.heap.size ∧ w.cell? ⟨b, off, none⟩ = some c0 ∧ w.cell? ⟨b, off + 1, none⟩ = some c1 ∧ w.cell? ⟨b, off + 2, none⟩ = some c2 ∧ w.cell? ⟨b, off + 3, none⟩ = some c3 ∧ w.cell? ⟨b, off + 4, none⟩ = some c4 ∧ w.cell? ⟨b, off + 5, none⟩ = some c5 ∧ w.cell? ⟨b, off + 6, none⟩ = some c6 ∧ w.cell? ⟨b, off + 7, none⟩ = some c7 ∧ w.cell? ⟨b, off + 8, none⟩ = some c8 ∧ CoAt w d (.agg #[c0, c1, c2, c3, c4, c5, c6, c7, c8]) t
theorem PtrCo.below {w w' : World} {d : Nat} {v : Value} {t : Co} (h : PtrCo w d v t) (hb : Below w.heap.size w w') : PtrCo w' d v t := by
  obtain ⟨b, off, c0, c1, c2, c3, c4, c5, c6, c7, c8, hv, hlt, h0, h1, h2, h3, h4, h5, h6, h7, h8, ht⟩ := h
  have hk : ∀ o, w'.cell? ⟨b, o, none⟩ = w.cell? ⟨b, o, none⟩ := fun o => hb.cell (p := ⟨b, o, none⟩) hlt
  exact ⟨b, off, c0, c1, c2, c3, c4, c5, c6, c7, c8, hv, Nat.lt_of_lt_of_le hlt hb.size, (hk _).trans h0, (hk _).trans h1, (hk _).trans h2, (hk _).trans h3, (hk _).trans h4, (hk _).trans h5, (hk _).trans h6, (hk _).trans h7, (hk _).trans h8, ht.below hb⟩
end Go.Proofs.YteeojgefnoaajaaDoor
/-
  Proved: impl.isCoreNode says whether the fields, the names of the environment and the number of parts of a node belong to its kind; the memory that was there stays as it was.
-/
namespace Go.Proofs.YteeojgefnoaajaaDoor
open Go.RowKit

def namedB (k : Int) : Bool := decide (k = 3) || decide (k = 4)
def coNodeB (k : Int) (nm : ByteArray) (n : Int) (fr ty : Ty) (len : Nat) (ns : List ByteArray) : Bool := coFieldsB k nm n fr ty && ((ownNames [] ns && envK k ns) && decide ((len : Int) = coArity k))
theorem coName_eq (k : Int) (nm : ByteArray) : coNameFor k nm = if namedB k then nameB nm else decide (nm.size = 0) := by
  unfold coNameFor namedB
  by_cases h3 : k = 3
  · simp [h3]
  · by_cases h4 : k = 4
    · simp [h4]
    · simp [h3, h4]
theorem coNode_eq (k : Int) (nm : ByteArray) (n : Int) (fr ty : Ty) (len : Nat) (ns : List ByteArray) : coNodeB k nm n fr ty len ns = (decide ((len : Int) = coArity k) && (coNumFor k n && ((if namedB k then nameB nm else decide (nm.size = 0)) && ((boundB k || decide (ns.length = 0)) && (ownNames [] ns && (coTyFor (srcB k) fr && coTyFor (tgtB k) ty)))))) := by
  rw [← coName_eq]
  unfold coNodeB coFieldsB coTypesB envK
  generalize decide ((len : Int) = coArity k) = b1
  generalize coNumFor k n = b2
  generalize coNameFor k nm = b3
  generalize boundB k = b4
  generalize decide (ns.length = 0) = b5
  generalize ownNames [] ns = b6
  generalize coTyFor (srcB k) fr = b7
  generalize coTyFor (tgtB k) ty = b8
  cases b1 <;> cases b2 <;> cases b3 <;> cases b4 <;> cases b5 <;> cases b6 <;> cases b7 <;> cases b8 <;> rfl
theorem rowNamed_eq : ∀ k, k < 16 → rowNamed.getD k false = namedB (k : Int) := by decide
theorem rowBound_eq : ∀ k, k < 16 → rowBound.getD k false = boundB (k : Int) := by decide
theorem rowSrc_eq : ∀ k, k < 16 → rowSrc.getD k false = srcB (k : Int) := by decide
theorem rowTgt_eq : ∀ k, k < 16 → rowTgt.getD k false = tgtB (k : Int) := by decide
/-- A row of the table. -/
theorem CoreFull.row {w : World} (h : CoreFull w) {k : Nat} (hk : k < 16) : w.cell? ⟨0, k * 5, none⟩ = some (.int .i64 (coTab.getD k 0)) ∧ w.cell? ⟨0, k * 5 + 1, none⟩ = some (.bool (namedB k)) ∧ w.cell? ⟨0, k * 5 + 2, none⟩ = some (.bool (boundB k)) ∧ w.cell? ⟨0, k * 5 + 3, none⟩ = some (.bool (srcB k)) ∧ w.cell? ⟨0, k * 5 + 4, none⟩ = some (.bool (tgtB k)) := by
  obtain ⟨h1, h2, h3, h4⟩ := h.2 k hk
  rw [rowNamed_eq k hk] at h1
  rw [rowBound_eq k hk] at h2
  rw [rowSrc_eq k hk] at h3
  rw [rowTgt_eq k hk] at h4
  exact ⟨h.1.2 k hk, h1, h2, h3, h4⟩
set_option maxRecDepth 100000 in
set_option maxHeartbeats 8000000 in
theorem implCoNode (d : Nat) (v : Value) (kd : Int) (nm0 : ByteArray) (n0 : Int) (fr ty : Ty) (es : List Co) (ns : List ByteArray) (vs : List Co) (w : World) (h : PtrCo w (d + 1) v (.node kd nm0 n0 fr ty es ns vs)) (hsz : (Co.node kd nm0 n0 fr ty es ns vs).bulk ≤ 1048576) (htab : CoreFull w) :
    Calls Tryd.prog 86 #[v] w fun e w' => e = .returned (.bool (coNodeB kd nm0 n0 fr ty es.length ns)) ∧ Below w.heap.size w w' := by
  obtain ⟨pb, po, x0, x1, x2, x3, x4, x5, x6, x7, x8, rfl, hpl, k0, k1, k2, k3, k4, k5, k6, k7, k8, ht⟩ := h
  obtain ⟨c3, c4, c5, c6, sl, el, hv, hk0, hk1, hn0, hn1, hnm, hfr, hty, ⟨a, cap, rfl, hcap, hcap2, hat⟩, hln, a2, cap2, rfl, hcpe, hcpe2, hae⟩ := ht
  injection hv with hv
  injection hv with hv
  simp at hv
  obtain ⟨rfl, rfl, rfl, rfl, rfl, rfl, rfl, rfl, rfl⟩ := hv
  obtain ⟨fk, fa, fn, fc, rfl, rfl⟩ := at_parts hfr
  obtain ⟨tk, ta, tn, tc, rfl, rfl⟩ := at_parts hty
  have HEN : Hid (CbsAt w d (.slice a2 vs.length cap2) ns vs) := ⟨hln, a2, cap2, rfl, hcpe, hcpe2, hae⟩
  have hbk : (Co.node kd nm0 n0 fr ty es ns vs).bulk = nm0.size + (fr.size - 1) + (ty.size - 1) + Co.bulks es + (txs ns + Co.bulks vs) := rfl
  have hlen : es.length ≤ 1048576 := by have := Co.length_le es; omega
  have hlen2 : vs.length ≤ 1048576 := by have := Co.length_le vs; omega
  have HNS : Hid (nm0.size ≤ 9223372036854775807) := by show _ ≤ _; omega
  have HFZ : Hid (fr.size ≤ 1048577) := by show _ ≤ _; omega
  have HTZ : Hid (ty.size ≤ 1048577) := by show _ ≤ _; omega
  have HFR := Lib.hid hfr
  have HTY := Lib.hid hty
  have HLN := Lib.hid hln
  have HTB := Lib.hid htab
  clear hat hae hfr hty hln hbk hsz htab
  have HM := Lib.hid (coNode_eq kd nm0 n0 fr ty es.length ns)
  obtain ⟨m, hm⟩ : ∃ m, m = coNodeB kd nm0 n0 fr ty es.length ns := ⟨_, rfl⟩
  rw [← hm] at HM ⊢
  clear hm
  have K0 := Lib.hid k0
  have K1 := Lib.hid k1
  have K2 := Lib.hid k2
  have K3 := Lib.hid k3
  have K4 := Lib.hid k4
  have K5 := Lib.hid k5
  have K6 := Lib.hid k6
  have K7 := Lib.hid k7
  have K8 := Lib.hid k8
  clear k0 k1 k2 k3 k4 k5 k6 k7 k8
  have C1 : ∀ q : Grown w.heap.size w, Calls Tryd.prog 129 #[.int .i64 kd] q.val fun e w' => e = .returned (.int .i64 (coArity kd)) ∧ Below q.val.heap.size q.val w' := fun q => implCoArity _ _ (HTB.out.1.below q.old)
  have C2 : ∀ q : Grown w.heap.size w, Calls Tryd.prog 130 #[.int .i64 kd, .int .i64 n0] q.val fun e w' => e = .returned (.bool (coNumFor kd n0)) ∧ Below q.val.heap.size q.val w' := fun q => implCoNum _ _ _
  obtain ⟨r, hr⟩ : ∃ r, r = coArity kd := ⟨_, rfl⟩
  obtain ⟨bu, hbu⟩ : ∃ b, b = coNumFor kd n0 := ⟨_, rfl⟩
  rw [← hr] at C1 HM
  rw [← hbu] at C2 HM
  have HR := Lib.hid hr
  clear hr hbu
  go_enter Tryd.func86, Tryd.ntmps86
  go_wp2_with fail
  have HB0 : Hid (Below w.heap.size w w) := Below.refl _ _
  have g0 : ∀ q : Grown w.heap.size w, q.val.cell? ⟨pb, po, none⟩ = some (.int .i64 kd) := fun q => (q.old.cell (p := ⟨pb, po, none⟩) (Nat.lt_of_lt_of_le hpl HB0.out.size)).trans ((HB0.out.cell (p := ⟨pb, po, none⟩) hpl).trans K0.out)
  have g1 : ∀ q : Grown w.heap.size w, q.val.cell? ⟨pb, po + 1, none⟩ = some (.string nm0) := fun q => (q.old.cell (p := ⟨pb, po + 1, none⟩) (Nat.lt_of_lt_of_le hpl HB0.out.size)).trans ((HB0.out.cell (p := ⟨pb, po + 1, none⟩) hpl).trans K1.out)
  have g2 : ∀ q : Grown w.heap.size w, q.val.cell? ⟨pb, po + 2, none⟩ = some (.int .i64 n0) := fun q => (q.old.cell (p := ⟨pb, po + 2, none⟩) (Nat.lt_of_lt_of_le hpl HB0.out.size)).trans ((HB0.out.cell (p := ⟨pb, po + 2, none⟩) hpl).trans K2.out)
  have g3 : ∀ q : Grown w.heap.size w, q.val.cell? ⟨pb, po + 3, none⟩ = some (.int .i64 fk) := fun q => (q.old.cell (p := ⟨pb, po + 3, none⟩) (Nat.lt_of_lt_of_le hpl HB0.out.size)).trans ((HB0.out.cell (p := ⟨pb, po + 3, none⟩) hpl).trans K3.out)
  have g4 : ∀ q : Grown w.heap.size w, q.val.cell? ⟨pb, po + 4, none⟩ = some (.slice fa fn fc) := fun q => (q.old.cell (p := ⟨pb, po + 4, none⟩) (Nat.lt_of_lt_of_le hpl HB0.out.size)).trans ((HB0.out.cell (p := ⟨pb, po + 4, none⟩) hpl).trans K4.out)
  have g5 : ∀ q : Grown w.heap.size w, q.val.cell? ⟨pb, po + 5, none⟩ = some (.int .i64 tk) := fun q => (q.old.cell (p := ⟨pb, po + 5, none⟩) (Nat.lt_of_lt_of_le hpl HB0.out.size)).trans ((HB0.out.cell (p := ⟨pb, po + 5, none⟩) hpl).trans K5.out)
  have g6 : ∀ q : Grown w.heap.size w, q.val.cell? ⟨pb, po + 6, none⟩ = some (.slice ta tn tc) := fun q => (q.old.cell (p := ⟨pb, po + 6, none⟩) (Nat.lt_of_lt_of_le hpl HB0.out.size)).trans ((HB0.out.cell (p := ⟨pb, po + 6, none⟩) hpl).trans K6.out)
  have g7 : ∀ q : Grown w.heap.size w, q.val.cell? ⟨pb, po + 7, none⟩ = some (.slice a es.length cap) := fun q => (q.old.cell (p := ⟨pb, po + 7, none⟩) (Nat.lt_of_lt_of_le hpl HB0.out.size)).trans ((HB0.out.cell (p := ⟨pb, po + 7, none⟩) hpl).trans K7.out)
  have g8 : ∀ q : Grown w.heap.size w, q.val.cell? ⟨pb, po + 8, none⟩ = some (.slice a2 vs.length cap2) := fun q => (q.old.cell (p := ⟨pb, po + 8, none⟩) (Nat.lt_of_lt_of_le hpl HB0.out.size)).trans ((HB0.out.cell (p := ⟨pb, po + 8, none⟩) hpl).trans K8.out)
  obtain ⟨bq, hbq⟩ : ∃ x, x = decide ((es.length : Int) = r) := ⟨_, rfl⟩
  rw [← hbq] at HM
  have HBQ := Lib.hid hbq; clear hbq
  obtain ⟨be, hbe⟩ : ∃ x, x = decide (nm0.size = 0) := ⟨_, rfl⟩
  rw [← hbe] at HM
  have HBE := Lib.hid hbe; clear hbe
  obtain ⟨bv, hbv⟩ : ∃ x, x = decide (ns.length = 0) := ⟨_, rfl⟩
  rw [← hbv] at HM
  have HBV := Lib.hid hbv; clear hbv
  obtain ⟨bo, hbo⟩ : ∃ x, x = ownNames [] ns := ⟨_, rfl⟩
  rw [← hbo] at HM
  have HBO := Lib.hid hbo; clear hbo
  cases bq
  case false =>
    have qa : ¬ ((es.length : Int) = r) := of_decide_eq_false HBQ.out.symm
    have qb : ((es.length : Int) == r) = false := by simp [qa]
    have qc : ((es.length : Int) != r) = true := by simp [qa]
    refine wp_region_grown w.heap.size (by kernel_rfl) (by kernel_rfl) ?_
    repeat (go_big_quiet_step ((first | (go_at_call 129; exact grown_of (Nat.le_refl _) (C1 _)) | (go_at_call 130; exact grown_of (Nat.le_refl _) (C2 _)))))
    refine wpQuiet_nil ?_
    rintro w9 ⟨⟨wq, hq⟩, rfl⟩
    go_wp2_with fail
    go_ret
    exact ⟨by rw [HM.out]; rfl, hq⟩
  case true =>
    have qa : (es.length : Int) = r := of_decide_eq_true HBQ.out.symm
    have qb : ((es.length : Int) == r) = true := by simp [qa]
    have qc : ((es.length : Int) != r) = false := by simp [qa]
    cases bu
    case false =>
      refine wp_region_grown w.heap.size (by kernel_rfl) (by kernel_rfl) ?_
      repeat (go_big_quiet_step ((first | (go_at_call 129; exact grown_of (Nat.le_refl _) (C1 _)) | (go_at_call 130; exact grown_of (Nat.le_refl _) (C2 _)))))
      refine wpQuiet_nil ?_
      rintro w9 ⟨⟨wq, hq⟩, rfl⟩
      go_wp2_with fail
      go_ret
      exact ⟨by rw [HM.out]; rfl, hq⟩
    refine wp_region_grown w.heap.size (by kernel_rfl) (by kernel_rfl) ?_
    repeat (go_big_quiet_step ((first | (go_at_call 129; exact grown_of (Nat.le_refl _) (C1 _)) | (go_at_call 130; exact grown_of (Nat.le_refl _) (C2 _)))))
    refine wpQuiet_nil ?_
    rintro w9 ⟨⟨wq, hq⟩, rfl⟩
    have HQ := Lib.hid hq
    clear hq g0 g1 g2 g3 g4 g5 g6 g7 g8 C1 C2
    have hkd : 1 ≤ kd ∧ kd ≤ 15 := by
      have h1 := HR.out
      by_cases h : 1 ≤ kd ∧ kd ≤ 15
      · exact h
      · rw [coArity_out h] at h1; omega
    obtain ⟨k, hk⟩ : ∃ k : Nat, kd = (k : Int) := ⟨kd.toNat, by omega⟩
    subst hk
    have hk16 : k < 16 := by omega
    obtain ⟨t0, t1, t2, t3, t4⟩ := (HTB.out.below HQ.out).row hk16
    obtain ⟨ar, har⟩ : ∃ x, x = coTab.getD k 0 := ⟨_, rfl⟩
    rw [← har] at t0
    obtain ⟨bn, hbn⟩ : ∃ x, x = namedB k := ⟨_, rfl⟩
    rw [← hbn] at t1 HM
    obtain ⟨bb, hbb⟩ : ∃ x, x = boundB k := ⟨_, rfl⟩
    rw [← hbb] at t2 HM
    obtain ⟨bs, hbs⟩ : ∃ x, x = srcB k := ⟨_, rfl⟩
    rw [← hbs] at t3 HM
    obtain ⟨bt, hbt⟩ : ∃ x, x = tgtB k := ⟨_, rfl⟩
    rw [← hbt] at t4 HM
    clear har hbn hbb hbs hbt HR HTB
    have z0 := (HQ.out.cell (p := ⟨pb, po, none⟩) hpl).trans K0.out
    go_wp2_with fail
    obtain ⟨p9, hp9⟩ : ∃ p, p = w9.heap.size := ⟨_, rfl⟩
    obtain ⟨W, hW⟩ : ∃ W, W = w9.alloc (.cells #[.int .i64 ar, .bool bn, .bool bb, .bool bs, .bool bt] 140) := ⟨_, rfl⟩
    have BW : Hid (Below w.heap.size w W) := by rw [hW]; exact HQ.out.alloc HQ.out.size _
    have XF : Hid (BoxAt W p9 #[.int .i64 ar, .bool bn, .bool bb, .bool bs, .bool bt]) := by rw [hW, hp9]; exact BoxAt.new _ _ _
    rw [← hW, ← hp9]
    clear hW hp9 HQ t0 t1 t2 t3 t4 z0
    have HNB := Lib.hid (nameB_empty (s := nm0))
    have C3 : ∀ q : Grown W.heap.size W, Calls Tryd.prog 131 #[.string nm0] q.val fun e w' => e = .returned (.bool (nameB nm0)) ∧ Below q.val.heap.size q.val w' := fun q => implName _ _ HNS.out
    obtain ⟨bm, hbm⟩ : ∃ x, x = nameB nm0 := ⟨_, rfl⟩
    rw [← hbm] at C3 HM HNB
    clear hbm
    have g0 : ∀ q : Grown W.heap.size W, q.val.cell? ⟨pb, po, none⟩ = some (.int .i64 k) := fun q => (q.old.cell (p := ⟨pb, po, none⟩) (Nat.lt_of_lt_of_le hpl BW.out.size)).trans ((BW.out.cell (p := ⟨pb, po, none⟩) hpl).trans K0.out)
    have g1 : ∀ q : Grown W.heap.size W, q.val.cell? ⟨pb, po + 1, none⟩ = some (.string nm0) := fun q => (q.old.cell (p := ⟨pb, po + 1, none⟩) (Nat.lt_of_lt_of_le hpl BW.out.size)).trans ((BW.out.cell (p := ⟨pb, po + 1, none⟩) hpl).trans K1.out)
    have g2 : ∀ q : Grown W.heap.size W, q.val.cell? ⟨pb, po + 2, none⟩ = some (.int .i64 n0) := fun q => (q.old.cell (p := ⟨pb, po + 2, none⟩) (Nat.lt_of_lt_of_le hpl BW.out.size)).trans ((BW.out.cell (p := ⟨pb, po + 2, none⟩) hpl).trans K2.out)
    have g3 : ∀ q : Grown W.heap.size W, q.val.cell? ⟨pb, po + 3, none⟩ = some (.int .i64 fk) := fun q => (q.old.cell (p := ⟨pb, po + 3, none⟩) (Nat.lt_of_lt_of_le hpl BW.out.size)).trans ((BW.out.cell (p := ⟨pb, po + 3, none⟩) hpl).trans K3.out)
    have g4 : ∀ q : Grown W.heap.size W, q.val.cell? ⟨pb, po + 4, none⟩ = some (.slice fa fn fc) := fun q => (q.old.cell (p := ⟨pb, po + 4, none⟩) (Nat.lt_of_lt_of_le hpl BW.out.size)).trans ((BW.out.cell (p := ⟨pb, po + 4, none⟩) hpl).trans K4.out)
    have g5 : ∀ q : Grown W.heap.size W, q.val.cell? ⟨pb, po + 5, none⟩ = some (.int .i64 tk) := fun q => (q.old.cell (p := ⟨pb, po + 5, none⟩) (Nat.lt_of_lt_of_le hpl BW.out.size)).trans ((BW.out.cell (p := ⟨pb, po + 5, none⟩) hpl).trans K5.out)
    have g6 : ∀ q : Grown W.heap.size W, q.val.cell? ⟨pb, po + 6, none⟩ = some (.slice ta tn tc) := fun q => (q.old.cell (p := ⟨pb, po + 6, none⟩) (Nat.lt_of_lt_of_le hpl BW.out.size)).trans ((BW.out.cell (p := ⟨pb, po + 6, none⟩) hpl).trans K6.out)
    have g7 : ∀ q : Grown W.heap.size W, q.val.cell? ⟨pb, po + 7, none⟩ = some (.slice a es.length cap) := fun q => (q.old.cell (p := ⟨pb, po + 7, none⟩) (Nat.lt_of_lt_of_le hpl BW.out.size)).trans ((BW.out.cell (p := ⟨pb, po + 7, none⟩) hpl).trans K7.out)
    have g8 : ∀ q : Grown W.heap.size W, q.val.cell? ⟨pb, po + 8, none⟩ = some (.slice a2 vs.length cap2) := fun q => (q.old.cell (p := ⟨pb, po + 8, none⟩) (Nat.lt_of_lt_of_le hpl BW.out.size)).trans ((BW.out.cell (p := ⟨pb, po + 8, none⟩) hpl).trans K8.out)
    have f0 : ∀ q : Grown W.heap.size W, q.val.cell? ⟨p9, 0, none⟩ = _ := fun q => (XF.out.grown q).2 0
    have f1 : ∀ q : Grown W.heap.size W, q.val.cell? ⟨p9, 1, none⟩ = _ := fun q => (XF.out.grown q).2 1
    have f2 : ∀ q : Grown W.heap.size W, q.val.cell? ⟨p9, 2, none⟩ = _ := fun q => (XF.out.grown q).2 2
    have f3 : ∀ q : Grown W.heap.size W, q.val.cell? ⟨p9, 3, none⟩ = _ := fun q => (XF.out.grown q).2 3
    have f4 : ∀ q : Grown W.heap.size W, q.val.cell? ⟨p9, 4, none⟩ = _ := fun q => (XF.out.grown q).2 4
    cases be
    case true =>
      have NZ : nm0.size = 0 := of_decide_eq_true HBE.out.symm
      have e1 := text_zero NZ
      have hb0 := HNB.out NZ
      subst hb0
      cases bn
      case true =>
        refine wp_region_grown W.heap.size (by kernel_rfl) (by kernel_rfl) ?_
        repeat (go_big_quiet_step ((first | (go_at_call 131; exact grown_of (Nat.le_refl _) (C3 _)))))
        refine wpQuiet_nil ?_
        rintro w8 ⟨⟨wq, hq8⟩, rfl⟩
        go_wp2_with fail
        go_ret
        exact ⟨by rw [HM.out]; rfl, BW.out.trans (hq8.mono BW.out.size)⟩
      case false =>
        refine wp_region_grown W.heap.size (by kernel_rfl) (by kernel_rfl) ?_
        repeat (go_big_quiet_step ((first | (go_at_call 131; exact grown_of (Nat.le_refl _) (C3 _)))))
        refine wpQuiet_nil ?_
        rintro w8 ⟨⟨wq, hq8⟩, rfl⟩
        have BX := Lib.hid (BW.out.trans (hq8.mono BW.out.size))
        have XX := Lib.hid (XF.out.below hq8)
        clear hq8 g0 g1 g2 g3 g4 g5 g6 g7 g8 f0 f1 f2 f3 f4 C3 BW XF
        have z8 := (BX.out.cell (p := ⟨pb, po + 8, none⟩) hpl).trans K8.out
        have y2 := XX.out.2 2
        cases bb
        case true =>
          go_wp2_with fail
          refine (implOwnNames d _ ns vs _ (HEN.out.below BX.out) hlen2).mono ?_
          rintro e w6 ⟨rfl, hb6⟩
          have BY := Lib.hid (BX.out.trans (hb6.mono BX.out.size))
          have XY := Lib.hid (XX.out.below hb6)
          clear hb6 BX XX z8 y2
          rw [← HBO.out]
          cases bo
          case false =>
            go_wp2_with fail
            go_ret
            exact ⟨by rw [HM.out]; rfl, BY.out⟩
          case true =>
            have C5 : ∀ q : Grown w6.heap.size w6, Calls Tryd.prog 133 #[.bool bs, .agg #[.int .i64 fk, .slice fa fn fc]] q.val fun e w' => e = .returned (.bool (coTyFor bs fr)) ∧ Below q.val.heap.size q.val w' := fun q => implCoTyIf d _ _ fr _ (HFR.out.below (BY.out.trans (q.old.mono BY.out.size))) HFZ.out
            have C6 : ∀ q : Grown w6.heap.size w6, Calls Tryd.prog 133 #[.bool bt, .agg #[.int .i64 tk, .slice ta tn tc]] q.val fun e w' => e = .returned (.bool (coTyFor bt ty)) ∧ Below q.val.heap.size q.val w' := fun q => implCoTyIf d _ _ ty _ (HTY.out.below (BY.out.trans (q.old.mono BY.out.size))) HTZ.out
            obtain ⟨xf, hxf⟩ : ∃ x, x = coTyFor bs fr := ⟨_, rfl⟩
            rw [← hxf] at C5 HM
            obtain ⟨xt, hxt⟩ : ∃ x, x = coTyFor bt ty := ⟨_, rfl⟩
            rw [← hxt] at C6 HM
            clear hxf hxt
            go_wp2_with fail
            have g0 : ∀ q : Grown w6.heap.size w6, q.val.cell? ⟨pb, po, none⟩ = some (.int .i64 k) := fun q => (q.old.cell (p := ⟨pb, po, none⟩) (Nat.lt_of_lt_of_le hpl BY.out.size)).trans ((BY.out.cell (p := ⟨pb, po, none⟩) hpl).trans K0.out)
            have g1 : ∀ q : Grown w6.heap.size w6, q.val.cell? ⟨pb, po + 1, none⟩ = some (.string nm0) := fun q => (q.old.cell (p := ⟨pb, po + 1, none⟩) (Nat.lt_of_lt_of_le hpl BY.out.size)).trans ((BY.out.cell (p := ⟨pb, po + 1, none⟩) hpl).trans K1.out)
            have g2 : ∀ q : Grown w6.heap.size w6, q.val.cell? ⟨pb, po + 2, none⟩ = some (.int .i64 n0) := fun q => (q.old.cell (p := ⟨pb, po + 2, none⟩) (Nat.lt_of_lt_of_le hpl BY.out.size)).trans ((BY.out.cell (p := ⟨pb, po + 2, none⟩) hpl).trans K2.out)
            have g3 : ∀ q : Grown w6.heap.size w6, q.val.cell? ⟨pb, po + 3, none⟩ = some (.int .i64 fk) := fun q => (q.old.cell (p := ⟨pb, po + 3, none⟩) (Nat.lt_of_lt_of_le hpl BY.out.size)).trans ((BY.out.cell (p := ⟨pb, po + 3, none⟩) hpl).trans K3.out)
            have g4 : ∀ q : Grown w6.heap.size w6, q.val.cell? ⟨pb, po + 4, none⟩ = some (.slice fa fn fc) := fun q => (q.old.cell (p := ⟨pb, po + 4, none⟩) (Nat.lt_of_lt_of_le hpl BY.out.size)).trans ((BY.out.cell (p := ⟨pb, po + 4, none⟩) hpl).trans K4.out)
            have g5 : ∀ q : Grown w6.heap.size w6, q.val.cell? ⟨pb, po + 5, none⟩ = some (.int .i64 tk) := fun q => (q.old.cell (p := ⟨pb, po + 5, none⟩) (Nat.lt_of_lt_of_le hpl BY.out.size)).trans ((BY.out.cell (p := ⟨pb, po + 5, none⟩) hpl).trans K5.out)
            have g6 : ∀ q : Grown w6.heap.size w6, q.val.cell? ⟨pb, po + 6, none⟩ = some (.slice ta tn tc) := fun q => (q.old.cell (p := ⟨pb, po + 6, none⟩) (Nat.lt_of_lt_of_le hpl BY.out.size)).trans ((BY.out.cell (p := ⟨pb, po + 6, none⟩) hpl).trans K6.out)
            have g7 : ∀ q : Grown w6.heap.size w6, q.val.cell? ⟨pb, po + 7, none⟩ = some (.slice a es.length cap) := fun q => (q.old.cell (p := ⟨pb, po + 7, none⟩) (Nat.lt_of_lt_of_le hpl BY.out.size)).trans ((BY.out.cell (p := ⟨pb, po + 7, none⟩) hpl).trans K7.out)
            have g8 : ∀ q : Grown w6.heap.size w6, q.val.cell? ⟨pb, po + 8, none⟩ = some (.slice a2 vs.length cap2) := fun q => (q.old.cell (p := ⟨pb, po + 8, none⟩) (Nat.lt_of_lt_of_le hpl BY.out.size)).trans ((BY.out.cell (p := ⟨pb, po + 8, none⟩) hpl).trans K8.out)
            have f0 : ∀ q : Grown w6.heap.size w6, q.val.cell? ⟨p9, 0, none⟩ = _ := fun q => (XY.out.grown q).2 0
            have f1 : ∀ q : Grown w6.heap.size w6, q.val.cell? ⟨p9, 1, none⟩ = _ := fun q => (XY.out.grown q).2 1
            have f2 : ∀ q : Grown w6.heap.size w6, q.val.cell? ⟨p9, 2, none⟩ = _ := fun q => (XY.out.grown q).2 2
            have f3 : ∀ q : Grown w6.heap.size w6, q.val.cell? ⟨p9, 3, none⟩ = _ := fun q => (XY.out.grown q).2 3
            have f4 : ∀ q : Grown w6.heap.size w6, q.val.cell? ⟨p9, 4, none⟩ = _ := fun q => (XY.out.grown q).2 4
            cases xf
            case false =>
              refine wp_region_grown w6.heap.size (by kernel_rfl) (by kernel_rfl) ?_
              repeat (go_big_quiet_step ((first | (go_at_call_of 133 (Value.bool bs); exact grown_of (Nat.le_refl _) (C5 _)) | (go_at_call_of 133 (Value.bool bt); exact grown_of (Nat.le_refl _) (C6 _)))))
              refine wpQuiet_nil ?_
              rintro w7 ⟨⟨wq, hq7⟩, rfl⟩
              clear g0 g1 g2 g3 g4 g5 g6 g7 g8 f0 f1 f2 f3 f4 C5 C6
              go_wp2_with fail
              go_ret
              exact ⟨by rw [HM.out]; rfl, BY.out.trans (hq7.mono BY.out.size)⟩
            case true =>
              refine wp_region_grown w6.heap.size (by kernel_rfl) (by kernel_rfl) ?_
              repeat (go_big_quiet_step ((first | (go_at_call_of 133 (Value.bool bs); exact grown_of (Nat.le_refl _) (C5 _)) | (go_at_call_of 133 (Value.bool bt); exact grown_of (Nat.le_refl _) (C6 _)))))
              refine wpQuiet_nil ?_
              rintro w7 ⟨⟨wq, hq7⟩, rfl⟩
              clear g0 g1 g2 g3 g4 g5 g6 g7 g8 f0 f1 f2 f3 f4 C5 C6
              go_wp2_with fail
              go_ret
              exact ⟨by rw [HM.out]; rfl, BY.out.trans (hq7.mono BY.out.size)⟩
        case false =>
          cases bv
          case true =>
            have hv : vs.length = 0 := by have h1 := of_decide_eq_true HBV.out.symm; have h2 := HLN.out; omega
            have hen0 := HEN.out
            rw [hv] at z8 hen0
            have HEN0 := Lib.hid hen0
            clear hv hen0
            go_wp2_with fail
            refine (implOwnNames d _ ns vs _ (HEN0.out.below BX.out) hlen2).mono ?_
            rintro e w6 ⟨rfl, hb6⟩
            have BY := Lib.hid (BX.out.trans (hb6.mono BX.out.size))
            have XY := Lib.hid (XX.out.below hb6)
            clear hb6 BX XX z8 y2
            rw [← HBO.out]
            cases bo
            case false =>
              go_wp2_with fail
              go_ret
              exact ⟨by rw [HM.out]; rfl, BY.out⟩
            case true =>
              have C5 : ∀ q : Grown w6.heap.size w6, Calls Tryd.prog 133 #[.bool bs, .agg #[.int .i64 fk, .slice fa fn fc]] q.val fun e w' => e = .returned (.bool (coTyFor bs fr)) ∧ Below q.val.heap.size q.val w' := fun q => implCoTyIf d _ _ fr _ (HFR.out.below (BY.out.trans (q.old.mono BY.out.size))) HFZ.out
              have C6 : ∀ q : Grown w6.heap.size w6, Calls Tryd.prog 133 #[.bool bt, .agg #[.int .i64 tk, .slice ta tn tc]] q.val fun e w' => e = .returned (.bool (coTyFor bt ty)) ∧ Below q.val.heap.size q.val w' := fun q => implCoTyIf d _ _ ty _ (HTY.out.below (BY.out.trans (q.old.mono BY.out.size))) HTZ.out
              obtain ⟨xf, hxf⟩ : ∃ x, x = coTyFor bs fr := ⟨_, rfl⟩
              rw [← hxf] at C5 HM
              obtain ⟨xt, hxt⟩ : ∃ x, x = coTyFor bt ty := ⟨_, rfl⟩
              rw [← hxt] at C6 HM
              clear hxf hxt
              go_wp2_with fail
              have g0 : ∀ q : Grown w6.heap.size w6, q.val.cell? ⟨pb, po, none⟩ = some (.int .i64 k) := fun q => (q.old.cell (p := ⟨pb, po, none⟩) (Nat.lt_of_lt_of_le hpl BY.out.size)).trans ((BY.out.cell (p := ⟨pb, po, none⟩) hpl).trans K0.out)
              have g1 : ∀ q : Grown w6.heap.size w6, q.val.cell? ⟨pb, po + 1, none⟩ = some (.string nm0) := fun q => (q.old.cell (p := ⟨pb, po + 1, none⟩) (Nat.lt_of_lt_of_le hpl BY.out.size)).trans ((BY.out.cell (p := ⟨pb, po + 1, none⟩) hpl).trans K1.out)
              have g2 : ∀ q : Grown w6.heap.size w6, q.val.cell? ⟨pb, po + 2, none⟩ = some (.int .i64 n0) := fun q => (q.old.cell (p := ⟨pb, po + 2, none⟩) (Nat.lt_of_lt_of_le hpl BY.out.size)).trans ((BY.out.cell (p := ⟨pb, po + 2, none⟩) hpl).trans K2.out)
              have g3 : ∀ q : Grown w6.heap.size w6, q.val.cell? ⟨pb, po + 3, none⟩ = some (.int .i64 fk) := fun q => (q.old.cell (p := ⟨pb, po + 3, none⟩) (Nat.lt_of_lt_of_le hpl BY.out.size)).trans ((BY.out.cell (p := ⟨pb, po + 3, none⟩) hpl).trans K3.out)
              have g4 : ∀ q : Grown w6.heap.size w6, q.val.cell? ⟨pb, po + 4, none⟩ = some (.slice fa fn fc) := fun q => (q.old.cell (p := ⟨pb, po + 4, none⟩) (Nat.lt_of_lt_of_le hpl BY.out.size)).trans ((BY.out.cell (p := ⟨pb, po + 4, none⟩) hpl).trans K4.out)
              have g5 : ∀ q : Grown w6.heap.size w6, q.val.cell? ⟨pb, po + 5, none⟩ = some (.int .i64 tk) := fun q => (q.old.cell (p := ⟨pb, po + 5, none⟩) (Nat.lt_of_lt_of_le hpl BY.out.size)).trans ((BY.out.cell (p := ⟨pb, po + 5, none⟩) hpl).trans K5.out)
              have g6 : ∀ q : Grown w6.heap.size w6, q.val.cell? ⟨pb, po + 6, none⟩ = some (.slice ta tn tc) := fun q => (q.old.cell (p := ⟨pb, po + 6, none⟩) (Nat.lt_of_lt_of_le hpl BY.out.size)).trans ((BY.out.cell (p := ⟨pb, po + 6, none⟩) hpl).trans K6.out)
              have g7 : ∀ q : Grown w6.heap.size w6, q.val.cell? ⟨pb, po + 7, none⟩ = some (.slice a es.length cap) := fun q => (q.old.cell (p := ⟨pb, po + 7, none⟩) (Nat.lt_of_lt_of_le hpl BY.out.size)).trans ((BY.out.cell (p := ⟨pb, po + 7, none⟩) hpl).trans K7.out)
              have g8 : ∀ q : Grown w6.heap.size w6, q.val.cell? ⟨pb, po + 8, none⟩ = some (.slice a2 vs.length cap2) := fun q => (q.old.cell (p := ⟨pb, po + 8, none⟩) (Nat.lt_of_lt_of_le hpl BY.out.size)).trans ((BY.out.cell (p := ⟨pb, po + 8, none⟩) hpl).trans K8.out)
              have f0 : ∀ q : Grown w6.heap.size w6, q.val.cell? ⟨p9, 0, none⟩ = _ := fun q => (XY.out.grown q).2 0
              have f1 : ∀ q : Grown w6.heap.size w6, q.val.cell? ⟨p9, 1, none⟩ = _ := fun q => (XY.out.grown q).2 1
              have f2 : ∀ q : Grown w6.heap.size w6, q.val.cell? ⟨p9, 2, none⟩ = _ := fun q => (XY.out.grown q).2 2
              have f3 : ∀ q : Grown w6.heap.size w6, q.val.cell? ⟨p9, 3, none⟩ = _ := fun q => (XY.out.grown q).2 3
              have f4 : ∀ q : Grown w6.heap.size w6, q.val.cell? ⟨p9, 4, none⟩ = _ := fun q => (XY.out.grown q).2 4
              cases xf
              case false =>
                refine wp_region_grown w6.heap.size (by kernel_rfl) (by kernel_rfl) ?_
                repeat (go_big_quiet_step ((first | (go_at_call_of 133 (Value.bool bs); exact grown_of (Nat.le_refl _) (C5 _)) | (go_at_call_of 133 (Value.bool bt); exact grown_of (Nat.le_refl _) (C6 _)))))
                refine wpQuiet_nil ?_
                rintro w7 ⟨⟨wq, hq7⟩, rfl⟩
                clear g0 g1 g2 g3 g4 g5 g6 g7 g8 f0 f1 f2 f3 f4 C5 C6
                go_wp2_with fail
                go_ret
                exact ⟨by rw [HM.out]; rfl, BY.out.trans (hq7.mono BY.out.size)⟩
              case true =>
                refine wp_region_grown w6.heap.size (by kernel_rfl) (by kernel_rfl) ?_
                repeat (go_big_quiet_step ((first | (go_at_call_of 133 (Value.bool bs); exact grown_of (Nat.le_refl _) (C5 _)) | (go_at_call_of 133 (Value.bool bt); exact grown_of (Nat.le_refl _) (C6 _)))))
                refine wpQuiet_nil ?_
                rintro w7 ⟨⟨wq, hq7⟩, rfl⟩
                clear g0 g1 g2 g3 g4 g5 g6 g7 g8 f0 f1 f2 f3 f4 C5 C6
                go_wp2_with fail
                go_ret
                exact ⟨by rw [HM.out]; rfl, BY.out.trans (hq7.mono BY.out.size)⟩
          case false =>
            have hp : 0 < vs.length := by have h1 := of_decide_eq_false HBV.out.symm; have h2 := HLN.out; omega
            go_wp2_with fail
            go_ret
            exact ⟨by rw [HM.out]; rfl, BX.out⟩
    case false =>
      have NZ : ¬ (nm0.size = 0) := of_decide_eq_false HBE.out.symm
      have e1 := toList_some (s := nm0) (by omega)
      cases bn
      case false =>
        refine wp_region_grown W.heap.size (by kernel_rfl) (by kernel_rfl) ?_
        repeat (go_big_quiet_step ((first | (go_at_call 131; exact grown_of (Nat.le_refl _) (C3 _)))))
        refine wpQuiet_nil ?_
        rintro w8 ⟨⟨wq, hq8⟩, rfl⟩
        go_wp2_with fail
        go_ret
        exact ⟨by rw [HM.out]; rfl, BW.out.trans (hq8.mono BW.out.size)⟩
      case true =>
        cases bm
        case false =>
          refine wp_region_grown W.heap.size (by kernel_rfl) (by kernel_rfl) ?_
          repeat (go_big_quiet_step ((first | (go_at_call 131; exact grown_of (Nat.le_refl _) (C3 _)))))
          refine wpQuiet_nil ?_
          rintro w8 ⟨⟨wq, hq8⟩, rfl⟩
          go_wp2_with fail
          go_ret
          exact ⟨by rw [HM.out]; rfl, BW.out.trans (hq8.mono BW.out.size)⟩
        case true =>
          refine wp_region_grown W.heap.size (by kernel_rfl) (by kernel_rfl) ?_
          repeat (go_big_quiet_step ((first | (go_at_call 131; exact grown_of (Nat.le_refl _) (C3 _)))))
          refine wpQuiet_nil ?_
          rintro w8 ⟨⟨wq, hq8⟩, rfl⟩
          have BX := Lib.hid (BW.out.trans (hq8.mono BW.out.size))
          have XX := Lib.hid (XF.out.below hq8)
          clear hq8 g0 g1 g2 g3 g4 g5 g6 g7 g8 f0 f1 f2 f3 f4 C3 BW XF
          have z8 := (BX.out.cell (p := ⟨pb, po + 8, none⟩) hpl).trans K8.out
          have y2 := XX.out.2 2
          cases bb
          case true =>
            go_wp2_with fail
            refine (implOwnNames d _ ns vs _ (HEN.out.below BX.out) hlen2).mono ?_
            rintro e w6 ⟨rfl, hb6⟩
            have BY := Lib.hid (BX.out.trans (hb6.mono BX.out.size))
            have XY := Lib.hid (XX.out.below hb6)
            clear hb6 BX XX z8 y2
            rw [← HBO.out]
            cases bo
            case false =>
              go_wp2_with fail
              go_ret
              exact ⟨by rw [HM.out]; rfl, BY.out⟩
            case true =>
              have C5 : ∀ q : Grown w6.heap.size w6, Calls Tryd.prog 133 #[.bool bs, .agg #[.int .i64 fk, .slice fa fn fc]] q.val fun e w' => e = .returned (.bool (coTyFor bs fr)) ∧ Below q.val.heap.size q.val w' := fun q => implCoTyIf d _ _ fr _ (HFR.out.below (BY.out.trans (q.old.mono BY.out.size))) HFZ.out
              have C6 : ∀ q : Grown w6.heap.size w6, Calls Tryd.prog 133 #[.bool bt, .agg #[.int .i64 tk, .slice ta tn tc]] q.val fun e w' => e = .returned (.bool (coTyFor bt ty)) ∧ Below q.val.heap.size q.val w' := fun q => implCoTyIf d _ _ ty _ (HTY.out.below (BY.out.trans (q.old.mono BY.out.size))) HTZ.out
              obtain ⟨xf, hxf⟩ : ∃ x, x = coTyFor bs fr := ⟨_, rfl⟩
              rw [← hxf] at C5 HM
              obtain ⟨xt, hxt⟩ : ∃ x, x = coTyFor bt ty := ⟨_, rfl⟩
              rw [← hxt] at C6 HM
              clear hxf hxt
              go_wp2_with fail
              have g0 : ∀ q : Grown w6.heap.size w6, q.val.cell? ⟨pb, po, none⟩ = some (.int .i64 k) := fun q => (q.old.cell (p := ⟨pb, po, none⟩) (Nat.lt_of_lt_of_le hpl BY.out.size)).trans ((BY.out.cell (p := ⟨pb, po, none⟩) hpl).trans K0.out)
              have g1 : ∀ q : Grown w6.heap.size w6, q.val.cell? ⟨pb, po + 1, none⟩ = some (.string nm0) := fun q => (q.old.cell (p := ⟨pb, po + 1, none⟩) (Nat.lt_of_lt_of_le hpl BY.out.size)).trans ((BY.out.cell (p := ⟨pb, po + 1, none⟩) hpl).trans K1.out)
              have g2 : ∀ q : Grown w6.heap.size w6, q.val.cell? ⟨pb, po + 2, none⟩ = some (.int .i64 n0) := fun q => (q.old.cell (p := ⟨pb, po + 2, none⟩) (Nat.lt_of_lt_of_le hpl BY.out.size)).trans ((BY.out.cell (p := ⟨pb, po + 2, none⟩) hpl).trans K2.out)
              have g3 : ∀ q : Grown w6.heap.size w6, q.val.cell? ⟨pb, po + 3, none⟩ = some (.int .i64 fk) := fun q => (q.old.cell (p := ⟨pb, po + 3, none⟩) (Nat.lt_of_lt_of_le hpl BY.out.size)).trans ((BY.out.cell (p := ⟨pb, po + 3, none⟩) hpl).trans K3.out)
              have g4 : ∀ q : Grown w6.heap.size w6, q.val.cell? ⟨pb, po + 4, none⟩ = some (.slice fa fn fc) := fun q => (q.old.cell (p := ⟨pb, po + 4, none⟩) (Nat.lt_of_lt_of_le hpl BY.out.size)).trans ((BY.out.cell (p := ⟨pb, po + 4, none⟩) hpl).trans K4.out)
              have g5 : ∀ q : Grown w6.heap.size w6, q.val.cell? ⟨pb, po + 5, none⟩ = some (.int .i64 tk) := fun q => (q.old.cell (p := ⟨pb, po + 5, none⟩) (Nat.lt_of_lt_of_le hpl BY.out.size)).trans ((BY.out.cell (p := ⟨pb, po + 5, none⟩) hpl).trans K5.out)
              have g6 : ∀ q : Grown w6.heap.size w6, q.val.cell? ⟨pb, po + 6, none⟩ = some (.slice ta tn tc) := fun q => (q.old.cell (p := ⟨pb, po + 6, none⟩) (Nat.lt_of_lt_of_le hpl BY.out.size)).trans ((BY.out.cell (p := ⟨pb, po + 6, none⟩) hpl).trans K6.out)
              have g7 : ∀ q : Grown w6.heap.size w6, q.val.cell? ⟨pb, po + 7, none⟩ = some (.slice a es.length cap) := fun q => (q.old.cell (p := ⟨pb, po + 7, none⟩) (Nat.lt_of_lt_of_le hpl BY.out.size)).trans ((BY.out.cell (p := ⟨pb, po + 7, none⟩) hpl).trans K7.out)
              have g8 : ∀ q : Grown w6.heap.size w6, q.val.cell? ⟨pb, po + 8, none⟩ = some (.slice a2 vs.length cap2) := fun q => (q.old.cell (p := ⟨pb, po + 8, none⟩) (Nat.lt_of_lt_of_le hpl BY.out.size)).trans ((BY.out.cell (p := ⟨pb, po + 8, none⟩) hpl).trans K8.out)
              have f0 : ∀ q : Grown w6.heap.size w6, q.val.cell? ⟨p9, 0, none⟩ = _ := fun q => (XY.out.grown q).2 0
              have f1 : ∀ q : Grown w6.heap.size w6, q.val.cell? ⟨p9, 1, none⟩ = _ := fun q => (XY.out.grown q).2 1
              have f2 : ∀ q : Grown w6.heap.size w6, q.val.cell? ⟨p9, 2, none⟩ = _ := fun q => (XY.out.grown q).2 2
              have f3 : ∀ q : Grown w6.heap.size w6, q.val.cell? ⟨p9, 3, none⟩ = _ := fun q => (XY.out.grown q).2 3
              have f4 : ∀ q : Grown w6.heap.size w6, q.val.cell? ⟨p9, 4, none⟩ = _ := fun q => (XY.out.grown q).2 4
              cases xf
              case false =>
                refine wp_region_grown w6.heap.size (by kernel_rfl) (by kernel_rfl) ?_
                repeat (go_big_quiet_step ((first | (go_at_call_of 133 (Value.bool bs); exact grown_of (Nat.le_refl _) (C5 _)) | (go_at_call_of 133 (Value.bool bt); exact grown_of (Nat.le_refl _) (C6 _)))))
                refine wpQuiet_nil ?_
                rintro w7 ⟨⟨wq, hq7⟩, rfl⟩
                clear g0 g1 g2 g3 g4 g5 g6 g7 g8 f0 f1 f2 f3 f4 C5 C6
                go_wp2_with fail
                go_ret
                exact ⟨by rw [HM.out]; rfl, BY.out.trans (hq7.mono BY.out.size)⟩
              case true =>
                refine wp_region_grown w6.heap.size (by kernel_rfl) (by kernel_rfl) ?_
                repeat (go_big_quiet_step ((first | (go_at_call_of 133 (Value.bool bs); exact grown_of (Nat.le_refl _) (C5 _)) | (go_at_call_of 133 (Value.bool bt); exact grown_of (Nat.le_refl _) (C6 _)))))
                refine wpQuiet_nil ?_
                rintro w7 ⟨⟨wq, hq7⟩, rfl⟩
                clear g0 g1 g2 g3 g4 g5 g6 g7 g8 f0 f1 f2 f3 f4 C5 C6
                go_wp2_with fail
                go_ret
                exact ⟨by rw [HM.out]; rfl, BY.out.trans (hq7.mono BY.out.size)⟩
          case false =>
            cases bv
            case true =>
              have hv : vs.length = 0 := by have h1 := of_decide_eq_true HBV.out.symm; have h2 := HLN.out; omega
              have hen0 := HEN.out
              rw [hv] at z8 hen0
              have HEN0 := Lib.hid hen0
              clear hv hen0
              go_wp2_with fail
              refine (implOwnNames d _ ns vs _ (HEN0.out.below BX.out) hlen2).mono ?_
              rintro e w6 ⟨rfl, hb6⟩
              have BY := Lib.hid (BX.out.trans (hb6.mono BX.out.size))
              have XY := Lib.hid (XX.out.below hb6)
              clear hb6 BX XX z8 y2
              rw [← HBO.out]
              cases bo
              case false =>
                go_wp2_with fail
                go_ret
                exact ⟨by rw [HM.out]; rfl, BY.out⟩
              case true =>
                have C5 : ∀ q : Grown w6.heap.size w6, Calls Tryd.prog 133 #[.bool bs, .agg #[.int .i64 fk, .slice fa fn fc]] q.val fun e w' => e = .returned (.bool (coTyFor bs fr)) ∧ Below q.val.heap.size q.val w' := fun q => implCoTyIf d _ _ fr _ (HFR.out.below (BY.out.trans (q.old.mono BY.out.size))) HFZ.out
                have C6 : ∀ q : Grown w6.heap.size w6, Calls Tryd.prog 133 #[.bool bt, .agg #[.int .i64 tk, .slice ta tn tc]] q.val fun e w' => e = .returned (.bool (coTyFor bt ty)) ∧ Below q.val.heap.size q.val w' := fun q => implCoTyIf d _ _ ty _ (HTY.out.below (BY.out.trans (q.old.mono BY.out.size))) HTZ.out
                obtain ⟨xf, hxf⟩ : ∃ x, x = coTyFor bs fr := ⟨_, rfl⟩
                rw [← hxf] at C5 HM
                obtain ⟨xt, hxt⟩ : ∃ x, x = coTyFor bt ty := ⟨_, rfl⟩
                rw [← hxt] at C6 HM
                clear hxf hxt
                go_wp2_with fail
                have g0 : ∀ q : Grown w6.heap.size w6, q.val.cell? ⟨pb, po, none⟩ = some (.int .i64 k) := fun q => (q.old.cell (p := ⟨pb, po, none⟩) (Nat.lt_of_lt_of_le hpl BY.out.size)).trans ((BY.out.cell (p := ⟨pb, po, none⟩) hpl).trans K0.out)
                have g1 : ∀ q : Grown w6.heap.size w6, q.val.cell? ⟨pb, po + 1, none⟩ = some (.string nm0) := fun q => (q.old.cell (p := ⟨pb, po + 1, none⟩) (Nat.lt_of_lt_of_le hpl BY.out.size)).trans ((BY.out.cell (p := ⟨pb, po + 1, none⟩) hpl).trans K1.out)
                have g2 : ∀ q : Grown w6.heap.size w6, q.val.cell? ⟨pb, po + 2, none⟩ = some (.int .i64 n0) := fun q => (q.old.cell (p := ⟨pb, po + 2, none⟩) (Nat.lt_of_lt_of_le hpl BY.out.size)).trans ((BY.out.cell (p := ⟨pb, po + 2, none⟩) hpl).trans K2.out)
                have g3 : ∀ q : Grown w6.heap.size w6, q.val.cell? ⟨pb, po + 3, none⟩ = some (.int .i64 fk) := fun q => (q.old.cell (p := ⟨pb, po + 3, none⟩) (Nat.lt_of_lt_of_le hpl BY.out.size)).trans ((BY.out.cell (p := ⟨pb, po + 3, none⟩) hpl).trans K3.out)
                have g4 : ∀ q : Grown w6.heap.size w6, q.val.cell? ⟨pb, po + 4, none⟩ = some (.slice fa fn fc) := fun q => (q.old.cell (p := ⟨pb, po + 4, none⟩) (Nat.lt_of_lt_of_le hpl BY.out.size)).trans ((BY.out.cell (p := ⟨pb, po + 4, none⟩) hpl).trans K4.out)
                have g5 : ∀ q : Grown w6.heap.size w6, q.val.cell? ⟨pb, po + 5, none⟩ = some (.int .i64 tk) := fun q => (q.old.cell (p := ⟨pb, po + 5, none⟩) (Nat.lt_of_lt_of_le hpl BY.out.size)).trans ((BY.out.cell (p := ⟨pb, po + 5, none⟩) hpl).trans K5.out)
                have g6 : ∀ q : Grown w6.heap.size w6, q.val.cell? ⟨pb, po + 6, none⟩ = some (.slice ta tn tc) := fun q => (q.old.cell (p := ⟨pb, po + 6, none⟩) (Nat.lt_of_lt_of_le hpl BY.out.size)).trans ((BY.out.cell (p := ⟨pb, po + 6, none⟩) hpl).trans K6.out)
                have g7 : ∀ q : Grown w6.heap.size w6, q.val.cell? ⟨pb, po + 7, none⟩ = some (.slice a es.length cap) := fun q => (q.old.cell (p := ⟨pb, po + 7, none⟩) (Nat.lt_of_lt_of_le hpl BY.out.size)).trans ((BY.out.cell (p := ⟨pb, po + 7, none⟩) hpl).trans K7.out)
                have g8 : ∀ q : Grown w6.heap.size w6, q.val.cell? ⟨pb, po + 8, none⟩ = some (.slice a2 vs.length cap2) := fun q => (q.old.cell (p := ⟨pb, po + 8, none⟩) (Nat.lt_of_lt_of_le hpl BY.out.size)).trans ((BY.out.cell (p := ⟨pb, po + 8, none⟩) hpl).trans K8.out)
                have f0 : ∀ q : Grown w6.heap.size w6, q.val.cell? ⟨p9, 0, none⟩ = _ := fun q => (XY.out.grown q).2 0
                have f1 : ∀ q : Grown w6.heap.size w6, q.val.cell? ⟨p9, 1, none⟩ = _ := fun q => (XY.out.grown q).2 1
                have f2 : ∀ q : Grown w6.heap.size w6, q.val.cell? ⟨p9, 2, none⟩ = _ := fun q => (XY.out.grown q).2 2
                have f3 : ∀ q : Grown w6.heap.size w6, q.val.cell? ⟨p9, 3, none⟩ = _ := fun q => (XY.out.grown q).2 3
                have f4 : ∀ q : Grown w6.heap.size w6, q.val.cell? ⟨p9, 4, none⟩ = _ := fun q => (XY.out.grown q).2 4
                cases xf
                case false =>
                  refine wp_region_grown w6.heap.size (by kernel_rfl) (by kernel_rfl) ?_
                  repeat (go_big_quiet_step ((first | (go_at_call_of 133 (Value.bool bs); exact grown_of (Nat.le_refl _) (C5 _)) | (go_at_call_of 133 (Value.bool bt); exact grown_of (Nat.le_refl _) (C6 _)))))
                  refine wpQuiet_nil ?_
                  rintro w7 ⟨⟨wq, hq7⟩, rfl⟩
                  clear g0 g1 g2 g3 g4 g5 g6 g7 g8 f0 f1 f2 f3 f4 C5 C6
                  go_wp2_with fail
                  go_ret
                  exact ⟨by rw [HM.out]; rfl, BY.out.trans (hq7.mono BY.out.size)⟩
                case true =>
                  refine wp_region_grown w6.heap.size (by kernel_rfl) (by kernel_rfl) ?_
                  repeat (go_big_quiet_step ((first | (go_at_call_of 133 (Value.bool bs); exact grown_of (Nat.le_refl _) (C5 _)) | (go_at_call_of 133 (Value.bool bt); exact grown_of (Nat.le_refl _) (C6 _)))))
                  refine wpQuiet_nil ?_
                  rintro w7 ⟨⟨wq, hq7⟩, rfl⟩
                  clear g0 g1 g2 g3 g4 g5 g6 g7 g8 f0 f1 f2 f3 f4 C5 C6
                  go_wp2_with fail
                  go_ret
                  exact ⟨by rw [HM.out]; rfl, BY.out.trans (hq7.mono BY.out.size)⟩
            case false =>
              have hp : 0 < vs.length := by have h1 := of_decide_eq_false HBV.out.symm; have h2 := HLN.out; omega
              go_wp2_with fail
              go_ret
              exact ⟨by rw [HM.out]; rfl, BX.out⟩
end Go.Proofs.YteeojgefnoaajaaDoor
/-
  Proved: impl.IsNote says whether a type's tree is a note; it leaves the memory that was there as it was.
-/
namespace Go.Proofs.YteeojgefnoaajaaDoor
open Go.RowKit

theorem within_note (t : Ty) : within t 15 5 = t.note := by
  have e1 : decide ((t.size : Int) ≤ 15) = decide (t.size ≤ 15) := decide_eq_decide.2 (by omega)
  have e2 : decide ((t.depth : Int) ≤ 5) = decide (t.depth ≤ 5) := decide_eq_decide.2 (by omega)
  unfold within Ty.note Ty.valid
  rw [e1, e2]
  by_cases h1 : t.size ≤ 15 <;> by_cases h2 : t.depth ≤ 5
  · have h3 : t.size ≤ 800 := by omega
    have h4 : t.depth ≤ 24 := by omega
    simp [h1, h2, h3, h4]
  · simp [h2]
  · simp [h1]
  · simp [h1]

set_option maxRecDepth 100000 in
set_option maxHeartbeats 1000000 in
theorem implNote (d : Nat) (v : Value) (t : Ty) (w : World) (h : TyAt w d v t) (hsz : t.size ≤ 1048577) :
    Calls Tryd.prog 188 #[v] w fun e w' => e = .returned (.bool t.note) ∧ Below w.heap.size w w' := by
  have HT := Lib.hid h
  obtain ⟨yk, ya, yn, yc, rfl⟩ := agg_parts h
  clear h
  have X : Hid (Below w.heap.size w ((w.alloc (.cells #[.int .i64 yk, .slice ya yn yc] 33)).alloc (.cells #[.int .i64 15] 3))) := ((Below.refl _ _).alloc (Nat.le_refl _) _).alloc (by simp) _
  go_enter Tryd.func188, Tryd.ntmps188
  go_wp2_with fail
  refine (implWithin w d _ t (w.heap.size + 1) 15 5 _ HT.out X.out (by omega) hsz (by simp) (by omega) (by omega) (by omega) (by omega) (by simp [go_sem]) (by simp [go_sem])).mono ?_
  intro e w' hend
  obtain ⟨r', rfl, hr, _⟩ := hend.room
  have HB := Lib.hid (X.out.trans (hr.2.2.1.mono (Nat.le_succ _)))
  clear hend hr
  go_wp2_with fail
  go_ret
  exact ⟨by rw [within_note]; rfl, HB.out⟩
end Go.Proofs.YteeojgefnoaajaaDoor
/-
  Proved: plain facts on ground types; the memory that was there stays as it was.
-/
namespace Go.Proofs.YteeojgefnoaajaaDoor
open Go.RowKit

/-- The ground type of a type's kind; the zero type for others. -/
def Ty.ground : Ty → Ty
  | .node k ts => if (Ty.node k ts).valid = true then (if k = 2 then .node 2 [] else if k = 3 then .node 3 [] else if k = 4 then .node 4 [.node 1 [], .node 1 []] else if k = 5 then .node 5 [.node 1 [], .node 1 []] else .node 0 []) else .node 0 []
theorem Ty.ground_size (t : Ty) : t.ground.size ≤ 3 := by
  cases t with
  | node k ts =>
    simp only [Ty.ground]
    (repeat' split) <;> decide
theorem own_zero (w : World) (d : Nat) (k : Int) (h0 : -9223372036854775808 ≤ k) (h1 : k ≤ 9223372036854775807) : TyOwn w (d + 1) (.agg #[.int .i64 k, .slice none 0 0]) (.node k []) [] :=
  ⟨_, rfl, h0, h1, none, 0, [], [], rfl, Nat.le_refl _, by omega, rfl, rfl, (fun b hb => by cases hb), fun j hj => by simp at hj⟩
end Go.Proofs.YteeojgefnoaajaaDoor
/-
  Proved: the table of arities reads as it is written while old memory stays.
-/
namespace Go.Proofs.YteeojgefnoaajaaDoor
open Go.RowKit

def TabAt (w : World) : Prop := Lib.TabIs Tryd.prog w "loop.example/g00585/impl.arities" .i64 arTab
theorem TabAt.below {w w' : World} (h : TabAt w) (hb : Below w.heap.size w w') : TabAt w' := Law.tab_below hb h
theorem implArityAt (n : Int) (w : World) (h : TabAt w) : Calls Tryd.prog 171 #[.int .i64 n] w fun e w' => e = .returned (.int .i64 (arity n)) ∧ Below w.heap.size w w' := implArity n w h
end Go.Proofs.YteeojgefnoaajaaDoor
/-
  Proved: impl.isNameFor, impl.isNumberFor, impl.isTypeFor and impl.isExprNode say whether the fields of a node belong to its kind; the memory that was there stays as it was.
-/
namespace Go.Proofs.YteeojgefnoaajaaDoor
open Go.RowKit

set_option maxRecDepth 100000 in
theorem implNameFor (k : Int) (nm : ByteArray) (w : World) (hs : nm.size ≤ 9223372036854775807) : Calls Tryd.prog 172 #[.int .i64 k, .string nm] w fun e w' => e = .returned (.bool (nameFor k nm)) ∧ Below w.heap.size w w' := by
  by_cases q2 : k = 2
  · subst q2
    go_enter Tryd.func172, Tryd.ntmps172
    go_wp2_with fail
    refine (implName nm _ hs).mono ?_
    rintro e w1 ⟨rfl, hb⟩
    go_wp2_with fail
    go_ret
    exact ⟨by simp [nameFor], hb⟩
  by_cases q3 : k = 3
  · subst q3
    go_enter Tryd.func172, Tryd.ntmps172
    go_wp2_with fail
    refine (implName nm _ hs).mono ?_
    rintro e w1 ⟨rfl, hb⟩
    go_wp2_with fail
    go_ret
    exact ⟨by simp [nameFor], hb⟩
  have z2 : (k == 2) = false := by simp [q2]
  have z3 : (k == 3) = false := by simp [q3]
  by_cases qz : nm.size = 0
  · have e1 := text_zero qz
    have HZ : Hid (nameFor k nm = true) := by show _ = _; simp [nameFor, q2, q3, qz]
    go_enter Tryd.func172, Tryd.ntmps172
    go_wp2_with fail
    go_ret
    exact ⟨by rw [HZ.out]; rfl, Below.refl _ _⟩
  · have e1 := toList_some (s := nm) (by omega)
    have HZ : Hid (nameFor k nm = false) := by show _ = _; simp [nameFor, q2, q3, qz]
    go_enter Tryd.func172, Tryd.ntmps172
    go_wp2_with fail
    go_ret
    exact ⟨by rw [HZ.out]; rfl, Below.refl _ _⟩
set_option maxRecDepth 100000 in
theorem implNumFor (k n : Int) (w : World) : Calls Tryd.prog 173 #[.int .i64 k, .int .i64 n] w fun e w' => e = .returned (.bool (numFor k n)) ∧ Below w.heap.size w w' := by
  by_cases q1 : k = 1
  · subst q1
    by_cases r1 : 1 ≤ n
    · by_cases r2 : n ≤ 99
      · go_enter Tryd.func173, Tryd.ntmps173
        go_wp2_with fail
        go_ret
        exact ⟨by first | (simp [numFor, *]; done) | (simp [numFor, *]; omega), Below.refl _ _⟩
      · go_enter Tryd.func173, Tryd.ntmps173
        go_wp2_with fail
        go_ret
        exact ⟨by first | (simp [numFor, *]; done) | (simp [numFor, *]; omega), Below.refl _ _⟩
    · go_enter Tryd.func173, Tryd.ntmps173
      go_wp2_with fail
      go_ret
      exact ⟨by first | (simp [numFor, *]; done) | (simp [numFor, *]; omega), Below.refl _ _⟩
  by_cases q14 : k = 14
  · subst q14
    by_cases r1 : 1 ≤ n
    · by_cases r2 : n ≤ 99
      · go_enter Tryd.func173, Tryd.ntmps173
        go_wp2_with fail
        go_ret
        exact ⟨by first | (simp [numFor, *]; done) | (simp [numFor, *]; omega), Below.refl _ _⟩
      · go_enter Tryd.func173, Tryd.ntmps173
        go_wp2_with fail
        go_ret
        exact ⟨by first | (simp [numFor, *]; done) | (simp [numFor, *]; omega), Below.refl _ _⟩
    · go_enter Tryd.func173, Tryd.ntmps173
      go_wp2_with fail
      go_ret
      exact ⟨by first | (simp [numFor, *]; done) | (simp [numFor, *]; omega), Below.refl _ _⟩
  by_cases q5 : k = 5
  · subst q5
    by_cases r1 : 0 ≤ n
    · by_cases r2 : n ≤ 999
      · go_enter Tryd.func173, Tryd.ntmps173
        go_wp2_with fail
        go_ret
        exact ⟨by first | (simp [numFor, *]; done) | (simp [numFor, *]; omega), Below.refl _ _⟩
      · go_enter Tryd.func173, Tryd.ntmps173
        go_wp2_with fail
        go_ret
        exact ⟨by first | (simp [numFor, *]; done) | (simp [numFor, *]; omega), Below.refl _ _⟩
    · go_enter Tryd.func173, Tryd.ntmps173
      go_wp2_with fail
      go_ret
      exact ⟨by first | (simp [numFor, *]; done) | (simp [numFor, *]; omega), Below.refl _ _⟩
  by_cases q8 : k = 8
  · subst q8
    by_cases r0 : n = 0
    · subst r0
      go_enter Tryd.func173, Tryd.ntmps173
      go_wp2_with fail
      go_ret
      exact ⟨by simp [numFor], Below.refl _ _⟩
    · have r0b : (n == 0) = false := by simp [r0]
      by_cases r1 : n = 1
      · subst r1
        go_enter Tryd.func173, Tryd.ntmps173
        go_wp2_with fail
        go_ret
        exact ⟨by simp [numFor], Below.refl _ _⟩
      · have r1b : (n == 1) = false := by simp [r1]
        go_enter Tryd.func173, Tryd.ntmps173
        go_wp2_with fail
        go_ret
        exact ⟨by simp [numFor]; omega, Below.refl _ _⟩
  by_cases r0 : n = 0
  · subst r0
    go_enter Tryd.func173, Tryd.ntmps173
    go_wp2_with fail
    go_ret
    exact ⟨by first | (simp [numFor, *]; done) | (simp [numFor, *]; omega), Below.refl _ _⟩
  · have r0b : (n == 0) = false := by simp [r0]
    go_enter Tryd.func173, Tryd.ntmps173
    go_wp2_with fail
    go_ret
    exact ⟨by first | (simp [numFor, *]; done) | (simp [numFor, *]; omega), Below.refl _ _⟩
set_option maxRecDepth 100000 in
theorem implTypeFor (d : Nat) (v : Value) (k : Int) (ty : Ty) (w : World) (h : TyAt w d v ty) (hsz : ty.size ≤ 1048577) : Calls Tryd.prog 174 #[.int .i64 k, v] w fun e w' => e = .returned (.bool (typeFor k ty)) ∧ Below w.heap.size w w' := by
  have HT := Lib.hid h
  obtain ⟨yk, ya, yn, yc, rfl⟩ := agg_parts h
  clear h
  have E0 := below_alloc w (.cells #[.int .i64 yk, .slice ya yn yc] 33)
  have HT0 := Lib.hid (HT.out.below E0)
  have HE := Lib.hid E0
  clear E0 HT
  by_cases q3 : k = 3
  · subst q3
    go_enter Tryd.func174, Tryd.ntmps174
    go_wp2_with fail
    refine (implNote d _ ty _ HT0.out hsz).mono ?_
    rintro e w1 ⟨rfl, hb⟩
    have HB := Lib.hid (below_thru HE.out (Nat.le_refl _) hb)
    clear hb
    go_wp2_with fail
    go_ret
    exact ⟨by simp [typeFor], HB.out⟩
  by_cases q13 : k = 13
  · subst q13
    go_enter Tryd.func174, Tryd.ntmps174
    go_wp2_with fail
    refine (implNote d _ ty _ HT0.out hsz).mono ?_
    rintro e w1 ⟨rfl, hb⟩
    have HB := Lib.hid (below_thru HE.out (Nat.le_refl _) hb)
    clear hb
    go_wp2_with fail
    go_ret
    exact ⟨by simp [typeFor], HB.out⟩
  have z3 : (k == 3) = false := by simp [q3]
  have z13 : (k == 13) = false := by simp [q13]
  have qf : typeFor k ty = ty.beq (.node 0 []) := by first | (simp [typeFor, *]; done) | (simp [typeFor, *]; omega)
  cases d with
  | zero => exact HT0.out.elim
  | succ d =>
  go_enter Tryd.func174, Tryd.ntmps174
  go_wp2_with fail
  refine (implEqual (d + 1) _ _ ty (.node 0 []) _ HT0.out (own_zero _ d 0 (by omega) (by omega)).at_).mono ?_
  rintro e w1 ⟨rfl, hb⟩
  have HB := Lib.hid (below_thru HE.out (Nat.le_refl _) hb)
  clear hb
  go_wp2_with fail
  go_ret
  exact ⟨by rw [qf]; rfl, HB.out⟩
end Go.Proofs.YteeojgefnoaajaaDoor
/-
  Proved: impl.isExprNode says whether the fields and the number of parts of a node belong to its kind; the memory that was there stays as it was.
-/
namespace Go.Proofs.YteeojgefnoaajaaDoor
open Go.RowKit

set_option maxRecDepth 100000 in
set_option maxHeartbeats 1000000 in
theorem implFits (d : Nat) (v : Value) (kd : Int) (nm : ByteArray) (n : Int) (ty : Ty) (es : List Ex) (w : World) (h : ExAt w (d + 1) v (.node kd nm n ty es)) (hsz : (Ex.node kd nm n ty es).bulk ≤ 1048576) (htab : TabAt w) :
    Calls Tryd.prog 148 #[v] w fun e w' => e = .returned (.bool (fitsB kd nm n ty es.length)) ∧ Below w.heap.size w w' := by
  have HV := ex_parts h
  obtain ⟨c3, c4, sl, rfl, hk0, hk1, hn0, hn1, hnm, hty, a, cap, rfl, hcap, hcap2, hat⟩ := h
  obtain ⟨k', nm', n', tk, ta, tn, tc, sa, sn, sc, hv⟩ := HV
  injection hv with hv
  injection hv with hv
  simp at hv
  obtain ⟨rfl, rfl, rfl, rfl, rfl, rfl, rfl, rfl⟩ := hv
  have HAT := Lib.hid hat; clear hat
  have hbk : (Ex.node kd nm n ty es).bulk = nm.size + (ty.size - 1) + Ex.bulks es := rfl
  have HSZ : Hid (Ex.bulks es ≤ 1048576) := by show _ ≤ _; omega
  have HNM : Hid (nm.size ≤ 1048576) := by show _ ≤ _; omega
  have HTZ : Hid (ty.size ≤ 1048577) := by show _ ≤ _; omega
  have hlen : es.length ≤ 1048576 := by have := Ex.length_le es; omega
  have HTY := Lib.hid hty
  clear hsz hbk hty
  clear HAT HSZ
  have HNS : Hid (nm.size ≤ 9223372036854775807) := by have := HNM.out; show _ ≤ _; omega
  obtain ⟨W, hW⟩ : ∃ W, W = w.alloc (.cells #[.int .i64 kd, .string nm, .int .i64 n, .int .i64 tk, .slice ta tn tc, .slice a es.length cap] 50) := ⟨_, rfl⟩
  have B : Hid (Below w.heap.size w W) := by rw [hW]; exact below_alloc _ _
  have HTYb := Lib.hid (HTY.out.below B.out)
  have HTAB := Lib.hid (htab.below B.out)
  clear HTY htab
  have XA : Hid (BoxAt W w.heap.size #[.int .i64 kd, .string nm, .int .i64 n, .int .i64 tk, .slice ta tn tc, .slice a es.length cap]) := by rw [hW]; exact BoxAt.new _ _ _
  have C1 : ∀ q : Grown W.heap.size W, Calls Tryd.prog 171 #[.int .i64 kd] q.val fun e w' => e = .returned (.int .i64 (arity kd)) ∧ Below q.val.heap.size q.val w' := fun q => implArityAt _ _ (HTAB.out.below q.old)
  have C2 : ∀ q : Grown W.heap.size W, Calls Tryd.prog 172 #[.int .i64 kd, .string nm] q.val fun e w' => e = .returned (.bool (nameFor kd nm)) ∧ Below q.val.heap.size q.val w' := fun q => implNameFor _ _ _ HNS.out
  have C3 : ∀ q : Grown W.heap.size W, Calls Tryd.prog 173 #[.int .i64 kd, .int .i64 n] q.val fun e w' => e = .returned (.bool (numFor kd n)) ∧ Below q.val.heap.size q.val w' := fun q => implNumFor _ _ _
  have C4 : ∀ q : Grown W.heap.size W, Calls Tryd.prog 174 #[.int .i64 kd, .agg #[.int .i64 tk, .slice ta tn tc]] q.val fun e w' => e = .returned (.bool (typeFor kd ty)) ∧ Below q.val.heap.size q.val w' := fun q => implTypeFor d _ _ ty _ (HTYb.out.below q.old) HTZ.out
  have hfit : fitsB kd nm n ty es.length = (decide ((es.length : Int) = arity kd) && (nameFor kd nm && (numFor kd n && typeFor kd ty))) := rfl
  generalize fitsB kd nm n ty es.length = m at hfit ⊢
  generalize arity kd = r at hfit C1
  generalize nameFor kd nm = bn at hfit C2
  generalize numFor kd n = bu at hfit C3
  generalize typeFor kd ty = bt at hfit C4
  have HM := Lib.hid hfit
  clear hfit
  go_enter Tryd.func148, Tryd.ntmps148
  go_wp2_with fail
  rw [← hW]
  clear hW
  have a0 : ∀ q : Grown W.heap.size W, q.val.cell? ⟨w.heap.size, 0, none⟩ = _ := fun q => (XA.out.grown q).2 0
  have a1 : ∀ q : Grown W.heap.size W, q.val.cell? ⟨w.heap.size, 1, none⟩ = _ := fun q => (XA.out.grown q).2 1
  have a2 : ∀ q : Grown W.heap.size W, q.val.cell? ⟨w.heap.size, 2, none⟩ = _ := fun q => (XA.out.grown q).2 2
  have a3 : ∀ q : Grown W.heap.size W, q.val.cell? ⟨w.heap.size, 3, none⟩ = _ := fun q => (XA.out.grown q).2 3
  have a4 : ∀ q : Grown W.heap.size W, q.val.cell? ⟨w.heap.size, 4, none⟩ = _ := fun q => (XA.out.grown q).2 4
  have a5 : ∀ q : Grown W.heap.size W, q.val.cell? ⟨w.heap.size, 5, none⟩ = _ := fun q => (XA.out.grown q).2 5
  clear XA HTYb HTAB
  by_cases qa : (es.length : Int) = r
  case neg =>
    have qb : ((es.length : Int) == r) = false := by simp [qa]
    refine wp_region_grown W.heap.size (by kernel_rfl) (by kernel_rfl) ?_
    repeat (go_big_quiet_step ((first | (go_at_call 171; exact grown_of (Nat.le_refl _) (C1 _)) | (go_at_call 172; exact grown_of (Nat.le_refl _) (C2 _)) | (go_at_call 173; exact grown_of (Nat.le_refl _) (C3 _)) | (go_at_call 174; exact grown_of (Nat.le_refl _) (C4 _)))))
    refine wpQuiet_nil ?_
    rintro _ ⟨⟨wq, hq⟩, rfl⟩
    go_wp2_with fail
    go_ret
    exact ⟨by rw [HM.out]; simp [*], below_thru B.out (Nat.le_of_eq rfl) hq⟩
  have qb : ((es.length : Int) == r) = true := by simp [qa]
  cases bn
  case false =>
    refine wp_region_grown W.heap.size (by kernel_rfl) (by kernel_rfl) ?_
    repeat (go_big_quiet_step ((first | (go_at_call 171; exact grown_of (Nat.le_refl _) (C1 _)) | (go_at_call 172; exact grown_of (Nat.le_refl _) (C2 _)) | (go_at_call 173; exact grown_of (Nat.le_refl _) (C3 _)) | (go_at_call 174; exact grown_of (Nat.le_refl _) (C4 _)))))
    refine wpQuiet_nil ?_
    rintro _ ⟨⟨wq, hq⟩, rfl⟩
    go_wp2_with fail
    go_ret
    exact ⟨by rw [HM.out]; simp [*], below_thru B.out (Nat.le_of_eq rfl) hq⟩
  cases bu
  case false =>
    refine wp_region_grown W.heap.size (by kernel_rfl) (by kernel_rfl) ?_
    repeat (go_big_quiet_step ((first | (go_at_call 171; exact grown_of (Nat.le_refl _) (C1 _)) | (go_at_call 172; exact grown_of (Nat.le_refl _) (C2 _)) | (go_at_call 173; exact grown_of (Nat.le_refl _) (C3 _)) | (go_at_call 174; exact grown_of (Nat.le_refl _) (C4 _)))))
    refine wpQuiet_nil ?_
    rintro _ ⟨⟨wq, hq⟩, rfl⟩
    go_wp2_with fail
    go_ret
    exact ⟨by rw [HM.out]; simp [*], below_thru B.out (Nat.le_of_eq rfl) hq⟩
  refine wp_region_grown W.heap.size (by kernel_rfl) (by kernel_rfl) ?_
  repeat (go_big_quiet_step ((first | (go_at_call 171; exact grown_of (Nat.le_refl _) (C1 _)) | (go_at_call 172; exact grown_of (Nat.le_refl _) (C2 _)) | (go_at_call 173; exact grown_of (Nat.le_refl _) (C3 _)) | (go_at_call 174; exact grown_of (Nat.le_refl _) (C4 _)))))
  refine wpQuiet_nil ?_
  rintro _ ⟨⟨wq, hq⟩, rfl⟩
  go_wp2_with fail
  go_ret
  exact ⟨by rw [HM.out]; simp [*], below_thru B.out (Nat.le_of_eq rfl) hq⟩
end Go.Proofs.YteeojgefnoaajaaDoor
/-
  Proved: impl.exprWithin says whether an expression's tree is of the right form and fits into the room and the depth that are left; it counts the room down, and touches nothing else.
-/
namespace Go.Proofs.YteeojgefnoaajaaDoor
open Go.RowKit

def xwithin (t : Ex) (r dp : Int) : Bool := decide ((t.count : Int) ≤ r) && (decide ((t.high : Int) ≤ dp) && t.form)
def XEnd (p : Nat) (r dp : Int) (t : Ex) (w : World) (e : Ending) (w' : World) : Prop :=
  ∃ r' : Int, e = .returned (.bool (xwithin t r dp)) ∧ Room p r' w w' ∧ (xwithin t r dp = true → r' = r - t.count)
theorem XEnd.of {p : Nat} {r dp r' : Int} {t : Ex} {w w' : World} {b : Bool} (hb : xwithin t r dp = b) (hr : Room p r' w w') (h : b = true → r' = r - t.count) : XEnd p r dp t w (.returned (.bool b)) w' := by
  subst hb; exact ⟨r', rfl, hr, h⟩
theorem xwithin_form {t : Ex} {r dp : Int} (h : t.form = false) : xwithin t r dp = false := by simp [xwithin, h]
theorem xwithin_true {t : Ex} {r dp : Int} (h : xwithin t r dp = true) : (t.count : Int) ≤ r ∧ (t.high : Int) ≤ dp ∧ t.form = true := by
  simp only [xwithin, Bool.and_eq_true, decide_eq_true_eq] at h
  exact h
theorem xwithin_mk {t : Ex} {r dp : Int} (h1 : (t.count : Int) ≤ r) (h2 : (t.high : Int) ≤ dp) (h3 : t.form = true) : xwithin t r dp = true := by
  simp only [xwithin, Bool.and_eq_true, decide_eq_true_eq]
  exact ⟨h1, h2, h3⟩
theorem xwithin_mark {nm : ByteArray} {n : Int} {ty : Ty} {x : Ex} {r dp : Int} (hf : fitsB 14 nm n ty 1 = true) (hk : x.kind ≠ 14) : xwithin (.node 14 nm n ty [x]) r dp = xwithin x r dp := by
  have e1 : (Ex.node 14 nm n ty [x]).count = x.count := by simp [Ex.count, Ex.counts]
  have e2 : (Ex.node 14 nm n ty [x]).high = x.high := by simp [Ex.high, Ex.highs]
  have e3 : (Ex.node 14 nm n ty [x]).form = x.form := by simp [Ex.form, Ex.forms, bareB, hk, hf]
  unfold xwithin; rw [e1, e2, e3]
theorem xwithin_sub {kd : Int} {nm : ByteArray} {n : Int} {ty : Ty} {es : List Ex} {r dp r2 : Int} {k : Nat} (hk : kd ≠ 14) (h : k < es.length) (hr : r2 = r - 1 - Ex.counts (es.take k)) (hf : xwithin es[k] r2 (dp - 1) = false) : xwithin (.node kd nm n ty es) r dp = false := by
  cases hw : xwithin (.node kd nm n ty es) r dp with
  | false => rfl
  | true =>
    obtain ⟨w1, w2, w3⟩ := xwithin_true hw
    simp only [Ex.count, Ex.high, Ex.form, if_neg hk, Bool.and_eq_true] at w1 w2 w3
    have h1 := Ex.counts_take es k h
    have h2 := Ex.counts_le_all es (k + 1)
    have h3 := Ex.highs_get es k h
    have h4 := Ex.forms_get es k h w3.1
    have : xwithin es[k] r2 (dp - 1) = true := xwithin_mk (by omega) (by omega) h4
    rw [this] at hf; cases hf
theorem room_start {p : Nat} {r : Int} {w w2 : World} (hp : p < w.heap.size) (hb : Below w.heap.size w w2) (e0 : w.cell? ⟨p, 0, none⟩ = some (.int .i64 r)) (e1 : w.frozen? ⟨p, 0, none⟩ = false) : Room p r w w2 :=
  ⟨(hb.cell (p := ⟨p, 0, none⟩) hp).trans e0, (hb.frozen (p := ⟨p, 0, none⟩) hp).trans e1, hb.mono (Nat.le_of_lt hp), fun b h _ => hb.block b h⟩
set_option maxRecDepth 100000 in
set_option maxHeartbeats 4000000 in
theorem implExWithin (w0 : World) (htab : TabAt w0) : ∀ (d : Nat) (v : Value) (t : Ex) (p : Nat) (r dp : Int) (w : World), ExAt w0 d v t → Below w0.heap.size w0 w → w0.heap.size ≤ p → t.bulk ≤ 1048576 → p < w.heap.size → 0 ≤ r → r ≤ 1048576 → 0 ≤ dp → dp ≤ 100 → w.cell? ⟨p, 0, none⟩ = some (.int .i64 r) → w.frozen? ⟨p, 0, none⟩ = false → Calls Tryd.prog 113 #[v, .pointer (some ⟨p, 0, none⟩), .int .i64 dp] w (XEnd p r dp t w)
  | 0, _, _, _, _, _, _, h, _, _, _, _, _, _, _, _, _, _ => h.elim
  | d + 1, v, .node kd nm n ty es, p, r, dp, w, h, hw0, hp0, hsz, hp, hr0, hr1, hd0, hd1, hcell, hfroz => by
    have IH : Hid (∀ (v : Value) (t : Ex) (p : Nat) (r dp : Int) (w : World), ExAt w0 d v t → Below w0.heap.size w0 w → w0.heap.size ≤ p → t.bulk ≤ 1048576 → p < w.heap.size → 0 ≤ r → r ≤ 1048576 → 0 ≤ dp → dp ≤ 100 → w.cell? ⟨p, 0, none⟩ = some (.int .i64 r) → w.frozen? ⟨p, 0, none⟩ = false → Calls Tryd.prog 113 #[v, .pointer (some ⟨p, 0, none⟩), .int .i64 dp] w (XEnd p r dp t w)) := implExWithin w0 htab d
    have HWH := Lib.hid h
    have HBK := Lib.hid hsz
    have HV := ex_parts h
    obtain ⟨c3, c4, sl, rfl, hk0, hk1, hn0, hn1, hnm, hty, a, cap, rfl, hcap, hcap2, hat⟩ := h
    obtain ⟨k', nm', n', tk, ta, tn, tc, sa, sn, sc, hv⟩ := HV
    injection hv with hv
    injection hv with hv
    simp at hv
    obtain ⟨rfl, rfl, rfl, rfl, rfl, rfl, rfl, rfl⟩ := hv
    have HAT := Lib.hid hat; clear hat
    have hbk : (Ex.node kd nm n ty es).bulk = nm.size + (ty.size - 1) + Ex.bulks es := rfl
    have HSZ : Hid (Ex.bulks es ≤ 1048576) := by show _ ≤ _; omega
    have HNM : Hid (nm.size ≤ 1048576) := by show _ ≤ _; omega
    have HTZ : Hid (ty.size ≤ 1048577) := by show _ ≤ _; omega
    have hlen : es.length ≤ 1048576 := by have := Ex.length_le es; omega
    clear hsz hbk hty
    have HW0 := Lib.hid hw0; clear hw0
    have HTB := Lib.hid (htab.below (HW0.out.alloc HW0.out.size (.cells #[.int .i64 kd, .string nm, .int .i64 n, .int .i64 tk, .slice ta tn tc, .slice a es.length cap] 50)))
    have HWX := Lib.hid (HWH.out.below (HW0.out.alloc HW0.out.size (.cells #[.int .i64 kd, .string nm, .int .i64 n, .int .i64 tk, .slice ta tn tc, .slice a es.length cap] 50)))
    have HC0 := Lib.hid hcell; have HC1 := Lib.hid hfroz
    clear hcell hfroz
    go_enter Tryd.func113, Tryd.ntmps113
    go_wp2_with fail
    refine (implFits d _ kd nm n ty es _ HWX.out HBK.out HTB.out).mono ?_
    rintro e w2 ⟨rfl, hb2⟩
    have B2 := Lib.hid (below_on (below_alloc w _) hb2 (by simp))
    have XA := Lib.hid ((BoxAt.new w #[.int .i64 kd, .string nm, .int .i64 n, .int .i64 tk, .slice ta tn tc, .slice a es.length cap] 50).below hb2)
    have R2 := Lib.hid (room_start hp B2.out HC0.out HC1.out)
    clear hb2 HWX HTB
    obtain ⟨hz2, e0, e1⟩ : w.heap.size ≤ w2.heap.size ∧ w2.cell? ⟨p, 0, none⟩ = some (.int .i64 r) ∧ w2.frozen? ⟨p, 0, none⟩ = false := ⟨B2.out.size, R2.out.1, R2.out.2.1⟩
    have b0 := XA.out.2 0
    have b1 := XA.out.2 1
    have b2 := XA.out.2 2
    have b3 := XA.out.2 3
    have b4 := XA.out.2 4
    have b5 := XA.out.2 5
    cases hfit : fitsB kd nm n ty es.length with
    | false =>
      have HNO := Lib.hid (xwithin_form (r := r) (dp := dp) (show (Ex.node kd nm n ty es).form = false by simp [Ex.form, hfit]))
      clear hfit
      go_wp2_with fail
      go_ret
      exact XEnd.of HNO.out R2.out (fun h => by cases h)
    | true =>
      have HFIT := Lib.hid hfit; clear hfit
      by_cases q : kd = 14
      · subst q
        have hl : es.length = 1 := by
          have h := HFIT.out
          simp only [fitsB, Bool.and_eq_true, decide_eq_true_eq] at h
          have h1 : (es.length : Int) = 1 := h.1
          omega
        obtain ⟨b, off, x0, x1, x2, x3, x4, x5, rfl, hbl, hc0, hc1, hc2, hc3, hc4, hc5, ht⟩ := HAT.out 0 (by omega)
        have hg := Ex.bulk_get es 0 (by omega)
        have HS2 := HSZ.out
        obtain ⟨yk, ynm, yn, ytk, yta, ytn, ytc, ya, ym, yc, rfl, rfl, rfl, rfl, rfl, rfl⟩ := ex_cells ht
        simp only [Nat.zero_mul, Nat.add_zero] at hc0 hc1 hc2 hc3 hc4 hc5
        have a0 : w2.cell? ⟨b, off, none⟩ = some (.int .i64 yk) := by rw [((HW0.out.trans (B2.out.mono HW0.out.size)).cell (p := ⟨b, off, none⟩) hbl)]; exact hc0
        have a1 : w2.cell? ⟨b, off + 1, none⟩ = some (.string ynm) := by rw [((HW0.out.trans (B2.out.mono HW0.out.size)).cell (p := ⟨b, off + 1, none⟩) hbl)]; exact hc1
        have a2 : w2.cell? ⟨b, off + 2, none⟩ = some (.int .i64 yn) := by rw [((HW0.out.trans (B2.out.mono HW0.out.size)).cell (p := ⟨b, off + 2, none⟩) hbl)]; exact hc2
        have a3 : w2.cell? ⟨b, off + 3, none⟩ = some (.int .i64 ytk) := by rw [((HW0.out.trans (B2.out.mono HW0.out.size)).cell (p := ⟨b, off + 3, none⟩) hbl)]; exact hc3
        have a4 : w2.cell? ⟨b, off + 4, none⟩ = some (.slice yta ytn ytc) := by rw [((HW0.out.trans (B2.out.mono HW0.out.size)).cell (p := ⟨b, off + 4, none⟩) hbl)]; exact hc4
        have a5 : w2.cell? ⟨b, off + 5, none⟩ = some (.slice ya ym yc) := by rw [((HW0.out.trans (B2.out.mono HW0.out.size)).cell (p := ⟨b, off + 5, none⟩) hbl)]; exact hc5
        obtain ⟨x, hx⟩ := List.length_eq_one_iff.1 hl
        have hx0 : es[0] = x := by subst hx; rfl
        have hkind : x.kind = yk := by rw [← hx0]; exact ex_kind ht
        have hgx : 1 + x.bulk ≤ Ex.bulks es := by rw [← hx0]; exact hg
        have HT : Hid (ExAt w0 d (.agg #[.int .i64 yk, .string ynm, .int .i64 yn, .int .i64 ytk, .slice yta ytn ytc, .slice ya ym yc]) x) := by show ExAt _ _ _ _; rw [← hx0]; exact ht
        have HX := Lib.hid hx
        have HL := Lib.hid hl
        have hpos : 0 < es.length := by omega
        have HKIND := Lib.hid hkind
        clear hc0 hc1 hc2 hc3 hc4 hc5 ht hx hx0 hg hl hkind
        by_cases q2 : yk = 14
        · subst q2
          have HNO := Lib.hid (xwithin_form (r := r) (dp := dp) (show (Ex.node 14 nm n ty es).form = false by rw [HX.out]; have h := HKIND.out; simp [Ex.form, bareB, h]))
          go_wp2_with fail
          go_ret
          exact XEnd.of HNO.out R2.out (fun h => by cases h)
        · have q2b : (yk == 14) = false := by simp [q2]
          have q2c : (yk != 14) = true := by simp [q2]
          have HEQ := Lib.hid (show xwithin (.node 14 nm n ty es) r dp = xwithin x r dp by rw [HX.out]; exact xwithin_mark (by have := HFIT.out; rw [HL.out] at this; exact this) (by rw [HKIND.out]; exact q2))
          have HCT : Hid ((Ex.node 14 nm n ty es).count = x.count) := by show _ = _; rw [HX.out]; simp [Ex.count, Ex.counts]
          have HB20 := Lib.hid (HW0.out.trans (B2.out.mono HW0.out.size))
          go_wp2_with fail
          refine (IH.out _ x p r dp w2 HT.out HB20.out hp0 (by omega) (by omega) hr0 hr1 hd0 hd1 e0 e1).mono ?_
          rintro e w3 ⟨r3, rfl, hR3, h3⟩
          have HR3 := Lib.hid (R2.out.on hR3)
          have H3 := Lib.hid h3
          clear hR3 h3
          go_wp2_with fail
          go_ret
          exact XEnd.of HEQ.out HR3.out (fun h => by rw [HCT.out]; exact H3.out h)
      · have qb0 : (kd == 14) = false := by simp [q]
        have HFIN : Hid ((Ex.node kd nm n ty es).count = 1 + Ex.counts es) := by show _ = _; simp [Ex.count, q]
        have HHI : Hid ((Ex.node kd nm n ty es).high = Ex.highs es + 1) := by show _ = _; simp [Ex.high, q]
        have R3 := Lib.hid (Room.stored (r := r - 1) hp B2.out e0 e1)
        have hpw : ¬ (p = w.heap.size) := by omega
        have EARLY : Hid (r < 1 ∨ dp = 0 → xwithin (.node kd nm n ty es) r dp = false) := fun h => by
          cases hw : xwithin (.node kd nm n ty es) r dp with
          | false => rfl
          | true =>
            obtain ⟨w1, w2, w3⟩ := xwithin_true hw
            rw [HFIN.out] at w1
            rw [HHI.out] at w2
            omega
        by_cases hr : r < 1
        · go_wp2_with fail
          go_ret
          exact XEnd.of (EARLY.out (Or.inl hr)) R3.out (fun h => by cases h)
        by_cases hd : dp = 0
        · have hdb : (dp == 0) = true := by simp [hd]
          go_wp2_with fail
          go_ret
          exact XEnd.of (EARLY.out (Or.inr hd)) R3.out (fun h => by cases h)
        have hdb : (dp == 0) = false := by simp [hd]
        clear EARLY
        have HXA3 := Lib.hid (XA.out.stored (q := p) (j := 0) (u := .int .i64 (r - 1)) (fun h => hpw h.symm))
        have HZ3 : Hid (w2.heap.size ≤ (w2.setCell ⟨p, 0, none⟩ (.int .i64 (r - 1))).heap.size) := by show _ ≤ _; simp
        go_wp2_with fail
        go_loopw [46] (fun i wr => ∃ k : Nat, k ≤ es.length ∧ i = .int .i64 k ∧ 0 ≤ r - 1 - (Ex.counts (es.take k) : Int) ∧ (Ex.highs (es.take k) : Int) ≤ dp - 1 ∧ Ex.forms (es.take k) = true ∧ Room p (r - 1 - Ex.counts (es.take k)) w wr ∧ BoxAt wr w.heap.size #[.int .i64 kd, .string nm, .int .i64 n, .int .i64 tk, .slice ta tn tc, .slice a es.length cap]) (fun i _ => es.length - (intOf i).toNat)
        case atStart => exact ⟨0, by omega, rfl, by simp [Ex.counts]; omega, by simp [Ex.highs]; omega, by simp [Ex.forms], by simpa [Ex.counts] using R3.out, HXA3.out⟩
        case round =>
          obtain ⟨k, hk, rfl, hs, hds, hf, hroom, hbx⟩ := hrel
          have b0 := hbx.2 0
          have b1 := hbx.2 1
          have b2 := hbx.2 2
          have b3 := hbx.2 3
          have b4 := hbx.2 4
          have b5 := hbx.2 5
          have HS := Lib.hid hs
          have HD := Lib.hid hds
          have HF := Lib.hid hf
          have HR := Lib.hid hroom
          have HX := Lib.hid hbx
          clear hs hds hf hroom hbx
          by_cases hlt : k < es.length
          · obtain ⟨b, off, x0, x1, x2, x3, x4, x5, rfl, hbl, hc0, hc1, hc2, hc3, hc4, hc5, ht⟩ := HAT.out k hlt
            have hg := Ex.bulk_get es k hlt
            have HS2 := HSZ.out
            obtain ⟨yk, ynm, yn, ytk, yta, ytn, ytc, ya, ym, yc, rfl, rfl, rfl, rfl, rfl, rfl⟩ := ex_cells ht
            have HB0r : Hid (Below w0.heap.size w0 wr) := HW0.out.trans (HR.out.2.2.1.mono hp0)
            have g0 : wr.cell? ⟨b, off + k * 6, none⟩ = some (.int .i64 yk) := by rw [HB0r.out.cell (p := ⟨b, off + k * 6, none⟩) hbl]; exact hc0
            have g1 : wr.cell? ⟨b, off + k * 6 + 1, none⟩ = some (.string ynm) := by rw [HB0r.out.cell (p := ⟨b, off + k * 6 + 1, none⟩) hbl]; exact hc1
            have g2 : wr.cell? ⟨b, off + k * 6 + 2, none⟩ = some (.int .i64 yn) := by rw [HB0r.out.cell (p := ⟨b, off + k * 6 + 2, none⟩) hbl]; exact hc2
            have g3 : wr.cell? ⟨b, off + k * 6 + 3, none⟩ = some (.int .i64 ytk) := by rw [HB0r.out.cell (p := ⟨b, off + k * 6 + 3, none⟩) hbl]; exact hc3
            have g4 : wr.cell? ⟨b, off + k * 6 + 4, none⟩ = some (.slice yta ytn ytc) := by rw [HB0r.out.cell (p := ⟨b, off + k * 6 + 4, none⟩) hbl]; exact hc4
            have g5 : wr.cell? ⟨b, off + k * 6 + 5, none⟩ = some (.slice ya ym yc) := by rw [HB0r.out.cell (p := ⟨b, off + k * 6 + 5, none⟩) hbl]; exact hc5
            have HT := Lib.hid ht
            clear ht hc0 hc1 hc2 hc3 hc4 hc5
            have hzr : w.heap.size ≤ wr.heap.size := HR.out.2.2.1.size
            have HB0b := Lib.hid (HB0r.out.alloc HB0r.out.size (.cells #[.int .i64 yk, .string ynm, .int .i64 yn, .int .i64 ytk, .slice yta ytn ytc, .slice ya ym yc] 50))
            have HRb := Lib.hid (HR.out.below hp (below_alloc wr (.cells #[.int .i64 yk, .string ynm, .int .i64 yn, .int .i64 ytk, .slice yta ytn ytc, .slice ya ym yc] 50)))
            have HXb := Lib.hid (HX.out.below (below_alloc wr (.cells #[.int .i64 yk, .string ynm, .int .i64 yn, .int .i64 ytk, .slice yta ytn ytc, .slice ya ym yc] 50)))
            have hs0 := HS.out
            have hcl : (Ex.counts (es.take k) : Int) ≤ 1048576 := by have := Ex.counts_part es k; omega
            go_wp2_with fail
            refine (IH.out _ es[k] p (r - 1 - Ex.counts (es.take k)) (dp - 1) (wr.alloc (.cells #[.int .i64 yk, .string ynm, .int .i64 yn, .int .i64 ytk, .slice yta ytn ytc, .slice ya ym yc] 50)) HT.out HB0b.out hp0 (by omega) (by simp; omega) (by omega) (by omega) (by omega) (by omega) HRb.out.1 HRb.out.2.1).mono ?_
            rintro e w3 ⟨r3, rfl, hR3, h3⟩
            have HX3 := Lib.hid (BoxAt.kept HXb.out hR3.2.2.1.size (hR3.2.2.2 _ HXb.out.1 (fun h => hpw h.symm)))
            have HR3 := Lib.hid (HRb.out.on hR3)
            have H3 := Lib.hid h3
            clear hR3 h3
            have HT2 := Lib.hid (Ex.counts_take es k hlt)
            cases hw : xwithin es[k] (r - 1 - Ex.counts (es.take k)) (dp - 1) with
            | false =>
              have HNO := Lib.hid (xwithin_sub (nm := nm) (n := n) (ty := ty) (r := r) q hlt rfl hw)
              clear hw
              go_wp2_with fail
              go_ret
              exact XEnd.of HNO.out HR3.out (fun h => by cases h)
            | true =>
              obtain ⟨v1, v2, v3⟩ := xwithin_true hw
              have hr3 := H3.out hw
              have HHT := Lib.hid (Ex.highs_take es k hlt)
              have HFT := Lib.hid (Ex.forms_take es k hlt)
              have HV1 := Lib.hid v1
              have HV2 := Lib.hid v2
              have HV3 := Lib.hid v3
              have HRR := Lib.hid hr3
              clear hw v1 v2 v3 hr3
              go_wp2_with fail
              refine ⟨⟨k + 1, by omega, by go_num, ?_, ?_, ?_, ?_, HX3.out⟩, by simp [intOf]; omega⟩
              · have h1 := HV1.out; rw [HT2.out]; omega
              · have h1 := HV2.out; have h2 := HD.out; rw [HHT.out]; omega
              · rw [HFT.out, HF.out, HV3.out]; rfl
              · have h1 := HR3.out; rw [HRR.out] at h1; rw [HT2.out]; have e : r - 1 - (Ex.counts (es.take k) : Int) - (es[k].count : Int) = r - 1 - ((Ex.counts (es.take k) + es[k].count : Nat) : Int) := by omega
                rw [e] at h1; exact h1
          · obtain rfl : k = es.length := by omega
            have HNO : Hid (xwithin (.node kd nm n ty es) r dp = true) := by
              have h1 := HS.out
              have h2 := HD.out
              have h3 := HF.out
              rw [List.take_length] at h1 h2 h3
              refine xwithin_mk (by rw [HFIN.out]; omega) (by rw [HHI.out]; omega) ?_
              have e : bareB kd es = true := by cases es with | nil => rfl | cons x r => simp [bareB, q]
              have hft := HFIT.out
              simp only [Ex.form, h3, e, hft, Bool.and_self]
            have HRL : Hid (Room p (r - 1 - Ex.counts es) w wr) := by have := HR.out; rw [List.take_length] at this; exact this
            go_wp2_with fail
            go_ret
            exact XEnd.of HNO.out HRL.out (fun _ => by rw [HFIN.out]; omega)
theorem xwithin_valid (t : Ex) : xwithin t 40 12 = t.valid := by
  have e1 : decide ((t.count : Int) ≤ 40) = decide (t.count ≤ 40) := decide_eq_decide.2 (by omega)
  have e2 : decide ((t.high : Int) ≤ 12) = decide (t.high ≤ 12) := decide_eq_decide.2 (by omega)
  unfold xwithin Ex.valid
  rw [e1, e2]
set_option maxRecDepth 100000 in
set_option maxHeartbeats 1000000 in
theorem implExValid (d : Nat) (v : Value) (t : Ex) (w : World) (h : ExAt w d v t) (hsz : t.bulk ≤ 1048576) (htab : TabAt w) :
    Calls Tryd.prog 62 #[v] w fun e w' => e = .returned (.bool t.valid) ∧ Below w.heap.size w w' := by
  have HT := Lib.hid h
  obtain ⟨yk, ynm, yn, ytk, yta, ytn, ytc, ya, ym, yc, rfl⟩ := ex_parts h
  clear h
  have X : Hid (Below w.heap.size w ((w.alloc (.cells #[.int .i64 yk, .string ynm, .int .i64 yn, .int .i64 ytk, .slice yta ytn ytc, .slice ya ym yc] 50)).alloc (.cells #[.int .i64 40] 3))) := ((Below.refl _ _).alloc (Nat.le_refl _) _).alloc (by simp) _
  go_enter Tryd.func62, Tryd.ntmps62
  go_wp2_with fail
  refine (implExWithin w htab d _ t (w.heap.size + 1) 40 12 _ HT.out X.out (by omega) hsz (by simp) (by omega) (by omega) (by omega) (by omega) (by simp [go_sem]) (by simp [go_sem])).mono ?_
  rintro e w' ⟨r', rfl, hr, _⟩
  have HB := Lib.hid (X.out.trans (hr.2.2.1.mono (Nat.le_succ _)))
  clear hr
  go_wp2_with fail
  go_ret
  exact ⟨by rw [xwithin_valid]; rfl, HB.out⟩
end Go.Proofs.YteeojgefnoaajaaDoor
/-
  Proved: impl.coreWithin says whether a core expression is of the right form and fits into the room that is left; it counts the room down, and touches nothing else. impl.IsCore says whether it is valid.
-/
namespace Go.Proofs.YteeojgefnoaajaaDoor
open Go.RowKit

def cwithin (t : Co) (r : Int) : Bool := decide ((t.count : Int) ≤ r) && t.form
def CWEnd (p : Nat) (r : Int) (t : Co) (w : World) (e : Ending) (w' : World) : Prop :=
  ∃ r' : Int, e = .returned (.bool (cwithin t r)) ∧ Room p r' w w' ∧ (cwithin t r = true → r' = r - t.count)
theorem CWEnd.of {p : Nat} {r r' : Int} {t : Co} {w w' : World} {b : Bool} (hb : cwithin t r = b) (hr : Room p r' w w') (h : b = true → r' = r - t.count) : CWEnd p r t w (.returned (.bool b)) w' := by
  subst hb; exact ⟨r', rfl, hr, h⟩
theorem cwithin_true {t : Co} {r : Int} (h : cwithin t r = true) : (t.count : Int) ≤ r ∧ t.form = true := by
  simp only [cwithin, Bool.and_eq_true, decide_eq_true_eq] at h
  exact h
theorem cwithin_mk {t : Co} {r : Int} (h1 : (t.count : Int) ≤ r) (h3 : t.form = true) : cwithin t r = true := by
  simp only [cwithin, Bool.and_eq_true, decide_eq_true_eq]
  exact ⟨h1, h3⟩
theorem cwithin_not {t : Co} {r : Int} (h : ¬ ((t.count : Int) ≤ r ∧ t.form = true)) : cwithin t r = false := by
  cases hw : cwithin t r with
  | false => rfl
  | true => exact absurd (cwithin_true hw) h
theorem coform_parts {kd : Int} {nm : ByteArray} {n : Int} {fr ty : Ty} {es : List Co} {ns : List ByteArray} {vs : List Co} : (Co.node kd nm n fr ty es ns vs).form = true ↔ Co.forms es = true ∧ coNodeB kd nm n fr ty es.length ns = true ∧ Co.forms vs = true := by
  simp only [Co.form, coNodeB, Bool.and_eq_true]
  constructor
  · rintro ⟨h1, h2, ⟨h3, h4, h5⟩, h6⟩; exact ⟨h1, ⟨h2, ⟨h3, h5⟩, h6⟩, h4⟩
  · rintro ⟨h1, ⟨h2, ⟨h3, h5⟩, h6⟩, h4⟩; exact ⟨h1, h2, ⟨h3, h4, h5⟩, h6⟩
set_option maxRecDepth 100000 in
set_option maxHeartbeats 8000000 in
theorem implCoWithin (w0 : World) (htab : CoreFull w0) : ∀ (d : Nat) (v : Value) (t : Co) (p : Nat) (r : Int) (w : World), PtrCo w0 d v t → Below w0.heap.size w0 w → w0.heap.size ≤ p → t.bulk ≤ 1048576 → p < w.heap.size → 0 ≤ r → r ≤ 1048576 → w.cell? ⟨p, 0, none⟩ = some (.int .i64 r) → w.frozen? ⟨p, 0, none⟩ = false → Calls Tryd.prog 48 #[v, .pointer (some ⟨p, 0, none⟩)] w (CWEnd p r t w)
  | 0, _, _, _, _, _, h, _, _, _, _, _, _, _, _ => by
    obtain ⟨_, _, _, _, _, _, _, _, _, _, _, _, _, _, _, _, _, _, _, _, _, _, h⟩ := h
    exact h.elim
  | d + 1, v, .node kd nm0 n0 fr ty es ns vs, p, r, w, h, hw0, hp0, hsz, hp, hr0, hr1, hcell, hfroz => by
    have IH : Hid (∀ (v : Value) (t : Co) (p : Nat) (r : Int) (w : World), PtrCo w0 d v t → Below w0.heap.size w0 w → w0.heap.size ≤ p → t.bulk ≤ 1048576 → p < w.heap.size → 0 ≤ r → r ≤ 1048576 → w.cell? ⟨p, 0, none⟩ = some (.int .i64 r) → w.frozen? ⟨p, 0, none⟩ = false → Calls Tryd.prog 48 #[v, .pointer (some ⟨p, 0, none⟩)] w (CWEnd p r t w)) := implCoWithin w0 htab d
    have HWH := Lib.hid h
    have HBK := Lib.hid hsz
    obtain ⟨pb, po, x0, x1, x2, x3, x4, x5, x6, x7, x8, rfl, hpl, k0, k1, k2, k3, k4, k5, k6, k7, k8, ht⟩ := h
    obtain ⟨c3, c4, c5, c6, sl, el, hv, hk0, hk1, hn0, hn1, hnm, hfr, hty, ⟨a, cap, rfl, hcap, hcap2, hat⟩, hln, a2, cap2, rfl, hcpe, hcpe2, hae⟩ := ht
    injection hv with hv
    injection hv with hv
    simp at hv
    obtain ⟨rfl, rfl, rfl, rfl, rfl, rfl, rfl, rfl, rfl⟩ := hv
    have HAT := Lib.hid hat; clear hat
    have HAE := Lib.hid hae; clear hae
    have HLN := Lib.hid hln; clear hln
    have hbk : (Co.node kd nm0 n0 fr ty es ns vs).bulk = nm0.size + (fr.size - 1) + (ty.size - 1) + Co.bulks es + (txs ns + Co.bulks vs) := rfl
    have HSZ : Hid (Co.bulks es + Co.bulks vs ≤ 1048576) := by show _ ≤ _; omega
    have hlen : es.length ≤ 1048576 := by have := Co.length_le es; omega
    have hlen2 : vs.length ≤ 1048576 := by have := Co.length_le vs; omega
    have HCT : Hid ((Co.node kd nm0 n0 fr ty es ns vs).count = 1 + Co.counts es + Co.counts vs) := by show _ = _; simp [Co.count]
    have K7 := Lib.hid k7
    have K8 := Lib.hid k8
    clear hsz hbk hfr hty k0 k1 k2 k3 k4 k5 k6 k7 k8
    have HW0 := Lib.hid hw0; clear hw0
    have HC0 := Lib.hid hcell
    have R1 := Lib.hid (Room.stored (r := r - 1) hp (Below.refl _ w) hcell hfroz)
    have HW1 : Hid (Below w0.heap.size w0 (w.setCell ⟨p, 0, none⟩ (.int .i64 (r - 1)))) := HW0.out.trans (R1.out.2.2.1.mono hp0)
    have hz1 : (w.setCell ⟨p, 0, none⟩ (.int .i64 (r - 1))).heap.size = w.heap.size := by simp
    by_cases hr : r < 1
    · have HNO : Hid (cwithin (.node kd nm0 n0 fr ty es ns vs) r = false) := cwithin_not (by rw [HCT.out]; omega)
      go_enter Tryd.func48, Tryd.ntmps48
      go_wp2_with fail
      go_ret
      exact CWEnd.of HNO.out R1.out (fun h => by cases h)
    go_enter Tryd.func48, Tryd.ntmps48
    go_wp2_with fail
    refine (implCoNode d _ kd nm0 n0 fr ty es ns vs _ (HWH.out.below HW1.out) HBK.out (htab.below HW1.out)).mono ?_
    rintro e w2 ⟨rfl, hb2⟩
    have R2 := Lib.hid (R1.out.below hp hb2)
    have HW2 : Hid (Below w0.heap.size w0 w2) := HW0.out.trans (R2.out.2.2.1.mono hp0)
    clear hb2 HW1 hcell hfroz
    have z7 : w2.cell? ⟨pb, po + 7, none⟩ = some (.slice a es.length cap) := (HW2.out.cell (p := ⟨pb, po + 7, none⟩) hpl).trans K7.out
    have z8 : w2.cell? ⟨pb, po + 8, none⟩ = some (.slice a2 vs.length cap2) := (HW2.out.cell (p := ⟨pb, po + 8, none⟩) hpl).trans K8.out
    cases hnode : coNodeB kd nm0 n0 fr ty es.length ns with
    | false =>
      have HNO : Hid (cwithin (.node kd nm0 n0 fr ty es ns vs) r = false) := cwithin_not (fun h => by have := (coform_parts.1 h.2).2.1; rw [hnode] at this; cases this)
      clear hnode
      go_wp2_with fail
      go_ret
      exact CWEnd.of HNO.out R2.out (fun h => by cases h)
    | true =>
      have HND := Lib.hid hnode; clear hnode
      go_wp2_with fail
      go_loopw [26] (fun i wr => ∃ k : Nat, k ≤ es.length ∧ i = .int .i64 k ∧ 0 ≤ r - 1 - (Co.counts (es.take k) : Int) ∧ Co.forms (es.take k) = true ∧ Room p (r - 1 - Co.counts (es.take k)) w wr) (fun i _ => es.length - (intOf i).toNat)
      case atStart => exact ⟨0, by omega, rfl, by simp [Co.counts]; omega, by simp [Co.forms], by simpa [Co.counts] using R2.out⟩
      case round =>
        obtain ⟨k, hk, rfl, hs, hf, hroom⟩ := hrel
        have HS := Lib.hid hs
        have HF := Lib.hid hf
        have HR := Lib.hid hroom
        clear hs hf hroom
        have HWR : Hid (Below w0.heap.size w0 wr) := HW0.out.trans (HR.out.2.2.1.mono hp0)
        have hzr : w.heap.size ≤ wr.heap.size := HR.out.2.2.1.size
        have HS2 := HSZ.out
        have z7 : wr.cell? ⟨pb, po + 7, none⟩ = some (.slice a es.length cap) := (HWR.out.cell (p := ⟨pb, po + 7, none⟩) hpl).trans K7.out
        have z8 : wr.cell? ⟨pb, po + 8, none⟩ = some (.slice a2 vs.length cap2) := (HWR.out.cell (p := ⟨pb, po + 8, none⟩) hpl).trans K8.out
        by_cases hlt : k < es.length
        · obtain ⟨b, off, x0, x1, x2, x3, x4, x5, x6, x7, x8, rfl, hbl, hc0, hc1, hc2, hc3, hc4, hc5, hc6, hc7, hc8, ht⟩ := HAT.out k hlt
          have HP : Hid (PtrCo w0 d (.pointer (some ⟨b, off + k * 9, none⟩)) es[k]) := ⟨b, off + k * 9, _, _, _, _, _, _, _, _, _, rfl, hbl, hc0, hc1, hc2, hc3, hc4, hc5, hc6, hc7, hc8, ht⟩
          clear ht hc0 hc1 hc2 hc3 hc4 hc5 hc6 hc7 hc8
          have hg := Co.bulk_get es k hlt
          have hs0 := HS.out
          have hcl : (Co.counts (es.take k) : Int) ≤ 1048576 := by have := Co.counts_part es k; omega
          go_wp2_with fail
          refine (IH.out _ es[k] p (r - 1 - Co.counts (es.take k)) wr HP.out HWR.out hp0 (by omega) (by omega) (by omega) (by omega) HR.out.1 HR.out.2.1).mono ?_
          rintro e w3 ⟨r3, rfl, hR3, h3⟩
          have HR3 := Lib.hid (HR.out.on hR3)
          have H3 := Lib.hid h3
          clear hR3 h3
          have HT2 := Lib.hid (Co.counts_take es k hlt)
          have HFT := Lib.hid (Co.forms_take es k hlt)
          cases hw : cwithin es[k] (r - 1 - Co.counts (es.take k)) with
          | false =>
            have HNO : Hid (cwithin (.node kd nm0 n0 fr ty es ns vs) r = false) := cwithin_not (fun h => by
              have hp3 := coform_parts.1 h.2
              have h1 := Co.forms_get es k hlt hp3.1
              have h2 := Co.counts_le_all es (k + 1)
              have h4 := h.1
              rw [HCT.out] at h4
              rw [HT2.out] at h2
              rw [cwithin_mk (by omega) h1] at hw; cases hw)
            clear hw
            go_wp2_with fail
            go_ret
            exact CWEnd.of HNO.out HR3.out (fun h => by cases h)
          | true =>
            obtain ⟨v1, v3⟩ := cwithin_true hw
            have hr3 := H3.out hw
            have HV1 := Lib.hid v1
            have HV3 := Lib.hid v3
            have HRR := Lib.hid hr3
            clear hw v1 v3 hr3
            go_wp2_with fail
            refine ⟨⟨k + 1, by omega, by go_num, ?_, ?_, ?_⟩, by simp [intOf]; omega⟩
            · have h1 := HV1.out; rw [HT2.out]; omega
            · rw [HFT.out, HF.out, HV3.out]; rfl
            · have h1 := HR3.out; rw [HRR.out] at h1; rw [HT2.out]; have e : r - 1 - (Co.counts (es.take k) : Int) - (es[k].count : Int) = r - 1 - ((Co.counts (es.take k) + es[k].count : Nat) : Int) := by omega
              rw [e] at h1; exact h1
        · obtain rfl : k = es.length := by omega
          have HFE : Hid (Co.forms es = true) := by have := HF.out; rw [List.take_length] at this; exact this
          have HSE : Hid (0 ≤ r - 1 - (Co.counts es : Int)) := by have := HS.out; rw [List.take_length] at this; exact this
          have HRE : Hid (Room p (r - 1 - Co.counts es) w wr) := by have := HR.out; rw [List.take_length] at this; exact this
          clear HF HS HR
          go_wp2_with fail
          go_loopw [44] (fun i wr => ∃ k : Nat, k ≤ vs.length ∧ i = .int .i64 k ∧ 0 ≤ r - 1 - (Co.counts es : Int) - (Co.counts (vs.take k) : Int) ∧ Co.forms (vs.take k) = true ∧ Room p (r - 1 - (Co.counts es : Int) - Co.counts (vs.take k)) w wr) (fun i _ => vs.length - (intOf i).toNat)
          case atStart => exact ⟨0, by omega, rfl, by have := HSE.out; simp [Co.counts]; omega, by simp [Co.forms], by simpa [Co.counts] using HRE.out⟩
          case round =>
            obtain ⟨k, hk, rfl, hs, hf, hroom⟩ := hrel
            have HS := Lib.hid hs
            have HF := Lib.hid hf
            have HR := Lib.hid hroom
            clear hs hf hroom
            have HWR : Hid (Below w0.heap.size w0 wr) := HW0.out.trans (HR.out.2.2.1.mono hp0)
            have hzr : w.heap.size ≤ wr.heap.size := HR.out.2.2.1.size
            have HS2 := HSZ.out
            have z7 : wr.cell? ⟨pb, po + 7, none⟩ = some (.slice a es.length cap) := (HWR.out.cell (p := ⟨pb, po + 7, none⟩) hpl).trans K7.out
            have z8 : wr.cell? ⟨pb, po + 8, none⟩ = some (.slice a2 vs.length cap2) := (HWR.out.cell (p := ⟨pb, po + 8, none⟩) hpl).trans K8.out
            by_cases hlt : k < vs.length
            · have hlt2 : k < ns.length := by have := HLN.out; omega
              obtain ⟨b, off, x0, x1, x2, x3, x4, x5, x6, x7, x8, rfl, hbl, hnz, hcn, hc0, hc1, hc2, hc3, hc4, hc5, hc6, hc7, hc8, ht⟩ := HAE.out k hlt hlt2
              have HP : Hid (PtrCo w0 d (.pointer (some ⟨b, off + k * 10 + 1, none⟩)) vs[k]) := ⟨b, off + k * 10 + 1, _, _, _, _, _, _, _, _, _, rfl, hbl, hc0, hc1, hc2, hc3, hc4, hc5, hc6, hc7, hc8, ht⟩
              clear ht hc0 hc1 hc2 hc3 hc4 hc5 hc6 hc7 hc8 hcn hnz
              have hg := Co.bulk_get vs k hlt
              have hs0 := HS.out
              have hcl : (Co.counts (vs.take k) : Int) ≤ 1048576 := by have := Co.counts_part vs k; omega
              go_wp2_with fail
              refine (IH.out _ vs[k] p (r - 1 - (Co.counts es : Int) - Co.counts (vs.take k)) wr HP.out HWR.out hp0 (by omega) (by omega) (by omega) (by omega) HR.out.1 HR.out.2.1).mono ?_
              rintro e w3 ⟨r3, rfl, hR3, h3⟩
              have HR3 := Lib.hid (HR.out.on hR3)
              have H3 := Lib.hid h3
              clear hR3 h3
              have HT2 := Lib.hid (Co.counts_take vs k hlt)
              have HFT := Lib.hid (Co.forms_take vs k hlt)
              cases hw : cwithin vs[k] (r - 1 - (Co.counts es : Int) - Co.counts (vs.take k)) with
              | false =>
                have HNO : Hid (cwithin (.node kd nm0 n0 fr ty es ns vs) r = false) := cwithin_not (fun h => by
                  have hp3 := coform_parts.1 h.2
                  have h1 := Co.forms_get vs k hlt hp3.2.2
                  have h2 := Co.counts_le_all vs (k + 1)
                  have h4 := h.1
                  rw [HCT.out] at h4
                  rw [HT2.out] at h2
                  rw [cwithin_mk (by omega) h1] at hw; cases hw)
                clear hw
                go_wp2_with fail
                go_ret
                exact CWEnd.of HNO.out HR3.out (fun h => by cases h)
              | true =>
                obtain ⟨v1, v3⟩ := cwithin_true hw
                have hr3 := H3.out hw
                have HV1 := Lib.hid v1
                have HV3 := Lib.hid v3
                have HRR := Lib.hid hr3
                clear hw v1 v3 hr3
                go_wp2_with fail
                refine ⟨⟨k + 1, by omega, by go_num, ?_, ?_, ?_⟩, by simp [intOf]; omega⟩
                · have h1 := HV1.out; rw [HT2.out]; omega
                · rw [HFT.out, HF.out, HV3.out]; rfl
                · have h1 := HR3.out; rw [HRR.out] at h1; rw [HT2.out]; have e : r - 1 - (Co.counts es : Int) - (Co.counts (vs.take k) : Int) - (vs[k].count : Int) = r - 1 - (Co.counts es : Int) - ((Co.counts (vs.take k) + vs[k].count : Nat) : Int) := by omega
                  rw [e] at h1; exact h1
            · obtain rfl : k = vs.length := by omega
              have HNO : Hid (cwithin (.node kd nm0 n0 fr ty es ns vs) r = true) := by
                have h1 := HS.out
                have h3 := HF.out
                rw [List.take_length] at h1 h3
                exact cwithin_mk (by rw [HCT.out]; omega) (coform_parts.2 ⟨HFE.out, HND.out, h3⟩)
              have HRL : Hid (Room p (r - 1 - Co.counts es - Co.counts vs) w wr) := by have := HR.out; rw [List.take_length] at this; exact this
              go_wp2_with fail
              go_ret
              exact CWEnd.of HNO.out HRL.out (fun _ => by rw [HCT.out]; omega)
set_option maxRecDepth 100000 in
set_option maxHeartbeats 2000000 in
theorem cwithin_valid (t : Co) : cwithin t 600 = t.valid := by
  have e1 : decide ((t.count : Int) ≤ 600) = decide (t.count ≤ 600) := decide_eq_decide.2 (by omega)
  unfold cwithin Co.valid
  rw [e1]
theorem ptr_box {w : World} {d : Nat} {t : Co} {yk yn yfk ytk : Int} {ynm : ByteArray} {yfa yta ya za : Option Addr} {yfn yfc ytn ytc ym yc zm zc : Nat} (h : CoAt w d (.agg #[.int .i64 yk, .string ynm, .int .i64 yn, .int .i64 yfk, .slice yfa yfn yfc, .int .i64 ytk, .slice yta ytn ytc, .slice ya ym yc, .slice za zm zc]) t) :
    PtrCo (w.alloc (.cells #[.int .i64 yk, .string ynm, .int .i64 yn, .int .i64 yfk, .slice yfa yfn yfc, .int .i64 ytk, .slice yta ytn ytc, .slice ya ym yc, .slice za zm zc] 37)) d (.pointer (some ⟨w.heap.size, 0, none⟩)) t := by
  have X := BoxAt.new w #[.int .i64 yk, .string ynm, .int .i64 yn, .int .i64 yfk, .slice yfa yfn yfc, .int .i64 ytk, .slice yta ytn ytc, .slice ya ym yc, .slice za zm zc] 37
  exact ⟨_, 0, _, _, _, _, _, _, _, _, _, rfl, X.1, X.2 0, X.2 1, X.2 2, X.2 3, X.2 4, X.2 5, X.2 6, X.2 7, X.2 8, h.below (below_alloc _ _)⟩
set_option maxRecDepth 100000 in
set_option maxHeartbeats 2000000 in
theorem implIsCore (d : Nat) (v : Value) (t : Co) (w : World) (h : CoAt w d v t) (hsz : t.bulk ≤ 1048576) (htab : CoreFull w) :
    Calls Tryd.prog 13 #[v] w fun e w' => e = .returned (.bool t.valid) ∧ Below w.heap.size w w' := by
  obtain ⟨yk, ynm, yn, yfk, yfa, yfn, yfc, ytk, yta, ytn, ytc, ya, ym, yc, za, zm, zc, rfl⟩ := co_parts h
  have HP := Lib.hid (ptr_box h)
  have HTB := Lib.hid (htab.below (below_alloc w (.cells #[.int .i64 yk, .string ynm, .int .i64 yn, .int .i64 yfk, .slice yfa yfn yfc, .int .i64 ytk, .slice yta ytn ytc, .slice ya ym yc, .slice za zm zc] 37)))
  clear h htab
  have X : Hid (Below (w.heap.size + 1) (w.alloc (.cells #[.int .i64 yk, .string ynm, .int .i64 yn, .int .i64 yfk, .slice yfa yfn yfc, .int .i64 ytk, .slice yta ytn ytc, .slice ya ym yc, .slice za zm zc] 37)) ((w.alloc (.cells #[.int .i64 yk, .string ynm, .int .i64 yn, .int .i64 yfk, .slice yfa yfn yfc, .int .i64 ytk, .slice yta ytn ytc, .slice ya ym yc, .slice za zm zc] 37)).alloc (.cells #[.int .i64 600] 3))) := (Below.refl _ _).alloc (by simp) _
  go_enter Tryd.func13, Tryd.ntmps13
  go_wp2_with fail
  refine (implCoWithin (w.alloc (.cells #[.int .i64 yk, .string ynm, .int .i64 yn, .int .i64 yfk, .slice yfa yfn yfc, .int .i64 ytk, .slice yta ytn ytc, .slice ya ym yc, .slice za zm zc] 37)) HTB.out d _ t (w.heap.size + 1) 600 _ HP.out (by have := X.out; simpa using this) (by simp) hsz (by simp) (by omega) (by omega) (by simp [go_sem]) (by simp [go_sem])).mono ?_
  rintro e w' ⟨r', rfl, hr, _⟩
  have HB : Hid (Below w.heap.size w w') := ((below_alloc w _).alloc (by simp) _).trans (hr.2.2.1.mono (Nat.le_succ _))
  clear hr
  go_wp2_with fail
  go_ret
  exact ⟨by rw [cwithin_valid]; rfl, HB.out⟩
end Go.Proofs.YteeojgefnoaajaaDoor
/-
  Proved: the law FnExactIsCore answers true for every argument, and leaves the memory that was there as it was.
-/
namespace Go.Proofs.YteeojgefnoaajaaDoor
open Go.RowKit

set_option maxRecDepth 100000 in
set_option maxHeartbeats 2000000 in
theorem isCoreWalk (d : Nat) (v1 : Value) (t1 : Co) (w : World) (h1 : CoAt w d v1 t1) (htab : CoreFull w) :
    Calls Tryd.prog 3 #[v1] w fun e w' => e = .returned (.bool true) ∧ Below w.heap.size w w' := by
  obtain ⟨a1k, a1nm, a1n, a1fk, a1fa, a1fn, a1fc, a1tk, a1ta, a1tn, a1tc, a1sa, a1sn, a1sc, a1ea, a1en, a1ec, rfl⟩ := co_parts h1
  have B : Hid (Below w.heap.size w (w.alloc (.cells #[.int .i64 a1k, .string a1nm, .int .i64 a1n, .int .i64 a1fk, .slice a1fa a1fn a1fc, .int .i64 a1tk, .slice a1ta a1tn a1tc, .slice a1sa a1sn a1sc, .slice a1ea a1en a1ec] 28))) := below_alloc _ _
  have HTAB := Lib.hid (htab.below B.out)
  clear htab
  have HA1 := Lib.hid (h1.below B.out)
  have XA1 : Hid (BoxAt (w.alloc (.cells #[.int .i64 a1k, .string a1nm, .int .i64 a1n, .int .i64 a1fk, .slice a1fa a1fn a1fc, .int .i64 a1tk, .slice a1ta a1tn a1tc, .slice a1sa a1sn a1sc, .slice a1ea a1en a1ec] 28)) (w.heap.size) #[.int .i64 a1k, .string a1nm, .int .i64 a1n, .int .i64 a1fk, .slice a1fa a1fn a1fc, .int .i64 a1tk, .slice a1ta a1tn a1tc, .slice a1sa a1sn a1sc, .slice a1ea a1en a1ec]) := BoxAt.new _ _ _
  clear h1
  go_enter Tryd.func3, Tryd.ntmps3
  go_wp2_with fail
  refine (szCo_all d _ t1 1048576 _ (by omega) (by omega) HA1.out).mono ?_
  rintro e w1 ⟨r1, rfl, hb, hr1⟩
  replace B := Lib.hid (below_thru B.out (Nat.le_refl _) hb)
  replace HTAB := Lib.hid (HTAB.out.below hb)
  replace HA1 := Lib.hid (HA1.out.below hb)
  replace XA1 := Lib.hid (XA1.out.below hb)
  clear hb
  rcases hr1 with ⟨hr1, hs1⟩ | ⟨hr1, hs1⟩
  · go_wp2_with fail
    go_ret
    exact ⟨rfl, B.out⟩
  have hq1 : r1 ≤ 1048576 := by omega
  have hn1 : t1.bulk ≤ 1048576 := by omega
  clear hs1
  have cXA1_0 := XA1.out.2 0
  have cXA1_1 := XA1.out.2 1
  have cXA1_2 := XA1.out.2 2
  have cXA1_3 := XA1.out.2 3
  have cXA1_4 := XA1.out.2 4
  have cXA1_5 := XA1.out.2 5
  have cXA1_6 := XA1.out.2 6
  have cXA1_7 := XA1.out.2 7
  have cXA1_8 := XA1.out.2 8
  go_wp2_with fail
  clear cXA1_0 cXA1_1 cXA1_2 cXA1_3 cXA1_4 cXA1_5 cXA1_6 cXA1_7 cXA1_8
  refine ((toCo_all d).1 _ t1 _ hn1 HA1.out).mono ?_
  rintro e w2 ⟨s1, fp, rfl, ht, hf, hb⟩
  replace B := Lib.hid (below_thru B.out (Nat.le_refl _) hb)
  replace HTAB := Lib.hid (HTAB.out.below hb)
  replace HA1 := Lib.hid (HA1.out.below hb)
  replace XA1 := Lib.hid (XA1.out.below hb)
  clear hb
  have Hs1 := Lib.hid ht.at_
  clear ht hf
  have cXA1_0 := XA1.out.2 0
  have cXA1_1 := XA1.out.2 1
  have cXA1_2 := XA1.out.2 2
  have cXA1_3 := XA1.out.2 3
  have cXA1_4 := XA1.out.2 4
  have cXA1_5 := XA1.out.2 5
  have cXA1_6 := XA1.out.2 6
  have cXA1_7 := XA1.out.2 7
  have cXA1_8 := XA1.out.2 8
  go_wp2_with fail
  clear cXA1_0 cXA1_1 cXA1_2 cXA1_3 cXA1_4 cXA1_5 cXA1_6 cXA1_7 cXA1_8
  refine (specIsCore d s1 t1 _ Hs1.out hn1).mono ?_
  rintro e w3 ⟨rfl, hb⟩
  replace B := Lib.hid (below_thru B.out (Nat.le_refl _) hb)
  replace HTAB := Lib.hid (HTAB.out.below hb)
  replace HA1 := Lib.hid (HA1.out.below hb)
  replace XA1 := Lib.hid (XA1.out.below hb)
  clear hb
  clear Hs1
  have cXA1_0 := XA1.out.2 0
  have cXA1_1 := XA1.out.2 1
  have cXA1_2 := XA1.out.2 2
  have cXA1_3 := XA1.out.2 3
  have cXA1_4 := XA1.out.2 4
  have cXA1_5 := XA1.out.2 5
  have cXA1_6 := XA1.out.2 6
  have cXA1_7 := XA1.out.2 7
  have cXA1_8 := XA1.out.2 8
  go_wp2_with fail
  clear cXA1_0 cXA1_1 cXA1_2 cXA1_3 cXA1_4 cXA1_5 cXA1_6 cXA1_7 cXA1_8
  refine ((toCo_all d).1 _ t1 _ hn1 HA1.out).mono ?_
  rintro e w4 ⟨x1, fp, rfl, ht, hf, hb⟩
  replace B := Lib.hid (below_thru B.out (Nat.le_refl _) hb)
  replace HTAB := Lib.hid (HTAB.out.below hb)
  replace HA1 := Lib.hid (HA1.out.below hb)
  replace XA1 := Lib.hid (XA1.out.below hb)
  clear hb
  obtain ⟨x1k, x1nm, x1n, x1fk, x1fa, x1fn, x1fc, x1tk, x1ta, x1tn, x1tc, x1sa, x1sn, x1sc, x1ea, x1en, x1ec, rfl⟩ := co_parts ht.at_
  have HX1 := Lib.hid ht.at_
  clear ht hf
  have XX1 : Hid (BoxAt (w4.alloc (.cells #[.int .i64 x1k, .string x1nm, .int .i64 x1n, .int .i64 x1fk, .slice x1fa x1fn x1fc, .int .i64 x1tk, .slice x1ta x1tn x1tc, .slice x1sa x1sn x1sc, .slice x1ea x1en x1ec] 37)) w4.heap.size #[.int .i64 x1k, .string x1nm, .int .i64 x1n, .int .i64 x1fk, .slice x1fa x1fn x1fc, .int .i64 x1tk, .slice x1ta x1tn x1tc, .slice x1sa x1sn x1sc, .slice x1ea x1en x1ec]) := BoxAt.new _ _ _
  have hb := below_alloc w4 (.cells #[.int .i64 x1k, .string x1nm, .int .i64 x1n, .int .i64 x1fk, .slice x1fa x1fn x1fc, .int .i64 x1tk, .slice x1ta x1tn x1tc, .slice x1sa x1sn x1sc, .slice x1ea x1en x1ec] 37)
  replace B := Lib.hid (below_thru B.out (Nat.le_refl _) hb)
  replace HTAB := Lib.hid (HTAB.out.below hb)
  replace HA1 := Lib.hid (HA1.out.below hb)
  replace XA1 := Lib.hid (XA1.out.below hb)
  replace HX1 := Lib.hid (HX1.out.below hb)
  clear hb
  have cXA1_0 := XA1.out.2 0
  have cXA1_1 := XA1.out.2 1
  have cXA1_2 := XA1.out.2 2
  have cXA1_3 := XA1.out.2 3
  have cXA1_4 := XA1.out.2 4
  have cXA1_5 := XA1.out.2 5
  have cXA1_6 := XA1.out.2 6
  have cXA1_7 := XA1.out.2 7
  have cXA1_8 := XA1.out.2 8
  have cXX1_0 := XX1.out.2 0
  have cXX1_1 := XX1.out.2 1
  have cXX1_2 := XX1.out.2 2
  have cXX1_3 := XX1.out.2 3
  have cXX1_4 := XX1.out.2 4
  have cXX1_5 := XX1.out.2 5
  have cXX1_6 := XX1.out.2 6
  have cXX1_7 := XX1.out.2 7
  have cXX1_8 := XX1.out.2 8
  go_wp2_with fail
  clear cXA1_0 cXA1_1 cXA1_2 cXA1_3 cXA1_4 cXA1_5 cXA1_6 cXA1_7 cXA1_8 cXX1_0 cXX1_1 cXX1_2 cXX1_3 cXX1_4 cXX1_5 cXX1_6 cXX1_7 cXX1_8
  refine (implIsCore d _ t1 _ HX1.out hn1 HTAB.out).mono ?_
  rintro e w5 ⟨rfl, hb⟩
  replace B := Lib.hid (below_thru B.out (Nat.le_refl _) hb)
  replace HTAB := Lib.hid (HTAB.out.below hb)
  replace HA1 := Lib.hid (HA1.out.below hb)
  replace XA1 := Lib.hid (XA1.out.below hb)
  replace HX1 := Lib.hid (HX1.out.below hb)
  replace XX1 := Lib.hid (XX1.out.below hb)
  clear hb
  have cXA1_0 := XA1.out.2 0
  have cXA1_1 := XA1.out.2 1
  have cXA1_2 := XA1.out.2 2
  have cXA1_3 := XA1.out.2 3
  have cXA1_4 := XA1.out.2 4
  have cXA1_5 := XA1.out.2 5
  have cXA1_6 := XA1.out.2 6
  have cXA1_7 := XA1.out.2 7
  have cXA1_8 := XA1.out.2 8
  have cXX1_0 := XX1.out.2 0
  have cXX1_1 := XX1.out.2 1
  have cXX1_2 := XX1.out.2 2
  have cXX1_3 := XX1.out.2 3
  have cXX1_4 := XX1.out.2 4
  have cXX1_5 := XX1.out.2 5
  have cXX1_6 := XX1.out.2 6
  have cXX1_7 := XX1.out.2 7
  have cXX1_8 := XX1.out.2 8
  go_wp2_with fail
  clear cXA1_0 cXA1_1 cXA1_2 cXA1_3 cXA1_4 cXA1_5 cXA1_6 cXA1_7 cXA1_8 cXX1_0 cXX1_1 cXX1_2 cXX1_3 cXX1_4 cXX1_5 cXX1_6 cXX1_7 cXX1_8
  have hb := below_drew w5
  replace B := Lib.hid (below_thru B.out (Nat.le_refl _) hb)
  replace HTAB := Lib.hid (HTAB.out.below hb)
  replace HA1 := Lib.hid (HA1.out.below hb)
  replace XA1 := Lib.hid (XA1.out.below hb)
  replace HX1 := Lib.hid (HX1.out.below hb)
  replace XX1 := Lib.hid (XX1.out.below hb)
  clear hb
  go_region_held3 (fun w' => w'.cell? ⟨w.heap.size, 0, none⟩ = some (.int .i64 a1k) ∧ w'.cell? ⟨w.heap.size, 1, none⟩ = some (.string a1nm) ∧ w'.cell? ⟨w.heap.size, 2, none⟩ = some (.int .i64 a1n) ∧ w'.cell? ⟨w.heap.size, 3, none⟩ = some (.int .i64 a1fk) ∧ w'.cell? ⟨w.heap.size, 4, none⟩ = some (.slice a1fa a1fn a1fc) ∧ w'.cell? ⟨w.heap.size, 5, none⟩ = some (.int .i64 a1tk) ∧ w'.cell? ⟨w.heap.size, 6, none⟩ = some (.slice a1ta a1tn a1tc) ∧ w'.cell? ⟨w.heap.size, 7, none⟩ = some (.slice a1sa a1sn a1sc) ∧ w'.cell? ⟨w.heap.size, 8, none⟩ = some (.slice a1ea a1en a1ec) ∧ w'.cell? ⟨w4.heap.size, 0, none⟩ = some (.int .i64 x1k) ∧ w'.cell? ⟨w4.heap.size, 1, none⟩ = some (.string x1nm) ∧ w'.cell? ⟨w4.heap.size, 2, none⟩ = some (.int .i64 x1n) ∧ w'.cell? ⟨w4.heap.size, 3, none⟩ = some (.int .i64 x1fk) ∧ w'.cell? ⟨w4.heap.size, 4, none⟩ = some (.slice x1fa x1fn x1fc) ∧ w'.cell? ⟨w4.heap.size, 5, none⟩ = some (.int .i64 x1tk) ∧ w'.cell? ⟨w4.heap.size, 6, none⟩ = some (.slice x1ta x1tn x1tc) ∧ w'.cell? ⟨w4.heap.size, 7, none⟩ = some (.slice x1sa x1sn x1sc) ∧ w'.cell? ⟨w4.heap.size, 8, none⟩ = some (.slice x1ea x1en x1ec)) (exact ⟨XA1.out.2 0, XA1.out.2 1, XA1.out.2 2, XA1.out.2 3, XA1.out.2 4, XA1.out.2 5, XA1.out.2 6, XA1.out.2 7, XA1.out.2 8, XX1.out.2 0, XX1.out.2 1, XX1.out.2 2, XX1.out.2 3, XX1.out.2 4, XX1.out.2 5, XX1.out.2 6, XX1.out.2 7, XX1.out.2 8⟩)
    (first
     | (go_at_call_of 12 (Value.agg #[Value.int IntKind.i64 a1k, Value.string a1nm, Value.int IntKind.i64 a1n, Value.int IntKind.i64 a1fk, Value.slice a1fa a1fn a1fc, Value.int IntKind.i64 a1tk, Value.slice a1ta a1tn a1tc, Value.slice a1sa a1sn a1sc, Value.slice a1ea a1en a1ec])
        refine ((toCo_all d).1 _ t1 _ hn1 HA1.out).mono ?_
        rintro e w6 ⟨y1, fp, rfl, ht, hf, hb⟩
        replace B := Lib.hid (below_thru B.out (Nat.le_refl _) hb)
        replace HTAB := Lib.hid (HTAB.out.below hb)
        replace HA1 := Lib.hid (HA1.out.below hb)
        replace XA1 := Lib.hid (XA1.out.below hb)
        replace HX1 := Lib.hid (HX1.out.below hb)
        replace XX1 := Lib.hid (XX1.out.below hb)
        clear hb
        have Hy1 := Lib.hid ht.at_
        clear ht hf)
     | (go_at_call 14
        refine (eqCo_all d _ y1 t1 _ HX1.out Hy1.out).mono ?_
        rintro e w7 ⟨rfl, hb⟩
        replace B := Lib.hid (below_thru B.out (Nat.le_refl _) hb)
        replace HTAB := Lib.hid (HTAB.out.below hb)
        replace HA1 := Lib.hid (HA1.out.below hb)
        replace XA1 := Lib.hid (XA1.out.below hb)
        replace HX1 := Lib.hid (HX1.out.below hb)
        replace XX1 := Lib.hid (XX1.out.below hb)
        clear hb
        clear Hy1))
  have cXA1_0 := XA1.out.2 0
  have cXA1_1 := XA1.out.2 1
  have cXA1_2 := XA1.out.2 2
  have cXA1_3 := XA1.out.2 3
  have cXA1_4 := XA1.out.2 4
  have cXA1_5 := XA1.out.2 5
  have cXA1_6 := XA1.out.2 6
  have cXA1_7 := XA1.out.2 7
  have cXA1_8 := XA1.out.2 8
  have cXX1_0 := XX1.out.2 0
  have cXX1_1 := XX1.out.2 1
  have cXX1_2 := XX1.out.2 2
  have cXX1_3 := XX1.out.2 3
  have cXX1_4 := XX1.out.2 4
  have cXX1_5 := XX1.out.2 5
  have cXX1_6 := XX1.out.2 6
  have cXX1_7 := XX1.out.2 7
  have cXX1_8 := XX1.out.2 8
  go_wp2_with fail
  go_ret
  exact ⟨rfl, B.out⟩
end Go.Proofs.YteeojgefnoaajaaDoor
/-
  Proved: a law that returns true and leaves all memory that was there before as it was meets its row's end, also where the row names variables to be read again.
-/
namespace Go.Proofs.YteeojgefnoaajaaDoor.Law
open Go.ChangeShapes Go.WideShapes Go.ChangeAt Go.RowKit
variable {H : Type} {enc : TypeId × Value → H} {P : Program} {W W' : World}

theorem law_post_vars {f : Func} {s : ChangeSpec} {args : Array Value} {ds gs : List (DataW H)} {before : List MemPlace} {tb : TypeId}
    (hW : DataW.Whole enc P f.params.toList s.vars false W args.toList ds gs before) (hv : varsRowed P s.vars = true)
    (hres : f.resultTypes = #[tb]) (ub : P.underlying tb = some .bool) (hl : laidOutB P = true)
    (hr : (f.params.toList.all fun t => P.readableRec t && decide (t < P.types.size)) = true)
    (hfn : s.fn H (ds ++ gs) = { results := [.lit (.bool true)], args := ds, vars := gs })
    (hb : Below W.heap.size W W') : s.post enc P f false true false false W args (.bool true) W' := by
  have hlt := hW.lt
  have hW' := hW
  obtain ⟨p, q, hA, hV, rfl, hfz, hnd⟩ := hW
  refine ⟨ds, gs, _, [], p, q, hW', ?_, ?_, ?_, hb.frame _, fun h => by cases h⟩
  · rw [hres, hfn]
    exact trodAll_mk1 (shut_bool ub true)
  · rw [hfn]
    exact trodAll_below hl hb hr hA (fun x hx => hlt x (by simp [hx]))
  · rw [hfn]
    exact Below.trodVars hl hb hv hV
end Go.Proofs.YteeojgefnoaajaaDoor.Law
namespace Go.Proofs.YteeojgefnoaajaaDoor.ExactIsCore
open Go.ChangeShapes Go.WideShapes Go.ChangeAt Go.RowKit Go.WideMaps Go.WideElems
open Go.ChangeMaps (setBlock shut_map_nil open_string shut_string keptBut_setBlock frozen?_setBlock heap_setBlock_same)
set_option maxRecDepth 100000 in
theorem contract (H : Type) (enc : TypeId × Value → H) (W : World) (base : Nat) (args : Array Value) (ds gs : List (DataW H)) (before : List MemPlace)
    (hval : ∀ (j : Nat) t v, Tryd.f3.params[j]? = some t → args[j]? = some v → Value.okWide Tryd.prog W .any base t v)
    (hW : DataW.Whole enc Tryd.prog Tryd.f3.params.toList Rows.fnExactIsCoreSpec.vars false W args.toList ds gs before) (hL : laidMetH Tryd.prog Rows.fnExactIsCoreRow.laid W)
    (_hsz : (DataW.weightsEach Tryd.prog (Tryd.f3.params.toList ++ (OpenSpec.ofChange Rows.fnExactIsCoreSpec).bare.plain.varTypes Tryd.prog) (ds ++ gs)).all (· ≤ reachBytes) = true) (_hsh : W.ShapedOpen Tryd.prog) :
    Calls Tryd.prog 3 args W fun e W' => ∃ v, e = .returned v ∧ Rows.fnExactIsCoreSpec.post enc Tryd.prog Tryd.f3 false true false false W args v W' := by
  have hW' := hW
  obtain ⟨p, q, hA0, hV, rfl, hfz, hnd⟩ := hW
  have hA : DataW.TrodAll enc Tryd.prog W 0 (fun _ => true) true Tryd.f3.params.toList args.toList ds p := hA0
  rw [Tryd.params3] at hA hval
  obtain ⟨v0, vs0, d0, ds0, p0, q0, hargs, rfl, rfl, h0, r0⟩ := trodAll_cons hA
  obtain ⟨rfl, rfl, rfl⟩ := trodAll_nil r0
  obtain rfl : args = #[v0] := by cases args; simp_all
  obtain ⟨gg, gt, gcs, gfuel, gd, gp, rfl, _⟩ := trodVars_one hV
  obtain ⟨e0, t0, ht0⟩ := co_of_arg (hval 0 28 v0 rfl rfl) h0
  rw [MakeChecks.laidMetH_plain _ _ _ (by kernel_rfl)] at hL
  have htab : CoreFull W := coreFull_of hL
  refine Calls.mono (isCoreWalk e0 v0 t0 W ht0 htab) fun e W' ⟨he, hg⟩ => ?_
  subst he
  exact ⟨_, rfl, Law.law_post_vars hW' (by kernel_rfl) (by kernel_rfl) Tryd.underlying4 (by kernel_rfl) (by kernel_rfl) rfl hg⟩
set_option maxRecDepth 100000 in
theorem laid_met (os : Os) : laidMet Tryd.prog Rows.fnExactIsCoreRow.laid (((World.doorLaid Tryd.prog 512 os)).forCall (fun _ _ => 0) ⟨#[], #[.agg #[.int .i64 0, .string ⟨#[]⟩, .int .i64 0, .int .i64 0, .slice none 0 0, .int .i64 0, .slice none 0 0, .slice none 0 0, .slice none 0 0]], []⟩).memory :=
  laidMet_of_run' 8 (by kernel_rfl) (by kernel_rfl)
theorem reads (os : Os) {H : Type} (enc : TypeId × Value → H) : ∃ places, DataW.whole enc Tryd.prog (((World.doorLaid Tryd.prog 512 os)).forCall (fun _ _ => 0) ⟨#[], #[.agg #[.int .i64 0, .string ⟨#[]⟩, .int .i64 0, .int .i64 0, .slice none 0 0, .int .i64 0, .slice none 0 0, .slice none 0 0, .slice none 0 0]], []⟩).memory Tryd.f3.params.toList Rows.fnExactIsCoreSpec.vars false (#[.agg #[.int .i64 0, .string ⟨#[]⟩, .int .i64 0, .int .i64 0, .slice none 0 0, .int .i64 0, .slice none 0 0, .slice none 0 0, .slice none 0 0]] : Array Value).toList 8 = some ([.agg [.lit (.int .i64 0), .lit (.string []), .lit (.int .i64 0), .agg [.lit (.int .i64 0), .nil], .agg [.lit (.int .i64 0), .nil], .nil, .nil]], [Rows.laid_loop_example_g00585_impl_coreForms], places) :=
  ⟨MemPlace.row ⟨0, 0, none⟩ 80, by kernel_rfl⟩
set_option maxRecDepth 100000 in
theorem lifted (os : Os) (started : os.Started) (H : Type) (enc : TypeId × Value → H) (F : Stop.Interp) :
    ReturnsInHanded {} Tryd.checked os 3 .any ((OpenSpec.ofChange Rows.fnExactIsCoreSpec).preRow enc Tryd.prog Tryd.f3 Rows.fnExactIsCoreRow.domain false Rows.fnExactIsCoreRow.laid) (((OpenSpec.ofChange Rows.fnExactIsCoreSpec).at F).post enc Tryd.prog Tryd.f3 false true false false) := by
  obtain ⟨places, hx⟩ := reads os enc
  refine returnsInHanded_of_row (C := Tryd.checked) (s := OpenSpec.ofChange Rows.fnExactIsCoreSpec) (by kernel_rfl) started (by kernel_rfl) Tryd.func3
    (witness_row_atRef (enc := enc) (C := Tryd.checked) false (World.doorLaid Tryd.prog 512 os) #[.agg #[.int .i64 0, .string ⟨#[]⟩, .int .i64 0, .int .i64 0, .slice none 0 0, .int .i64 0, .slice none 0 0, .slice none 0 0, .slice none 0 0]] rfl (by kernel_rfl) (by kernel_rfl) (by kernel_rfl)
      (OpenSpec.preRow_of_cond 8 hx (by kernel_rfl) (fun k hk => by cases hk) (by kernel_rfl) (laid_met os))) ?_
  intro W base args ds gs before hval hW _ _ hsz hL hsh _
  exact contract H enc W base args ds gs before hval hW hL hsz hsh
theorem said : Rows.FnExactIsCoreSaid :=
  OpenClaim.holds_of_cond 3 Tryd.f3 rfl rfl rfl rfl rfl rfl rfl ⟨rfl, rfl, rfl, rfl, rfl⟩ rfl rfl rfl rfl rfl (by kernel_rfl) Tryd.func3 (by kernel_rfl)
    (of_decide_eq_true (by kernel_rfl)) (by unfold Func.isWrapper; first | (rw [if_pos (by decide +kernel)]; kernel_rfl) | (rw [if_neg (by decide +kernel)]; exact ⟨rfl, rfl⟩))
    (fun os started H enc _ F => by rw [OpenClaim.pre_eq_preRow]; exact lifted os started H enc F)
theorem plain (f : FuncId) (fn : Func) (hf : Tryd.pinned.checked.prog.funcNamed "loop.example/g00585/laws.FnExactIsCore" = some f) (hfn : Tryd.pinned.checked.prog.funcs[f]? = some fn) :
    true = Tryd.pinned.checked.prog.looks [] ∧ ∀ (j : Nat) t, fn.params[j]? = some t → Tryd.pinned.checked.prog.wantsStandIn t = false := by
  obtain rfl : f = 3 := Option.some.inj ((show Tryd.prog.funcNamed "loop.example/g00585/laws.FnExactIsCore" = some 3 by kernel_rfl).symm.trans hf) |>.symm
  obtain rfl : fn = Tryd.f3 := (Option.some.inj (Tryd.func3.symm.trans hfn)).symm
  refine ⟨by kernel_rfl, fun j t ht => ?_⟩
  rw [Tryd.params3] at ht
  have hm : t ∈ [28] := by simpa using Array.mem_of_getElem? ht
  have hall : ([28].all fun u => !Tryd.prog.wantsStandIn u) = true := by kernel_rfl
  exact (show Tryd.prog.wantsStandIn t = false by simpa using List.all_eq_true.1 hall t hm)
theorem card : Rows.FnExactIsCoreCardSaid :=
  Claim7.holds_tied_plain_at .later [] _ _ _ _ said (fun _ h => by cases h) (by kernel_rfl) (fun _ h => by cases h) fnExactIsCore_row_tie rfl ⟨rfl, rfl⟩ (by kernel_rfl) rfl plain (by kernel_rfl)
end Go.Proofs.YteeojgefnoaajaaDoor.ExactIsCore
