/-
  Proved: impl.typeText gives the text of a type's tree; the memory that was there stays as it was.
-/
import Derived.Test.YtgoohelkgaklgaaText
import Derived.Test.YtgoohelkgaklgaaNodeCase
import Derived.Test.YtgoohelkgaklgaaNodeOf
import Derived.Test.YtgoohelkgaklgaaImplValid
import Derived.Deep.RegionHeld3
namespace Go.Proofs.Ytgoohelkgaklgaa
open Go.RowKit

set_option maxRecDepth 100000 in
set_option maxHeartbeats 4000000 in
theorem implText : ∀ (d : Nat) (v : Value) (t : Ty) (w : World), TyAt w d v t → t.form = true → t.size ≤ 1048577 →
    Calls Try.prog 20 #[v] w fun e w' => e = .returned (.string t.text) ∧ Below w.heap.size w w'
  | 0, _, _, _, h, _, _ => h.elim
  | d + 1, v, .node kd ts, w, h, hfm, hsz => by
    have IH : Hid (∀ (v : Value) (t : Ty) (w : World), TyAt w d v t → t.form = true → t.size ≤ 1048577 → Calls Try.prog 20 #[v] w fun e w' => e = .returned (.string t.text) ∧ Below w.heap.size w w') := implText d
    have HT := Lib.hid h
    obtain ⟨yk, ya, yn, yc, rfl⟩ := agg_parts h
    clear h
    have HF := Lib.hid hfm
    have hko : kindOk kd ts.length = true := by simp only [Ty.form, Bool.and_eq_true] at hfm; exact hfm.2
    have hlen : ts.length ≤ 1152921504606846976 := by
      have : ts.length = 0 ∨ ts.length = 2 := kind_len hko
      omega
    have HKO := Lib.hid hko
    clear hfm hko
    have B : Hid (Below w.heap.size w (w.alloc (.cells #[.int .i64 yk, .slice ya yn yc] 26))) := below_alloc _ _
    go_enter Try.func20, Try.ntmps20
    go_wp2_with fail
    refine (implNode w d _ kd ts _ HT.out B.out hlen).mono ?_
    rintro e w2 ⟨n, rfl, hnode, hb⟩
    replace B := Lib.hid (below_thru B.out (Nat.le_refl _) hb)
    have hz2 := B.out.size
    clear hb HT
    rcases hnode with ⟨h, _⟩ | ⟨_, rfl, ⟨rfl, rfl⟩ | ⟨rfl, rfl⟩ | ⟨rfl, rfl⟩⟩ | ⟨_, t1, t2, k1, s1, k2, s2, rfl, ht1, ht2, ⟨rfl, rfl⟩ | ⟨rfl, rfl⟩⟩
    · rw [HKO.out] at h; cases h
    · have as_unknown := as_unknown_unknown
      go_wp2_with fail
      go_ret
      exact ⟨rfl, (B.out.alloc (by omega) _)⟩
    · have as_unknown := as_num_unknown
      have as_num := as_num_num
      go_wp2_with fail
      go_ret
      exact ⟨rfl, (B.out.alloc (by omega) _)⟩
    · have as_unknown := as_bool_unknown
      have as_num := as_bool_num
      have as_bool := as_bool_bool
      go_wp2_with fail
      go_ret
      exact ⟨rfl, (B.out.alloc (by omega) _)⟩
    · obtain ⟨_, a1, n1, c1, _, rfl⟩ := at_parts ht1
      obtain ⟨_, a2, n2, c2, _, rfl⟩ := at_parts ht2
      have as_unknown := as_arrow_unknown (.int .i64 k1) (.slice a1 n1 c1) (.int .i64 k2) (.slice a2 n2 c2)
      have as_num := as_arrow_num (.int .i64 k1) (.slice a1 n1 c1) (.int .i64 k2) (.slice a2 n2 c2)
      have as_bool := as_arrow_bool (.int .i64 k1) (.slice a1 n1 c1) (.int .i64 k2) (.slice a2 n2 c2)
      have as_arrow := as_arrow_arrow (.int .i64 k1) (.slice a1 n1 c1) (.int .i64 k2) (.slice a2 n2 c2)
      have F1 := Lib.hid (form_two HF.out).1
      have F2 := Lib.hid (form_two HF.out).2
      have z1 := t1.text_size
      have z2 := t2.text_size
      simp only [Ty.size, Ty.sizes] at hsz
      have Z1 := Lib.hid (show t1.size ≤ 1048577 by omega)
      have Z2 := Lib.hid (show t2.size ≤ 1048577 by omega)
      have m1 : ¬ (9223372036854775807 < 1 + t1.text.size) := by omega
      have m2 : ¬ (9223372036854775807 < 1 + t1.text.size + 1) := by omega
      have m3 : ¬ (9223372036854775807 < 1 + t1.text.size + 1 + t2.text.size) := by omega
      have m4 : ¬ (9223372036854775807 < 1 + t1.text.size + 1 + t2.text.size + 1) := by omega
      clear hsz z1 z2
      have hb := below_alloc w2 (.cells #[.int .i64 k1, .slice a1 n1 c1, .int .i64 k2, .slice a2 n2 c2] 66)
      have H1 := Lib.hid (ht1.below (below_thru B.out (Nat.le_refl _) hb))
      have H2 := Lib.hid (ht2.below (below_thru B.out (Nat.le_refl _) hb))
      replace B := Lib.hid (below_thru B.out (Nat.le_refl _) hb)
      have XN : Hid (BoxAt (w2.alloc (.cells #[.int .i64 k1, .slice a1 n1 c1, .int .i64 k2, .slice a2 n2 c2] 66)) w2.heap.size #[.int .i64 k1, .slice a1 n1 c1, .int .i64 k2, .slice a2 n2 c2]) := BoxAt.new _ _ _
      clear hb ht1 ht2
      go_wp2_with fail
      have hb := below_drew (w2.alloc (.cells #[.int .i64 k1, .slice a1 n1 c1, .int .i64 k2, .slice a2 n2 c2] 66))
      replace B := Lib.hid (below_thru B.out (Nat.le_refl _) hb)
      replace H1 := Lib.hid (H1.out.below hb)
      replace H2 := Lib.hid (H2.out.below hb)
      replace XN := Lib.hid (XN.out.below hb)
      clear hb
      go_region_held3 (fun w' => w'.cell? ⟨w2.heap.size, 0, none⟩ = some (.int .i64 k1) ∧ w'.cell? ⟨w2.heap.size, 1, none⟩ = some (.slice a1 n1 c1) ∧ w'.cell? ⟨w2.heap.size, 2, none⟩ = some (.int .i64 k2) ∧ w'.cell? ⟨w2.heap.size, 3, none⟩ = some (.slice a2 n2 c2)) (exact ⟨XN.out.2 0, XN.out.2 1, XN.out.2 2, XN.out.2 3⟩)
        (first
         | (go_at_call_of 20 (Value.agg #[Value.int IntKind.i64 k1, Value.slice a1 n1 c1])
            refine (IH.out _ t1 _ H1.out F1.out Z1.out).mono ?_
            rintro e w3 ⟨rfl, hb⟩
            replace B := Lib.hid (below_thru B.out (Nat.le_refl _) hb)
            replace H1 := Lib.hid (H1.out.below hb)
            replace H2 := Lib.hid (H2.out.below hb)
            replace XN := Lib.hid (XN.out.below hb)
            clear hb)
         | (go_at_call_of 20 (Value.agg #[Value.int IntKind.i64 k2, Value.slice a2 n2 c2])
            refine (IH.out _ t2 _ H2.out F2.out Z2.out).mono ?_
            rintro e w4 ⟨rfl, hb⟩
            replace B := Lib.hid (below_thru B.out (Nat.le_refl _) hb)
            replace H1 := Lib.hid (H1.out.below hb)
            replace H2 := Lib.hid (H2.out.below hb)
            replace XN := Lib.hid (XN.out.below hb)
            clear hb))
      go_wp2_with fail
      go_ret
      exact ⟨by rw [Ty.text_arrow]; rfl, B.out⟩
    · obtain ⟨_, a1, n1, c1, _, rfl⟩ := at_parts ht1
      obtain ⟨_, a2, n2, c2, _, rfl⟩ := at_parts ht2
      have as_unknown := as_pair_unknown (.int .i64 k1) (.slice a1 n1 c1) (.int .i64 k2) (.slice a2 n2 c2)
      have as_num := as_pair_num (.int .i64 k1) (.slice a1 n1 c1) (.int .i64 k2) (.slice a2 n2 c2)
      have as_bool := as_pair_bool (.int .i64 k1) (.slice a1 n1 c1) (.int .i64 k2) (.slice a2 n2 c2)
      have as_arrow := as_pair_arrow (.int .i64 k1) (.slice a1 n1 c1) (.int .i64 k2) (.slice a2 n2 c2)
      have as_pair := as_pair_pair (.int .i64 k1) (.slice a1 n1 c1) (.int .i64 k2) (.slice a2 n2 c2)
      have F1 := Lib.hid (form_two HF.out).1
      have F2 := Lib.hid (form_two HF.out).2
      have z1 := t1.text_size
      have z2 := t2.text_size
      simp only [Ty.size, Ty.sizes] at hsz
      have Z1 := Lib.hid (show t1.size ≤ 1048577 by omega)
      have Z2 := Lib.hid (show t2.size ≤ 1048577 by omega)
      have m1 : ¬ (9223372036854775807 < 1 + t1.text.size) := by omega
      have m2 : ¬ (9223372036854775807 < 1 + t1.text.size + 1) := by omega
      have m3 : ¬ (9223372036854775807 < 1 + t1.text.size + 1 + t2.text.size) := by omega
      have m4 : ¬ (9223372036854775807 < 1 + t1.text.size + 1 + t2.text.size + 1) := by omega
      clear hsz z1 z2
      have hb := below_alloc w2 (.cells #[.int .i64 k1, .slice a1 n1 c1, .int .i64 k2, .slice a2 n2 c2] 68)
      have H1 := Lib.hid (ht1.below (below_thru B.out (Nat.le_refl _) hb))
      have H2 := Lib.hid (ht2.below (below_thru B.out (Nat.le_refl _) hb))
      replace B := Lib.hid (below_thru B.out (Nat.le_refl _) hb)
      have XN : Hid (BoxAt (w2.alloc (.cells #[.int .i64 k1, .slice a1 n1 c1, .int .i64 k2, .slice a2 n2 c2] 68)) w2.heap.size #[.int .i64 k1, .slice a1 n1 c1, .int .i64 k2, .slice a2 n2 c2]) := BoxAt.new _ _ _
      clear hb ht1 ht2
      go_wp2_with fail
      have hb := below_drew (w2.alloc (.cells #[.int .i64 k1, .slice a1 n1 c1, .int .i64 k2, .slice a2 n2 c2] 68))
      replace B := Lib.hid (below_thru B.out (Nat.le_refl _) hb)
      replace H1 := Lib.hid (H1.out.below hb)
      replace H2 := Lib.hid (H2.out.below hb)
      replace XN := Lib.hid (XN.out.below hb)
      clear hb
      go_region_held3 (fun w' => w'.cell? ⟨w2.heap.size, 0, none⟩ = some (.int .i64 k1) ∧ w'.cell? ⟨w2.heap.size, 1, none⟩ = some (.slice a1 n1 c1) ∧ w'.cell? ⟨w2.heap.size, 2, none⟩ = some (.int .i64 k2) ∧ w'.cell? ⟨w2.heap.size, 3, none⟩ = some (.slice a2 n2 c2)) (exact ⟨XN.out.2 0, XN.out.2 1, XN.out.2 2, XN.out.2 3⟩)
        (first
         | (go_at_call_of 20 (Value.agg #[Value.int IntKind.i64 k1, Value.slice a1 n1 c1])
            refine (IH.out _ t1 _ H1.out F1.out Z1.out).mono ?_
            rintro e w3 ⟨rfl, hb⟩
            replace B := Lib.hid (below_thru B.out (Nat.le_refl _) hb)
            replace H1 := Lib.hid (H1.out.below hb)
            replace H2 := Lib.hid (H2.out.below hb)
            replace XN := Lib.hid (XN.out.below hb)
            clear hb)
         | (go_at_call_of 20 (Value.agg #[Value.int IntKind.i64 k2, Value.slice a2 n2 c2])
            refine (IH.out _ t2 _ H2.out F2.out Z2.out).mono ?_
            rintro e w4 ⟨rfl, hb⟩
            replace B := Lib.hid (below_thru B.out (Nat.le_refl _) hb)
            replace H1 := Lib.hid (H1.out.below hb)
            replace H2 := Lib.hid (H2.out.below hb)
            replace XN := Lib.hid (XN.out.below hb)
            clear hb))
      go_wp2_with fail
      go_ret
      exact ⟨by rw [Ty.text_pair]; rfl, B.out⟩
end Go.Proofs.Ytgoohelkgaklgaa
