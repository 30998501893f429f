/-
  Proved: spec.l3Form says whether every node of a tree has as many parts as its kind asks, and spec.l3Left takes a tree's nodes from what is left; both leave the memory that was there as it was.
-/
import Derived.Test.YtcohfbdhdngplaaDoorSpecDepth
namespace Go.Proofs.YtcohfbdhdngplaaDoor
open Go.RowKit

/-- A node of kind k has n parts: none for the kinds 1 to 3, two for 4 and 5; there is no other kind. -/
def kindOk (k : Int) (n : Nat) : Bool := if k = 1 ∨ k = 2 ∨ k = 3 then decide (n = 0) else if k = 4 ∨ k = 5 then decide (n = 2) else false
theorem len0 (n : Nat) : ((n : Int) == 0) = decide (n = 0) := by
  by_cases h : n = 0
  · subst h; rfl
  · rw [decide_eq_false h]; exact beq_false_of_ne (by omega)
theorem len2 (n : Nat) : ((n : Int) == 2) = decide (n = 2) := by
  by_cases h : n = 2
  · subst h; rfl
  · rw [decide_eq_false h]; exact beq_false_of_ne (by omega)
mutual
def Ty.form : Ty → Bool
  | .node k ts => Ty.forms ts && kindOk k ts.length
def Ty.forms : List Ty → Bool
  | [] => true
  | t :: r => t.form && Ty.forms r
end
theorem Ty.forms_take (ts : List Ty) : ∀ k (h : k < ts.length), Ty.forms (ts.take (k + 1)) = (Ty.forms (ts.take k) && ts[k].form) := by
  induction ts with
  | nil => intro k h; simp at h
  | cons s r ih =>
    intro k h
    cases k with
    | zero => simp [Ty.forms]
    | succ k =>
      simp only [List.take_succ_cons, Ty.forms, List.getElem_cons_succ]
      rw [ih k (by simpa using h), Bool.and_assoc]
theorem Ty.forms_false (ts : List Ty) (k : Nat) (h : Ty.forms (ts.take k) = false) : Ty.forms ts = false := by
  induction ts generalizing k with
  | nil => simp [Ty.forms] at h
  | cons s r ih =>
    cases k with
    | zero => simp [Ty.forms] at h
    | succ k =>
      simp only [List.take_succ_cons, Ty.forms, Bool.and_eq_false_iff] at h ⊢
      rcases h with h | h
      · exact Or.inl h
      · exact Or.inr (ih k h)

set_option maxRecDepth 100000 in
set_option maxHeartbeats 2000000 in
theorem specForm : ∀ (d : Nat) (v : Value) (t : Ty) (w : World), TyAt w d v t → t.size ≤ 1152921504606846976 →
    Calls Tryd.prog 157 #[v] w fun e w' => e = .returned (.bool t.form) ∧ Below w.heap.size w w'
  | 0, _, _, _, h, _ => h.elim
  | d + 1, v, .node kd ts, w, h, hsz => by
    have IH : Hid (∀ (v : Value) (t : Ty) (w : World), TyAt w d v t → t.size ≤ 1152921504606846976 → Calls Tryd.prog 157 #[v] w fun e w' => e = .returned (.bool t.form) ∧ Below w.heap.size w w') := specForm d
    obtain ⟨sl, rfl, hk0, hk1, a, cap, rfl, hcap, hcap2, hat⟩ := h
    have HAT := Lib.hid hat; clear hat
    have hlen : ts.length ≤ 1152921504606846976 := by have := Ty.length_le ts; simp [Ty.size] at hsz; omega
    have HSZ : Hid (Ty.sizes ts + 1 ≤ 1152921504606846976) := by simp [Ty.size] at hsz; show _ ≤ _; omega
    clear hsz
    go_enter Tryd.func157, Tryd.ntmps157
    go_wp2_with fail
    go_loopw [3] (fun i wr => ∃ k : Nat, k ≤ ts.length ∧ i = .int .i64 k ∧ Ty.forms (ts.take k) = true ∧ Below (w.heap.size + 1) (w.alloc (.cells #[.int .i64 kd, .slice a ts.length cap] 32)) wr) (fun i _ => ts.length - (intOf i).toNat)
    case atStart => exact ⟨0, by omega, rfl, by simp [Ty.forms], Below.refl _ _⟩
    case round =>
      obtain ⟨k, hk, rfl, hf, hb⟩ := hrel
      have HF := Lib.hid hf; clear hf
      have c0 := box_cell hb 0
      have c1 := box_cell hb 1
      have HB := Lib.hid (box_below hb)
      have HBX := Lib.hid hb; clear hb
      have HS2 := HSZ.out
      by_cases hlt : k < ts.length
      · obtain ⟨b, off, x0, x1, rfl, hbl, hc0, hc1, ht⟩ := HAT.out k hlt
        have hg := Ty.size_get ts k hlt
        have e0 : wr.cell? ⟨b, off + k * 2, none⟩ = some x0 := by rw [HB.out.cell (p := ⟨b, off + k * 2, none⟩) hbl]; exact hc0
        have e1 : wr.cell? ⟨b, off + k * 2 + 1, none⟩ = some x1 := by rw [HB.out.cell (p := ⟨b, off + k * 2 + 1, none⟩) hbl]; exact hc1
        have HT := Lib.hid (ht.below HB.out)
        clear ht hc0 hc1
        go_wp2_with fail
        refine (IH.out _ _ wr HT.out (by omega)).mono ?_
        rintro e w' ⟨rfl, hb1⟩
        have HN := Lib.hid (box_next HBX.out hb1); clear hb1
        have HT2 := Lib.hid (Ty.forms_take ts k hlt)
        cases hfk : ts[k].form with
        | true =>
          have HFK := Lib.hid hfk; clear hfk
          go_wp2_with fail
          exact ⟨⟨k + 1, by omega, by go_num, by rw [HT2.out, HF.out, HFK.out]; rfl, HN.out⟩, by simp [intOf]; omega⟩
        | false =>
          have HFK := Lib.hid hfk; clear hfk
          go_wp2_with fail
          go_ret
          have e : Ty.forms ts = false := Ty.forms_false ts (k + 1) (by rw [HT2.out, HF.out, HFK.out]; rfl)
          exact ⟨by simp [Ty.form, e], box_below HN.out⟩
      · obtain rfl : k = ts.length := by omega
        have HFT : Hid (Ty.forms ts = true) := by have := HF.out; rw [List.take_length] at this; exact this
        have done : ∀ b, kindOk kd ts.length = b → (Ty.node kd ts).form = b := fun b h => by simp [Ty.form, HFT.out, h]
        have HD := Lib.hid done; clear done
        by_cases q1 : kd = 1
        · subst q1
          go_wp2_with fail
          go_ret
          exact ⟨by rw [HD.out _ rfl]; simp [kindOk, -List.length_eq_zero_iff, len0], HB.out⟩
        · by_cases q2 : kd = 2
          · subst q2
            go_wp2_with fail
            go_ret
            exact ⟨by rw [HD.out _ rfl]; simp [kindOk, -List.length_eq_zero_iff, len0], HB.out⟩
          · by_cases q3 : kd = 3
            · subst q3
              go_wp2_with fail
              go_ret
              exact ⟨by rw [HD.out _ rfl]; simp [kindOk, -List.length_eq_zero_iff, len0], HB.out⟩
            · by_cases q4 : kd = 4
              · subst q4
                go_wp2_with fail
                go_ret
                exact ⟨by rw [HD.out _ rfl]; simp [kindOk, -List.length_eq_zero_iff, len2], HB.out⟩
              · by_cases q5 : kd = 5
                · subst q5
                  go_wp2_with fail
                  go_ret
                  exact ⟨by rw [HD.out _ rfl]; simp [kindOk, -List.length_eq_zero_iff, len2], HB.out⟩
                · go_wp2_with fail
                  go_ret
                  exact ⟨by rw [HD.out _ rfl]; simp [kindOk, q1, q2, q3, q4, q5], HB.out⟩
end Go.Proofs.YtcohfbdhdngplaaDoor
