/-
  Proved: spec.IsWithin and impl.IsWithin say whether a list of numbers starts with another one; the memory that was there stays as it was.
-/
import Derived.Test.YtpoafjbndipfeaaInts
import Derived.BigQuiet
import Derived.Deep.QuietTactic
namespace Go.Proofs.Ytpoafjbndipfeaa
open Go.RowKit

/-- Whether the list path starts with outer. -/
def leads (path outer : List Int) : Bool := decide (outer = path.take outer.length)
theorem leads_all {path outer : List Int} (hl : outer.length ≤ path.length) (h : ∀ j (h1 : j < outer.length), outer[j] = path[j]) : leads path outer = true := by
  unfold leads
  rw [decide_eq_true_eq]
  apply List.ext_getElem
  · rw [List.length_take]; omega
  · intro i h1 h2
    rw [List.getElem_take]
    exact h i h1
theorem leads_long {path outer : List Int} (h : path.length < outer.length) : leads path outer = false := by
  unfold leads
  rw [decide_eq_false_iff_not]
  intro e
  have := congrArg List.length e
  rw [List.length_take] at this
  omega
theorem leads_other {path outer : List Int} (hl : outer.length ≤ path.length) (k : Nat) (hk : k < outer.length) (h : outer[k] ≠ path[k]) : leads path outer = false := by
  unfold leads
  rw [decide_eq_false_iff_not]
  intro e
  apply h
  have : outer[k]? = (path.take outer.length)[k]? := by rw [← e]
  rw [List.getElem?_take_of_lt hk, List.getElem?_eq_getElem hk, List.getElem?_eq_getElem (by omega)] at this
  exact Option.some.inj this
set_option maxRecDepth 100000 in
set_option maxHeartbeats 1000000 in
theorem specWithin (v1 v2 : Value) (ps os : List Int) (hm : os.length ≤ 1048576) (w : World) (h1 : Ints w v1 ps) (h2 : Ints w v2 os) :
    Calls Try.prog 27 #[v1, v2] w fun e w' => e = .returned (.bool (leads ps os)) ∧ Below w.heap.size w w' := by
  obtain ⟨a1, cap1, rfl, hcap1, hat1⟩ := h1
  obtain ⟨a2, cap2, rfl, hcap2, hat2⟩ := h2
  have HC1 := Lib.hid hat1; clear hat1
  have HC2 := Lib.hid hat2; clear hat2
  by_cases hl : ps.length < os.length
  · have HF := Lib.hid (leads_long hl)
    go_enter Try.func27, Try.ntmps27
    go_wp2_with fail
    go_ret
    exact ⟨by rw [HF.out]; rfl, Below.refl _ _⟩
  go_enter Try.func27, Try.ntmps27
  go_wp2_with fail
  go_loopw [5] (fun i wr => ∃ k : Nat, k ≤ os.length ∧ i = .int .i64 k ∧ (∀ j (h1 : j < os.length) (h2 : j < ps.length), j < k → os[j] = ps[j]) ∧ Below w.heap.size w wr) (fun i _ => os.length - (intOf i).toNat)
  case atStart => exact ⟨0, by omega, rfl, fun j h1 h2 h => by omega, Below.refl _ _⟩
  case round =>
    obtain ⟨k, hk, rfl, hs, hb⟩ := hrel
    have HSM := Lib.hid hs; clear hs
    by_cases hlt : k < os.length
    · obtain ⟨b1, off1, rfl, hbl1, hcell1⟩ := HC1.out k (by omega)
      obtain ⟨b2, off2, rfl, hbl2, hcell2⟩ := HC2.out k hlt
      have c1 : wr.cell? ⟨b1, off1 + k, none⟩ = some (.int .i64 (ps[k]'(by omega))) := by rw [hb.cell (p := ⟨b1, off1 + k, none⟩) hbl1]; exact hcell1
      have c2 : wr.cell? ⟨b2, off2 + k, none⟩ = some (.int .i64 os[k]) := by rw [hb.cell (p := ⟨b2, off2 + k, none⟩) hbl2]; exact hcell2
      have HB2 := Lib.hid hb; clear hb hcell1 hcell2
      by_cases q : os[k] = ps[k]'(by omega)
      · have HN : Hid (∀ j (h1 : j < os.length) (h2 : j < ps.length), j < k + 1 → os[j] = ps[j]) := fun j h1 h2 h => by
          by_cases e : j = k
          · subst e; exact q
          · exact HSM.out j h1 h2 (by omega)
        have qb : (os[k] != ps[k]'(by omega)) = false := by simp [q]
        clear q
        go_wp2_with fail
        go_quiet (fail)
        go_wp2_with fail
        exact ⟨⟨k + 1, by omega, by go_num, HN.out, below_drewN HB2.out nq⟩, by simp [intOf]; omega⟩
      · have qb : (os[k] != ps[k]'(by omega)) = true := by simp [q]
        have HF := Lib.hid (leads_other (by omega) k hlt q)
        clear q
        go_wp2_with fail
        go_quiet (fail)
        go_wp2_with fail
        go_ret
        exact ⟨by rw [HF.out]; rfl, below_drewN HB2.out nq⟩
    · have HF := Lib.hid (leads_all (path := ps) (outer := os) (by omega) fun j h1 => HSM.out j h1 (by omega) (by omega))
      go_wp2_with fail
      go_ret
      exact ⟨by rw [HF.out]; rfl, hb⟩
set_option maxRecDepth 100000 in
set_option maxHeartbeats 1000000 in
/-- The library's comparison of two slices of numbers. -/
theorem libEqualInts (v1 v2 : Value) (ps os : List Int) (hn : ps.length ≤ 1048576) (hm : os.length ≤ 1048576) (w : World) (h1 : Ints w v1 ps) (h2 : Ints w v2 os) :
    Calls Try.prog 62 #[v1, v2] w fun e w' => e = .returned (.bool (decide (ps = os))) ∧ Below w.heap.size w w' := by
  obtain ⟨a1, cap1, rfl, hcap1, hat1⟩ := h1
  obtain ⟨a2, cap2, rfl, hcap2, hat2⟩ := h2
  have HC1 := Lib.hid hat1; clear hat1
  have HC2 := Lib.hid hat2; clear hat2
  by_cases hl : ps.length = os.length
  case neg =>
    have HF : Hid (decide (ps = os) = false) := by show _ = _; rw [decide_eq_false_iff_not]; intro e; exact hl (congrArg List.length e)
    go_enter Try.func62, Try.ntmps62
    have qb : ((ps.length : Int) != (os.length : Int)) = true := by simp; omega
    go_wp2_with fail
    go_ret
    exact ⟨by rw [HF.out]; rfl, Below.refl _ _⟩
  have qb0 : ((ps.length : Int) != (os.length : Int)) = false := by simp; omega
  go_enter Try.func62, Try.ntmps62
  go_wp2_with fail
  go_loopw [13] (fun i wr => ∃ k : Nat, k ≤ os.length ∧ i = .int .i64 k ∧ (∀ j (h1 : j < os.length) (h2 : j < ps.length), j < k → os[j] = ps[j]) ∧ Below w.heap.size w wr) (fun i _ => os.length - (intOf i).toNat)
  case atStart => exact ⟨0, by omega, rfl, fun j h1 h2 h => by omega, Below.refl _ _⟩
  case round =>
    obtain ⟨k, hk, rfl, hs, hb⟩ := hrel
    have HSM := Lib.hid hs; clear hs
    by_cases hlt : k < os.length
    · obtain ⟨b1, off1, rfl, hbl1, hcell1⟩ := HC1.out k (by omega)
      obtain ⟨b2, off2, rfl, hbl2, hcell2⟩ := HC2.out k hlt
      have c1 : wr.cell? ⟨b1, off1 + k, none⟩ = some (.int .i64 (ps[k]'(by omega))) := by rw [hb.cell (p := ⟨b1, off1 + k, none⟩) hbl1]; exact hcell1
      have c2 : wr.cell? ⟨b2, off2 + k, none⟩ = some (.int .i64 os[k]) := by rw [hb.cell (p := ⟨b2, off2 + k, none⟩) hbl2]; exact hcell2
      have HB2 := Lib.hid hb; clear hb hcell1 hcell2
      by_cases q : ps[k]'(by omega) = os[k]
      · have HN : Hid (∀ j (h1 : j < os.length) (h2 : j < ps.length), j < k + 1 → os[j] = ps[j]) := fun j h1 h2 h => by
          by_cases e : j = k
          · subst e; exact q.symm
          · exact HSM.out j h1 h2 (by omega)
        have qb : (ps[k]'(by omega) != os[k]) = false := by simp [q]
        clear q
        go_wp2_with fail
        go_quiet (fail)
        go_wp2_with fail
        exact ⟨⟨k + 1, by omega, by go_num, HN.out, below_drewN HB2.out nq⟩, by simp [intOf]; omega⟩
      · have qb : (ps[k]'(by omega) != os[k]) = true := by simp [q]
        have HF : Hid (decide (ps = os) = false) := by show _ = _; rw [decide_eq_false_iff_not]; rintro rfl; exact q rfl
        clear q
        go_wp2_with fail
        go_quiet (fail)
        go_wp2_with fail
        go_ret
        exact ⟨by rw [HF.out]; rfl, below_drewN HB2.out nq⟩
    · have HF : Hid (decide (ps = os) = true) := by
        show _ = _
        rw [decide_eq_true_eq]
        exact List.ext_getElem hl fun j h1 h2 => (HSM.out j h2 h1 (by omega)).symm
      go_wp2_with fail
      go_ret
      exact ⟨by rw [HF.out]; rfl, hb⟩
set_option maxRecDepth 100000 in
set_option maxHeartbeats 1000000 in
theorem implWithin (v1 v2 : Value) (ps os : List Int) (hm : os.length ≤ 1048576) (w : World) (h1 : Ints w v1 ps) (h2 : Ints w v2 os) :
    Calls Try.prog 28 #[v1, v2] w fun e w' => e = .returned (.bool (leads ps os)) ∧ Below w.heap.size w w' := by
  have HA : Hid (Calls Try.prog 49 #[v1, v2] w fun e w' => e = .returned (.bool (leads ps os)) ∧ Below w.heap.size w w') := by
    show Calls _ _ _ _ _
    obtain ⟨a1, cap1, rfl, hcap1, hat1⟩ := h1
    have H2 := Lib.hid h2
    obtain ⟨a2, cap2, rfl, hcap2, hat2⟩ := h2
    have HC1 := Lib.hid hat1; clear hat1 hat2
    by_cases hl : ps.length < os.length
    · have HF := Lib.hid (leads_long hl)
      go_enter Try.func49, Try.ntmps49
      go_wp2_with fail
      go_ret
      exact ⟨by rw [HF.out]; rfl, Below.refl _ _⟩
    · have hlt : (ps.take os.length).length = os.length := by rw [List.length_take]; omega
      have HT : Hid (Ints w (.slice a1 os.length cap1) (ps.take os.length)) := by
        show Ints _ _ _
        refine ⟨a1, cap1, by rw [hlt], by omega, fun j hj => ?_⟩
        obtain ⟨b, off, e, hb, hc⟩ := HC1.out j (by omega)
        exact ⟨b, off, e, hb, by rw [hc, List.getElem_take]⟩
      have HE : Hid (decide (ps.take os.length = os) = leads ps os) := by
        show _ = _
        unfold leads
        by_cases e : os = ps.take os.length
        · rw [decide_eq_true e, decide_eq_true e.symm]
        · rw [decide_eq_false e, decide_eq_false (fun h => e h.symm)]
      go_enter Try.func49, Try.ntmps49
      go_wp2_with fail
      refine (libEqualInts _ _ _ os (by omega) hm w HT.out H2.out).mono ?_
      rintro e w' ⟨rfl, hb⟩
      have HB := Lib.hid hb; clear hb
      go_wp2_with fail
      go_ret
      exact ⟨by rw [HE.out]; rfl, HB.out⟩
  clear h1 h2
  go_enter Try.func28, Try.ntmps28
  go_wp2_with fail
  refine HA.out.mono ?_
  rintro e w' ⟨rfl, hb⟩
  have HB := Lib.hid hb; clear hb
  go_wp2_with fail
  go_ret
  exact ⟨rfl, HB.out⟩
end Go.Proofs.Ytpoafjbndipfeaa
