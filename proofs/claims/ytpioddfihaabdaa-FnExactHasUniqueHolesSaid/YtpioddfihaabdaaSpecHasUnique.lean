/-
  Proved: spec.l10Has says whether a number is in a list; spec.HasUniqueHoles says whether the numbers of the holes and marks differ from one another; the memory that was there stays as it was.
-/
import Derived.Test.YtpioddfihaabdaaSpecHoles
import Derived.Test.YtpioddfihaabdaaHold
import Derived.Deep.RegionHeld3
import Derived.BigQuiet
import Derived.Deep.QuietTactic
namespace Go.Proofs.Ytpioddfihaabdaa
open Go.RowKit

theorem nodup_take (ns : List Int) (k : Nat) (h : k < ns.length) : (ns.take (k + 1)).Nodup ↔ (ns.take k).Nodup ∧ ns[k] ∉ ns.take k := by
  have e : ns.take (k + 1) = ns.take k ++ [ns[k]] := by rw [List.take_add_one, List.getElem?_eq_getElem h]; rfl
  rw [e, List.nodup_append]
  constructor
  · rintro ⟨h1, _, h3⟩
    exact ⟨h1, fun hm => h3 _ hm _ (by simp) rfl⟩
  · rintro ⟨h1, h2⟩
    refine ⟨h1, by simp, fun a ha b hb hab => ?_⟩
    simp only [List.mem_singleton] at hb
    subst hb
    subst hab
    exact h2 ha
theorem nodup_bad (ns : List Int) (k : Nat) (h : k < ns.length) (hm : ns[k] ∈ ns.take k) : ¬ ns.Nodup := fun hn =>
  ((nodup_take ns k h).1 (hn.sublist (List.take_sublist _ _))).2 hm
theorem drewH {B : Nat} {a w : World} (h : Below B a w) (n : Nat) : Below B a (w.drewN n) := ⟨h.os, h.tape, h.output, h.size, h.block⟩
set_option maxRecDepth 100000 in
set_option maxHeartbeats 2000000 in
theorem specHas (v : Value) (ns : List Int) (n : Int) (hn : ns.length ≤ 4194304) (w : World) (h : Ints w v ns) :
    Calls Try.prog 21 #[v, .int .i64 n] w fun e w' => e = .returned (.bool (decide (n ∈ ns))) ∧ Below w.heap.size w w' := by
  obtain ⟨a, cap, rfl, hcap, hat⟩ := h
  have HC := Lib.hid hat; clear hat
  go_enter Try.func21, Try.ntmps21
  go_wp2_with fail
  go_loopw [5] (fun i wr => ∃ k : Nat, k ≤ ns.length ∧ i = .int .i64 k ∧ n ∉ ns.take k ∧ Below w.heap.size w wr) (fun i _ => ns.length - (intOf i).toNat)
  case atStart => exact ⟨0, by omega, rfl, by simp, Below.refl _ _⟩
  case round =>
    obtain ⟨k, hk, rfl, hf, hb⟩ := hrel
    by_cases hlt : k < ns.length
    · obtain ⟨b, off, rfl, hbl, hcell⟩ := HC.out k hlt
      have c0 : wr.cell? ⟨b, off + k, none⟩ = some (.int .i64 ns[k]) := by rw [hb.cell (p := ⟨b, off + k, none⟩) hbl]; exact hcell
      have HB := Lib.hid hb; clear hb hcell
      have HNX : Hid (ns.take (k + 1) = ns.take k ++ [ns[k]]) := by show _ = _; rw [List.take_add_one, List.getElem?_eq_getElem hlt]; rfl
      have HM : Hid (ns[k] ∈ ns) := by show _ ∈ _; exact List.getElem_mem hlt
      have HF := Lib.hid hf; clear hf
      generalize ns[k] = x at c0 HNX HM
      by_cases q : x = n
      · subst q
        have HR : Hid (decide (x ∈ ns) = true) := by show _ = _; exact decide_eq_true HM.out
        clear HM HNX HF
        go_wp2_with fail
        go_ret
        exact ⟨by rw [HR.out]; rfl, HB.out⟩
      · have qb : (x == n) = false := by simp [q]
        have HQ := Lib.hid q; clear q
        go_wp2_with fail
        exact ⟨⟨k + 1, by omega, by go_num, by rw [HNX.out]; simp only [List.mem_append, List.mem_singleton, not_or]; exact ⟨HF.out, fun e => HQ.out e.symm⟩, HB.out⟩, by simp [intOf]; omega⟩
    · have hk2 : k = ns.length := by omega
      subst hk2
      rw [List.take_length] at hf
      have HR : Hid (decide (n ∈ ns) = false) := by show _ = _; exact decide_eq_false hf
      have HB := Lib.hid hb; clear hb hf
      go_wp2_with fail
      go_ret
      exact ⟨by rw [HR.out]; rfl, HB.out⟩
set_option maxRecDepth 100000 in
set_option maxHeartbeats 2000000 in
theorem specHasUnique (d : Nat) (v : Value) (t : Ex) (w : World) (h : ExAt w d v t) (hsz : t.bulk ≤ 1048576) :
    Calls Try.prog 10 #[v] w fun e w' => e = .returned (.bool (decide t.holes.Nodup)) ∧ Below w.heap.size w w' := by
  have hfew := Ex.holes_few t
  obtain ⟨ns, hns⟩ : ∃ ns, ns = t.holes := ⟨_, rfl⟩
  rw [← hns] at hfew ⊢
  have HNS := Lib.hid hns
  clear hns
  obtain ⟨k0, nm, n0, tk, ta, tn, tc, sa, sn, sc, rfl⟩ := ex_parts h
  have HB0 := Lib.hid (below_alloc w (.cells #[.int .i64 k0, .string nm, .int .i64 n0, .int .i64 tk, .slice ta tn tc, .slice sa sn sc] 35))
  have HXX := Lib.hid (h.below HB0.out)
  clear h
  go_enter Try.func10, Try.ntmps10
  go_wp2_with fail
  refine (specHoles d _ t _ HXX.out hsz).mono ?_
  rintro e w1 ⟨v1, rfl, hi, hb⟩
  rw [← HNS.out] at hi
  have HI := Lib.hid hi.ints
  obtain ⟨a, cap, rfl, hcap, hat⟩ := hi.ints
  have HB1 := Lib.hid (below_thru HB0.out (Nat.le_refl _) hb)
  clear hb hi hat HXX HB0
  go_wp2_with fail
  go_loopw [4] (fun i wr => ∃ k : Nat, k ≤ ns.length ∧ i = .int .i64 k ∧ (ns.take k).Nodup ∧ Below w1.heap.size w1 wr) (fun i _ => ns.length - (intOf i).toNat)
  case atStart => exact ⟨0, by omega, rfl, by simp, Below.refl _ _⟩
  case round =>
    obtain ⟨k, hk, rfl, hf, hb⟩ := hrel
    have HF := Lib.hid hf; clear hf
    have HBW := Lib.hid hb
    have hin := HI.out.below hb
    clear hb
    by_cases hlt : k < ns.length
    · have HN := Lib.hid (nodup_take ns k hlt)
      have HX := Lib.hid (nodup_bad ns k hlt)
      have htk : Ints wr (.slice a k cap) (ns.take k) := by
        obtain ⟨a', cap', hv, hc', hat'⟩ := hin
        injection hv with e1 e2 e3
        subst e1 e3
        refine ⟨a, cap, by rw [List.length_take]; congr 1; omega, by rw [List.length_take]; omega, fun j hj => ?_⟩
        rw [List.length_take] at hj
        obtain ⟨b, off, e, hbl, hc⟩ := hat' j (by omega)
        exact ⟨b, off, e, hbl, by rw [hc, List.getElem_take]⟩
      have hi1 := HI.out
      obtain ⟨a', cap', hv, hc', hat'⟩ := hi1
      injection hv with e1 e2 e3
      subst e1 e3
      obtain ⟨b, off, rfl, hbl, hcell⟩ := hat' k hlt
      have HC := Lib.hid hcell
      clear hat' hcell
      have HTD := Lib.hid (htk.below (below_drew wr))
      have hl4 : (ns.take k).length ≤ 4194304 := by rw [List.length_take]; omega
      have HFX := Lib.hid (nodup_take ns k hlt)
      clear htk hin
      have hi0 : (0 : Int) ≤ (k : Int) := by omega
      have hi1 : (k : Int) ≤ (cap : Int) := by omega
      go_wp2_with fail
      replace HBW := Lib.hid HBW.out.drew
      go_region_held3 (fun w' => w'.cell? ⟨b, off + k, none⟩ = some (.int .i64 ns[k]))
        (exact (HBW.out.cell (p := ⟨b, off + k, none⟩) hbl).trans HC.out)
        (first
         | (go_at_call 21
            refine (specHas _ (ns.take k) _ hl4 _ HTD.out).mono ?_
            rintro e w' ⟨he, hb1⟩
            replace HBW := Lib.hid (below_thru HBW.out (Nat.le_refl _) hb1)
            clear hb1
            subst he))
      cases hq : decide (ns[k] ∈ ns.take k) with
      | true =>
        have HR : Hid (decide ns.Nodup = false) := by show _ = _; exact decide_eq_false (HX.out (of_decide_eq_true hq))
        clear hq
        go_wp2_with fail
        go_ret
        exact ⟨by rw [HR.out]; rfl, below_thru HB1.out (Nat.le_refl _) HBW.out⟩
      | false =>
        have HK : Hid ((ns.take (k + 1)).Nodup) := HFX.out.2 ⟨HF.out, of_decide_eq_false hq⟩
        clear hq
        go_wp2_with fail
        exact ⟨⟨k + 1, by omega, by go_num, HK.out, HBW.out⟩, by simp [intOf]; omega⟩
    · have hk2 : k = ns.length := by omega
      subst hk2
      have HR : Hid (decide ns.Nodup = true) := by
        have := HF.out
        rw [List.take_length] at this
        show _ = _; exact decide_eq_true this
      go_wp2_with fail
      go_ret
      exact ⟨by rw [HR.out]; rfl, below_thru HB1.out (Nat.le_refl _) HBW.out⟩
end Go.Proofs.Ytpioddfihaabdaa
