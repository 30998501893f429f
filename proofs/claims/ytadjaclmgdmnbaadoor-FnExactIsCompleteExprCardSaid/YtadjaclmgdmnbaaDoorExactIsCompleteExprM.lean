/-
  Proved: the law FnExactIsCompleteExpr: for every expression, impl.IsCompleteExpr returns the same as the reference and changes no argument.
-/
import Derived.Test.YtadjaclmgdmnbaaDoorInts
import Derived.Test.YtadjaclmgdmnbaaDoorHold
import Derived.Test.YtadjaclmgdmnbaaDoorExNum
import Derived.Test.YtadjaclmgdmnbaaDoorSzExpr
import Derived.Maps.AppendAt
import Derived.Test.YtadjaclmgdmnbaaDoorExForm
import Derived.Test.YtadjaclmgdmnbaaDoorSpecKnown
import Derived.Test.YtadjaclmgdmnbaaDoorSpecExForm
import Derived.Test.YtadjaclmgdmnbaaDoorImplKnown
import Derived.Test.YtadjaclmgdmnbaaDoorSpecExValid
import Derived.Test.YtadjaclmgdmnbaaDoorExWithin
import Derived.Test.YtadjaclmgdmnbaaDoorToExpr
import Derived.Test.YtadjaclmgdmnbaaDoorEqExpr
import Derived.Test.YtadjaclmgdmnbaaDoorTab
import Derived.Deep.RegionHeld3
import Derived.Test.YtadjaclmgdmnbaaDoorCards
import Derived.Test.YtadjaclmgdmnbaaDoorTie
import Derived.Test.YtadjaclmgdmnbaaDoorLaw
import Derived.Deep.DeepHandedRow
import Derived.Lib.LaidTab
import Derived.LaidMore
import Derived.Test.YtadjaclmgdmnbaaDoorExprArg
import Derived.Test.YtadjaclmgdmnbaaDoorLawVars
import Derived.ChangeVars
/-
  Proved: plain facts: of the old memory only a row's own block has changed.
-/
namespace Go.Proofs.YtadjaclmgdmnbaaDoor
open Go.RowKit

/-- Of the old blocks only that of the slice v has changed. -/
def OnlyOwn (v : Value) (w w' : World) : Prop := w.heap.size ≤ w'.heap.size ∧ ∀ b, b < w.heap.size → v.ownBlock ≠ some b → w'.heap[b]? = w.heap[b]?
theorem OnlyOwn.refl (v : Value) (w : World) : OnlyOwn v w w := ⟨Nat.le_refl _, fun _ _ _ => rfl⟩

end Go.Proofs.YtadjaclmgdmnbaaDoor
/-
  Proved: plain facts on rows of numbers that own their block, with the block's bounds.
-/
namespace Go.Proofs.YtadjaclmgdmnbaaDoor
open Go.RowKit

def IntsIn (w : World) (v : Value) (ns : List Int) (lo hi : Nat) : Prop :=
  w.ownsRow lo 3 1 v ns.length (ns.map (Value.int IntKind.i64)) ∧ (∀ k, v.ownBlock = some k → k < hi) ∧ hi ≤ w.heap.size
theorem own_keeps {w w' : World} {B : Nat} {e : TypeId} {size : Nat} {v : Value} {n : Nat} {xs : List Value} (h : w.ownsRow B e size v n xs) (hk : ∀ k, v.ownBlock = some k → w'.heap[k]? = w.heap[k]?) : w'.ownsRow B e size v n xs := by
  refine ⟨h.1, ?_⟩
  rcases h.2 with h | ⟨g, cap, cur, rfl, r1, r2, r3⟩
  · exact Or.inl h
  · exact Or.inr ⟨g, cap, cur, rfl, r1, by rw [hk g rfl]; exact r2, r3⟩
theorem IntsIn.of {w0 w : World} {v : Value} {ns : List Int} (h : w.ownsRow w0.heap.size 3 1 v ns.length (ns.map (Value.int IntKind.i64))) {lo : Nat} (hlo : lo ≤ w0.heap.size) : IntsIn w v ns lo w.heap.size := by
  refine ⟨?_, fun k hk => (h.lt k hk).2, Nat.le_refl _⟩
  refine ⟨h.1, ?_⟩
  rcases h.2 with h | ⟨g, cap, cur, rfl, r1, r2⟩
  · exact Or.inl h
  · exact Or.inr ⟨g, cap, cur, rfl, Nat.le_trans hlo r1, r2⟩
theorem IntsIn.ints {w : World} {v : Value} {ns : List Int} {lo hi : Nat} (h : IntsIn w v ns lo hi) : Ints w v ns := Ints.of_own h.1
theorem IntsIn.below {w w' : World} {v : Value} {ns : List Int} {lo hi : Nat} (h : IntsIn w v ns lo hi) (hb : Below w.heap.size w w') : IntsIn w' v ns lo hi :=
  ⟨own_keeps h.1 fun k hk => hb.block k (h.1.lt k hk).2, h.2.1, Nat.le_trans h.2.2 hb.size⟩
end Go.Proofs.YtadjaclmgdmnbaaDoor
/-
  Proved: plain facts on the numbers of the holes and marks of an expression.
-/
namespace Go.Proofs.YtadjaclmgdmnbaaDoor
open Go.RowKit

mutual
/-- The numbers of the holes and marks, in the order of the text. -/
def Ex.holes : Ex → List Int
  | .node k _ n _ es => (if k = 1 ∨ k = 14 then [n] else []) ++ Ex.holess es
def Ex.holess : List Ex → List Int
  | [] => []
  | e :: r => e.holes ++ Ex.holess r
end
theorem Ex.holess_take (es : List Ex) : ∀ k (h : k < es.length), Ex.holess (es.take (k + 1)) = Ex.holess (es.take k) ++ es[k].holes := by
  induction es with
  | nil => intro k h; simp at h
  | cons s r ih =>
    intro k h
    cases k with
    | zero => simp [Ex.holess]
    | succ k =>
      simp only [List.take_succ_cons, Ex.holess, List.getElem_cons_succ]
      rw [ih k (by simpa using h), List.append_assoc]
mutual
theorem Ex.holes_few : ∀ e : Ex, e.holes.length ≤ 1 + e.bulk
  | .node k nm n ty es => by have := Ex.holess_few es; simp only [Ex.holes, Ex.bulk, List.length_append]; split <;> simp <;> omega
theorem Ex.holess_few : ∀ es : List Ex, (Ex.holess es).length ≤ Ex.bulks es
  | [] => Nat.le_refl _
  | e :: r => by have := Ex.holes_few e; have := Ex.holess_few r; simp only [Ex.holess, Ex.bulks, List.length_append]; omega
end
theorem Ex.holess_part (es : List Ex) (k : Nat) : (Ex.holess (es.take k)).length ≤ Ex.bulks es := Nat.le_trans (Ex.holess_few _) (Ex.bulks_le es k)
theorem news_int (w : World) (x : Value) (t : TypeId) : ∀ j u, [x][j]? = some u → (w.alloc (.cells #[x] t)).cell? ((⟨w.heap.size, 0, none⟩ : Addr).add j) = some u := by
  intro j u hj
  match j, hj with
  | 0, hj =>
    simp at hj
    subst hj
    simp [Addr.add]
theorem news_at (w : World) (x : Value) (t : TypeId) (p : Nat) (hp : p = w.heap.size) : ∀ j u, [x][j]? = some u → (w.alloc (.cells #[x] t)).cell? ((⟨p, 0, none⟩ : Addr).add j) = some u := by
  subst hp; exact news_int w x t
theorem news_row {w : World} {B g n cap : Nat} {e : TypeId} {xs : List Value} (h : w.ownsRow B e 1 (.slice (some ⟨g, 0, none⟩) n cap) n xs) : ∀ j u, xs[j]? = some u → w.cell? ((⟨g, 0, none⟩ : Addr).add j) = some u := by
  intro j u hj
  have hl : j < xs.length := (List.getElem?_eq_some_iff.1 hj).1
  have h1 := h.1
  rw [addr_add, Nat.zero_add, h.cellAt j (by omega)]
  exact hj
theorem ints_one (ns : List Int) : ∀ u ∈ ns.map (Value.int IntKind.i64), u.oneCell' = true := by
  intro u hu
  obtain ⟨x, _, rfl⟩ := List.mem_map.1 hu
  simp [Value.oneCell']
end Go.Proofs.YtadjaclmgdmnbaaDoor
/-
  Proved: spec.HolesIn lists the numbers of the holes and marks of an expression, in new memory; the memory that was there stays as it was.
-/
namespace Go.Proofs.YtadjaclmgdmnbaaDoor
open Go.RowKit

theorem own_base {w : World} {B B' : Nat} {e : TypeId} {size : Nat} {v : Value} {n : Nat} {xs : List Value} (h : w.ownsRow B' e size v n xs) (hB : B ≤ B') : w.ownsRow B e size v n xs := by
  refine ⟨h.1, ?_⟩
  rcases h.2 with h | ⟨g, cap, cur, rfl, r1, r2⟩
  · exact Or.inl h
  · exact Or.inr ⟨g, cap, cur, rfl, Nat.le_trans hB r1, r2⟩
set_option maxRecDepth 100000 in
set_option maxHeartbeats 4000000 in
theorem specHolesOf : ∀ (d : Nat) (v : Value) (t : Ex) (w : World), ExAt w d v t → t.bulk ≤ 1048576 → Calls Tryd.prog 36 #[v] w fun e w' => ∃ g cp, e = .returned (.slice (some ⟨g, 0, none⟩) t.holes.length cp) ∧ IntsIn w' (.slice (some ⟨g, 0, none⟩) t.holes.length cp) t.holes w.heap.size w'.heap.size ∧ Below w.heap.size w w'
  | 0, _, _, _, h, _ => h.elim
  | d + 1, v, .node kd nm n ty es, w, h, hsz => by
    have IH : Hid (∀ (v : Value) (t : Ex) (w : World), ExAt w d v t → t.bulk ≤ 1048576 → Calls Tryd.prog 36 #[v] w fun e w' => ∃ g cp, e = .returned (.slice (some ⟨g, 0, none⟩) t.holes.length cp) ∧ IntsIn w' (.slice (some ⟨g, 0, none⟩) t.holes.length cp) t.holes w.heap.size w'.heap.size ∧ Below w.heap.size w w') := specHolesOf d
    have HV := ex_parts h
    obtain ⟨c3, c4, sl, rfl, hk0, hk1, hn0, hn1, hnm, hty, a, cap, rfl, hcap, hcap2, hat⟩ := h
    obtain ⟨k', nm', n', tk, ta, tn, tc, sa, sn, sc, hv⟩ := HV
    injection hv with hv
    injection hv with hv
    simp at hv
    obtain ⟨rfl, rfl, rfl, rfl, rfl, rfl, rfl, rfl⟩ := hv
    have HAT := Lib.hid hat; clear hat
    have hbk : (Ex.node kd nm n ty es).bulk = nm.size + (ty.size - 1) + Ex.bulks es := rfl
    have HSZ : Hid (Ex.bulks es ≤ 1048576) := by show _ ≤ _; omega
    have HNM : Hid (nm.size ≤ 1048576) := by show _ ≤ _; omega
    have HTZ : Hid (ty.size ≤ 1048577) := by show _ ≤ _; omega
    have hlen : es.length ≤ 1048576 := by have := Ex.length_le es; omega
    clear hsz hbk hty
    obtain ⟨i0, hi, hz0, hz1, hz2⟩ := info_parts info_i
    have HI := Lib.hid hi; clear hi
    have HZ0 := Lib.hid hz0; clear hz0
    have HZ1 := Lib.hid hz1; clear hz1
    have HZ2 := Lib.hid hz2; clear hz2
    by_cases q : kd = 1 ∨ kd = 14
    · rcases q with q | q
      · subst q
        have HFH : Hid ((Ex.node 1 nm n ty es).holes = [n] ++ Ex.holess es) := by show _ = _; simp [Ex.holes]
        have HST : Hid (((w.alloc (.cells #[.int .i64 1, .string nm, .int .i64 n, .int .i64 tk, .slice ta tn tc, .slice a es.length cap] 35)).alloc (.cells #[] 3)).ownsRow (w.heap.size + 1) 3 1 (.slice (some ⟨w.heap.size + 1, 0, none⟩) 0 0) 0 []) := by
          have := World.ownsRow_made (base := w.heap.size + 1) (e := 3) (size := 1) (w.alloc (.cells #[.int .i64 1, .string nm, .int .i64 n, .int .i64 tk, .slice ta tn tc, .slice a es.length cap] 35)) #[] 0 (by simp) (Nat.zero_le _) rfl
          rw [World.size_alloc] at this
          exact this
        have HSB : Hid (Below (w.heap.size + 1) (w.alloc (.cells #[.int .i64 1, .string nm, .int .i64 n, .int .i64 tk, .slice ta tn tc, .slice a es.length cap] 35)) ((w.alloc (.cells #[.int .i64 1, .string nm, .int .i64 n, .int .i64 tk, .slice ta tn tc, .slice a es.length cap] 35)).alloc (.cells #[] 3))) := (Below.refl _ _).alloc (by simp) _
        go_enter Tryd.func36, Tryd.ntmps36
        go_wp2_with (at_builtin; go_must (refine wpList_append_own_at _ rfl _ _ 58 rfl (w.heap.size + 1) 3 i0 (.int .i64 0) 1 8 Tryd.underlying58 HI.out HZ0.out HZ1.out HZ2.out rfl (by decide) _ _ _ rfl (HST.out.alloc _) ⟨w.heap.size + 1 + 1, 0, none⟩ 1 1 [.int .i64 n] rfl rfl (news_at _ _ _ _ (by simp)) (by simp [Value.oneCell']) (by unfold maxLen; omega) (by omega) (by simp) ?_); intro v2 w2 hown2 hg2 hnn2 hblk2; refine Hid.out ?_)
        refine Lib.hid ?_
        have hN2 : Below (w.heap.size + 1) (w.alloc (.cells #[.int .i64 1, .string nm, .int .i64 n, .int .i64 tk, .slice ta tn tc, .slice a es.length cap] 35)) w2 := (HSB.out.alloc (by simp) _).grown hg2 (by simp) (fun b hb => (HST.out.lt b hb).1)
        rcases hown2.2 with ⟨rfl, _⟩ | ⟨g3, cp3, cur, hv2, hrest⟩
        · exact absurd (hnn2.1 rfl).1 (fun h => by injection h with h; cases h)
        have hv3 : v2 = .slice (some ⟨g3, 0, none⟩) 1 cp3 := hv2
        clear hv2
        subst hv3
        clear HST HSB
        have hst : w2.ownsRow (w.heap.size + 1) 3 1 (.slice (some ⟨g3, 0, none⟩) 1 cp3) 1 [.int .i64 n] := by simpa using hown2
        have HST := Lib.hid hst
        have HSB := Lib.hid hN2
        clear hown2 hst hg2 hnn2 hblk2 hrest hN2
        go_wp2_with fail
        go_loopw [3, 4] (fun o i wr => ∃ (k g cp : Nat) (L : List Int), k ≤ es.length ∧ i = .int .i64 k ∧ o = .slice (some ⟨g, 0, none⟩) L.length cp ∧ wr.ownsRow (w.heap.size + 1) 3 1 (.slice (some ⟨g, 0, none⟩) L.length cp) L.length (L.map (Value.int IntKind.i64)) ∧ L = [n] ++ Ex.holess (es.take k) ∧ Below (w.heap.size + 1) (w.alloc (.cells #[.int .i64 1, .string nm, .int .i64 n, .int .i64 tk, .slice ta tn tc, .slice a es.length cap] 35)) wr) (fun _ i _ => es.length - (intOf i).toNat)
        case atStart => exact ⟨0, g3, cp3, [n], by omega, rfl, rfl, HST.out, by simp [Ex.holess], HSB.out⟩
        case round =>
          obtain ⟨k, g, cp, L, hk, rfl, rfl, hown, hL, hb⟩ := hrel
          have b5 := box_cell hb 5
          have HO := Lib.hid hown; clear hown
          have HB := Lib.hid (box_below hb)
          have HBX := Lib.hid hb; clear hb
          have HS2 := HSZ.out
          have hpart := Ex.holess_part es k
          have hll : L.length ≤ 1 + 1048576 := by rw [hL]; simp; omega
          have HL := Lib.hid hL; clear hL
          by_cases hlt : k < es.length
          · obtain ⟨b, off, x0, x1, x2, x3, x4, x5, rfl, hbl, hc0, hc1, hc2, hc3, hc4, hc5, ht⟩ := HAT.out k hlt
            have hg := Ex.bulk_get es k hlt
            have e0 : wr.cell? ⟨b, off + k * 6, none⟩ = some (x0) := by rw [HB.out.cell (p := ⟨b, off + k * 6, none⟩) hbl]; exact hc0
            have e1 : wr.cell? ⟨b, off + k * 6 + 1, none⟩ = some (x1) := by rw [HB.out.cell (p := ⟨b, off + k * 6 + 1, none⟩) hbl]; exact hc1
            have e2 : wr.cell? ⟨b, off + k * 6 + 2, none⟩ = some (x2) := by rw [HB.out.cell (p := ⟨b, off + k * 6 + 2, none⟩) hbl]; exact hc2
            have e3 : wr.cell? ⟨b, off + k * 6 + 3, none⟩ = some (x3) := by rw [HB.out.cell (p := ⟨b, off + k * 6 + 3, none⟩) hbl]; exact hc3
            have e4 : wr.cell? ⟨b, off + k * 6 + 4, none⟩ = some (x4) := by rw [HB.out.cell (p := ⟨b, off + k * 6 + 4, none⟩) hbl]; exact hc4
            have e5 : wr.cell? ⟨b, off + k * 6 + 5, none⟩ = some (x5) := by rw [HB.out.cell (p := ⟨b, off + k * 6 + 5, none⟩) hbl]; exact hc5
            have HT := Lib.hid (ht.below HB.out)
            clear ht hc0 hc1 hc2 hc3 hc4 hc5
            have hp2 : Ex.bulk es[k] ≤ 1048576 := by omega
            have hfew := Ex.holes_few es[k]
            go_wp2_with fail
            refine (IH.out _ _ _ HT.out (by omega)).mono ?_
            rintro e w1 ⟨g1, cp1, rfl, hi1, hb1⟩
            have HI1 := Lib.hid hi1.1
            have HO1 := Lib.hid (own_below HO.out hb1)
            have HN := Lib.hid (box_next HBX.out hb1)
            have hz1b := hb1.size
            have hz1c := HN.out.size
            simp only [World.size_alloc] at hz1c
            clear hi1 hb1
            go_wp2_with (at_builtin; go_must (refine wpList_append_own_at _ rfl _ _ 58 rfl (w.heap.size + 1) 3 i0 (.int .i64 0) 1 8 Tryd.underlying58 HI.out HZ0.out HZ1.out HZ2.out rfl (by decide) _ _ _ rfl (HO1.out) ⟨g1, 0, none⟩ es[k].holes.length cp1 (es[k].holes.map (Value.int IntKind.i64)) rfl (by simp) (news_row HI1.out) (ints_one _) (by unfold maxLen; omega) (by omega) (by omega) ?_); intro v2 w2 hown2 hg2 hnn2 hblk2; refine Hid.out ?_)
            refine Lib.hid ?_
            have hN2 := HN.out.grown hg2 (by omega) (fun b hb => (HO1.out.lt b hb).1)
            rcases hown2.2 with ⟨rfl, _⟩ | ⟨g3, cp3, cur, rfl, hrest⟩
            · exact absurd (hnn2.1 rfl).1 (fun h => by injection h with h; cases h)
            have HT2 := Lib.hid (Ex.holess_take es k hlt)
            have hlen2 : L.length + es[k].holes.length = (L ++ es[k].holes).length := by simp
            have hmap2 : L.map (Value.int IntKind.i64) ++ es[k].holes.map (Value.int IntKind.i64) = (L ++ es[k].holes).map (Value.int IntKind.i64) := by simp
            rw [hlen2, hmap2] at hown2
            have HO2 := Lib.hid hown2
            have HN2 := Lib.hid hN2
            have HL2 : Hid (L ++ es[k].holes = [n] ++ Ex.holess (es.take (k + 1))) := by show _ = _; rw [HL.out, HT2.out, List.append_assoc]
            clear hown2 hg2 hnn2 hblk2 hrest hN2 hmap2 hz1b hz1c
            go_wp2_with fail
            exact ⟨⟨k + 1, g3, cp3, L ++ es[k].holes, by omega, by go_num, by first | rfl | simp, HO2.out, HL2.out, HN2.out⟩, by simp [intOf]; omega⟩
          · obtain rfl : k = es.length := by omega
            have hfin : (Ex.node 1 nm n ty es).holes = L := by rw [HFH.out, HL.out, List.take_length]
            have HFN := Lib.hid hfin; clear hfin
            go_wp2_with fail
            go_ret
            rw [HFN.out]
            exact ⟨g, cp, rfl, ⟨own_base HO.out (by omega), fun b hb => (HO.out.lt b hb).2, Nat.le_refl _⟩, HB.out⟩
      · subst q
        have HFH : Hid ((Ex.node 14 nm n ty es).holes = [n] ++ Ex.holess es) := by show _ = _; simp [Ex.holes]
        have HST : Hid (((w.alloc (.cells #[.int .i64 14, .string nm, .int .i64 n, .int .i64 tk, .slice ta tn tc, .slice a es.length cap] 35)).alloc (.cells #[] 3)).ownsRow (w.heap.size + 1) 3 1 (.slice (some ⟨w.heap.size + 1, 0, none⟩) 0 0) 0 []) := by
          have := World.ownsRow_made (base := w.heap.size + 1) (e := 3) (size := 1) (w.alloc (.cells #[.int .i64 14, .string nm, .int .i64 n, .int .i64 tk, .slice ta tn tc, .slice a es.length cap] 35)) #[] 0 (by simp) (Nat.zero_le _) rfl
          rw [World.size_alloc] at this
          exact this
        have HSB : Hid (Below (w.heap.size + 1) (w.alloc (.cells #[.int .i64 14, .string nm, .int .i64 n, .int .i64 tk, .slice ta tn tc, .slice a es.length cap] 35)) ((w.alloc (.cells #[.int .i64 14, .string nm, .int .i64 n, .int .i64 tk, .slice ta tn tc, .slice a es.length cap] 35)).alloc (.cells #[] 3))) := (Below.refl _ _).alloc (by simp) _
        go_enter Tryd.func36, Tryd.ntmps36
        go_wp2_with (at_builtin; go_must (refine wpList_append_own_at _ rfl _ _ 58 rfl (w.heap.size + 1) 3 i0 (.int .i64 0) 1 8 Tryd.underlying58 HI.out HZ0.out HZ1.out HZ2.out rfl (by decide) _ _ _ rfl (HST.out.alloc _) ⟨w.heap.size + 1 + 1, 0, none⟩ 1 1 [.int .i64 n] rfl rfl (news_at _ _ _ _ (by simp)) (by simp [Value.oneCell']) (by unfold maxLen; omega) (by omega) (by simp) ?_); intro v2 w2 hown2 hg2 hnn2 hblk2; refine Hid.out ?_)
        refine Lib.hid ?_
        have hN2 : Below (w.heap.size + 1) (w.alloc (.cells #[.int .i64 14, .string nm, .int .i64 n, .int .i64 tk, .slice ta tn tc, .slice a es.length cap] 35)) w2 := (HSB.out.alloc (by simp) _).grown hg2 (by simp) (fun b hb => (HST.out.lt b hb).1)
        rcases hown2.2 with ⟨rfl, _⟩ | ⟨g3, cp3, cur, hv2, hrest⟩
        · exact absurd (hnn2.1 rfl).1 (fun h => by injection h with h; cases h)
        have hv3 : v2 = .slice (some ⟨g3, 0, none⟩) 1 cp3 := hv2
        clear hv2
        subst hv3
        clear HST HSB
        have hst : w2.ownsRow (w.heap.size + 1) 3 1 (.slice (some ⟨g3, 0, none⟩) 1 cp3) 1 [.int .i64 n] := by simpa using hown2
        have HST := Lib.hid hst
        have HSB := Lib.hid hN2
        clear hown2 hst hg2 hnn2 hblk2 hrest hN2
        go_wp2_with fail
        go_loopw [3, 4] (fun o i wr => ∃ (k g cp : Nat) (L : List Int), k ≤ es.length ∧ i = .int .i64 k ∧ o = .slice (some ⟨g, 0, none⟩) L.length cp ∧ wr.ownsRow (w.heap.size + 1) 3 1 (.slice (some ⟨g, 0, none⟩) L.length cp) L.length (L.map (Value.int IntKind.i64)) ∧ L = [n] ++ Ex.holess (es.take k) ∧ Below (w.heap.size + 1) (w.alloc (.cells #[.int .i64 14, .string nm, .int .i64 n, .int .i64 tk, .slice ta tn tc, .slice a es.length cap] 35)) wr) (fun _ i _ => es.length - (intOf i).toNat)
        case atStart => exact ⟨0, g3, cp3, [n], by omega, rfl, rfl, HST.out, by simp [Ex.holess], HSB.out⟩
        case round =>
          obtain ⟨k, g, cp, L, hk, rfl, rfl, hown, hL, hb⟩ := hrel
          have b5 := box_cell hb 5
          have HO := Lib.hid hown; clear hown
          have HB := Lib.hid (box_below hb)
          have HBX := Lib.hid hb; clear hb
          have HS2 := HSZ.out
          have hpart := Ex.holess_part es k
          have hll : L.length ≤ 1 + 1048576 := by rw [hL]; simp; omega
          have HL := Lib.hid hL; clear hL
          by_cases hlt : k < es.length
          · obtain ⟨b, off, x0, x1, x2, x3, x4, x5, rfl, hbl, hc0, hc1, hc2, hc3, hc4, hc5, ht⟩ := HAT.out k hlt
            have hg := Ex.bulk_get es k hlt
            have e0 : wr.cell? ⟨b, off + k * 6, none⟩ = some (x0) := by rw [HB.out.cell (p := ⟨b, off + k * 6, none⟩) hbl]; exact hc0
            have e1 : wr.cell? ⟨b, off + k * 6 + 1, none⟩ = some (x1) := by rw [HB.out.cell (p := ⟨b, off + k * 6 + 1, none⟩) hbl]; exact hc1
            have e2 : wr.cell? ⟨b, off + k * 6 + 2, none⟩ = some (x2) := by rw [HB.out.cell (p := ⟨b, off + k * 6 + 2, none⟩) hbl]; exact hc2
            have e3 : wr.cell? ⟨b, off + k * 6 + 3, none⟩ = some (x3) := by rw [HB.out.cell (p := ⟨b, off + k * 6 + 3, none⟩) hbl]; exact hc3
            have e4 : wr.cell? ⟨b, off + k * 6 + 4, none⟩ = some (x4) := by rw [HB.out.cell (p := ⟨b, off + k * 6 + 4, none⟩) hbl]; exact hc4
            have e5 : wr.cell? ⟨b, off + k * 6 + 5, none⟩ = some (x5) := by rw [HB.out.cell (p := ⟨b, off + k * 6 + 5, none⟩) hbl]; exact hc5
            have HT := Lib.hid (ht.below HB.out)
            clear ht hc0 hc1 hc2 hc3 hc4 hc5
            have hp2 : Ex.bulk es[k] ≤ 1048576 := by omega
            have hfew := Ex.holes_few es[k]
            go_wp2_with fail
            refine (IH.out _ _ _ HT.out (by omega)).mono ?_
            rintro e w1 ⟨g1, cp1, rfl, hi1, hb1⟩
            have HI1 := Lib.hid hi1.1
            have HO1 := Lib.hid (own_below HO.out hb1)
            have HN := Lib.hid (box_next HBX.out hb1)
            have hz1b := hb1.size
            have hz1c := HN.out.size
            simp only [World.size_alloc] at hz1c
            clear hi1 hb1
            go_wp2_with (at_builtin; go_must (refine wpList_append_own_at _ rfl _ _ 58 rfl (w.heap.size + 1) 3 i0 (.int .i64 0) 1 8 Tryd.underlying58 HI.out HZ0.out HZ1.out HZ2.out rfl (by decide) _ _ _ rfl (HO1.out) ⟨g1, 0, none⟩ es[k].holes.length cp1 (es[k].holes.map (Value.int IntKind.i64)) rfl (by simp) (news_row HI1.out) (ints_one _) (by unfold maxLen; omega) (by omega) (by omega) ?_); intro v2 w2 hown2 hg2 hnn2 hblk2; refine Hid.out ?_)
            refine Lib.hid ?_
            have hN2 := HN.out.grown hg2 (by omega) (fun b hb => (HO1.out.lt b hb).1)
            rcases hown2.2 with ⟨rfl, _⟩ | ⟨g3, cp3, cur, rfl, hrest⟩
            · exact absurd (hnn2.1 rfl).1 (fun h => by injection h with h; cases h)
            have HT2 := Lib.hid (Ex.holess_take es k hlt)
            have hlen2 : L.length + es[k].holes.length = (L ++ es[k].holes).length := by simp
            have hmap2 : L.map (Value.int IntKind.i64) ++ es[k].holes.map (Value.int IntKind.i64) = (L ++ es[k].holes).map (Value.int IntKind.i64) := by simp
            rw [hlen2, hmap2] at hown2
            have HO2 := Lib.hid hown2
            have HN2 := Lib.hid hN2
            have HL2 : Hid (L ++ es[k].holes = [n] ++ Ex.holess (es.take (k + 1))) := by show _ = _; rw [HL.out, HT2.out, List.append_assoc]
            clear hown2 hg2 hnn2 hblk2 hrest hN2 hmap2 hz1b hz1c
            go_wp2_with fail
            exact ⟨⟨k + 1, g3, cp3, L ++ es[k].holes, by omega, by go_num, by first | rfl | simp, HO2.out, HL2.out, HN2.out⟩, by simp [intOf]; omega⟩
          · obtain rfl : k = es.length := by omega
            have hfin : (Ex.node 14 nm n ty es).holes = L := by rw [HFH.out, HL.out, List.take_length]
            have HFN := Lib.hid hfin; clear hfin
            go_wp2_with fail
            go_ret
            rw [HFN.out]
            exact ⟨g, cp, rfl, ⟨own_base HO.out (by omega), fun b hb => (HO.out.lt b hb).2, Nat.le_refl _⟩, HB.out⟩
    · have qb1 : (kd == 1) = false := by simp; omega
      have qb14 : (kd == 14) = false := by simp; omega
      have HFH : Hid ((Ex.node kd nm n ty es).holes = [] ++ Ex.holess es) := by show _ = _; simp [Ex.holes, q]
      have HST : Hid (((w.alloc (.cells #[.int .i64 kd, .string nm, .int .i64 n, .int .i64 tk, .slice ta tn tc, .slice a es.length cap] 35)).alloc (.cells #[] 3)).ownsRow (w.heap.size + 1) 3 1 (.slice (some ⟨w.heap.size + 1, 0, none⟩) 0 0) 0 []) := by
        have := World.ownsRow_made (base := w.heap.size + 1) (e := 3) (size := 1) (w.alloc (.cells #[.int .i64 kd, .string nm, .int .i64 n, .int .i64 tk, .slice ta tn tc, .slice a es.length cap] 35)) #[] 0 (by simp) (Nat.zero_le _) rfl
        rw [World.size_alloc] at this
        exact this
      have HSB : Hid (Below (w.heap.size + 1) (w.alloc (.cells #[.int .i64 kd, .string nm, .int .i64 n, .int .i64 tk, .slice ta tn tc, .slice a es.length cap] 35)) ((w.alloc (.cells #[.int .i64 kd, .string nm, .int .i64 n, .int .i64 tk, .slice ta tn tc, .slice a es.length cap] 35)).alloc (.cells #[] 3))) := (Below.refl _ _).alloc (by simp) _
      go_enter Tryd.func36, Tryd.ntmps36
      go_wp2_with fail
      go_loopw [3, 4] (fun o i wr => ∃ (k g cp : Nat) (L : List Int), k ≤ es.length ∧ i = .int .i64 k ∧ o = .slice (some ⟨g, 0, none⟩) L.length cp ∧ wr.ownsRow (w.heap.size + 1) 3 1 (.slice (some ⟨g, 0, none⟩) L.length cp) L.length (L.map (Value.int IntKind.i64)) ∧ L = [] ++ Ex.holess (es.take k) ∧ Below (w.heap.size + 1) (w.alloc (.cells #[.int .i64 kd, .string nm, .int .i64 n, .int .i64 tk, .slice ta tn tc, .slice a es.length cap] 35)) wr) (fun _ i _ => es.length - (intOf i).toNat)
      case atStart => exact ⟨0, w.heap.size + 1, 0, [], by omega, rfl, rfl, HST.out, by simp [Ex.holess], HSB.out⟩
      case round =>
        obtain ⟨k, g, cp, L, hk, rfl, rfl, hown, hL, hb⟩ := hrel
        have b5 := box_cell hb 5
        have HO := Lib.hid hown; clear hown
        have HB := Lib.hid (box_below hb)
        have HBX := Lib.hid hb; clear hb
        have HS2 := HSZ.out
        have hpart := Ex.holess_part es k
        have hll : L.length ≤ 1 + 1048576 := by rw [hL]; simp; omega
        have HL := Lib.hid hL; clear hL
        by_cases hlt : k < es.length
        · obtain ⟨b, off, x0, x1, x2, x3, x4, x5, rfl, hbl, hc0, hc1, hc2, hc3, hc4, hc5, ht⟩ := HAT.out k hlt
          have hg := Ex.bulk_get es k hlt
          have e0 : wr.cell? ⟨b, off + k * 6, none⟩ = some (x0) := by rw [HB.out.cell (p := ⟨b, off + k * 6, none⟩) hbl]; exact hc0
          have e1 : wr.cell? ⟨b, off + k * 6 + 1, none⟩ = some (x1) := by rw [HB.out.cell (p := ⟨b, off + k * 6 + 1, none⟩) hbl]; exact hc1
          have e2 : wr.cell? ⟨b, off + k * 6 + 2, none⟩ = some (x2) := by rw [HB.out.cell (p := ⟨b, off + k * 6 + 2, none⟩) hbl]; exact hc2
          have e3 : wr.cell? ⟨b, off + k * 6 + 3, none⟩ = some (x3) := by rw [HB.out.cell (p := ⟨b, off + k * 6 + 3, none⟩) hbl]; exact hc3
          have e4 : wr.cell? ⟨b, off + k * 6 + 4, none⟩ = some (x4) := by rw [HB.out.cell (p := ⟨b, off + k * 6 + 4, none⟩) hbl]; exact hc4
          have e5 : wr.cell? ⟨b, off + k * 6 + 5, none⟩ = some (x5) := by rw [HB.out.cell (p := ⟨b, off + k * 6 + 5, none⟩) hbl]; exact hc5
          have HT := Lib.hid (ht.below HB.out)
          clear ht hc0 hc1 hc2 hc3 hc4 hc5
          have hp2 : Ex.bulk es[k] ≤ 1048576 := by omega
          have hfew := Ex.holes_few es[k]
          go_wp2_with fail
          refine (IH.out _ _ _ HT.out (by omega)).mono ?_
          rintro e w1 ⟨g1, cp1, rfl, hi1, hb1⟩
          have HI1 := Lib.hid hi1.1
          have HO1 := Lib.hid (own_below HO.out hb1)
          have HN := Lib.hid (box_next HBX.out hb1)
          have hz1b := hb1.size
          have hz1c := HN.out.size
          simp only [World.size_alloc] at hz1c
          clear hi1 hb1
          go_wp2_with (at_builtin; go_must (refine wpList_append_own_at _ rfl _ _ 58 rfl (w.heap.size + 1) 3 i0 (.int .i64 0) 1 8 Tryd.underlying58 HI.out HZ0.out HZ1.out HZ2.out rfl (by decide) _ _ _ rfl (HO1.out) ⟨g1, 0, none⟩ es[k].holes.length cp1 (es[k].holes.map (Value.int IntKind.i64)) rfl (by simp) (news_row HI1.out) (ints_one _) (by unfold maxLen; omega) (by omega) (by omega) ?_); intro v2 w2 hown2 hg2 hnn2 hblk2; refine Hid.out ?_)
          refine Lib.hid ?_
          have hN2 := HN.out.grown hg2 (by omega) (fun b hb => (HO1.out.lt b hb).1)
          rcases hown2.2 with ⟨rfl, _⟩ | ⟨g3, cp3, cur, rfl, hrest⟩
          · exact absurd (hnn2.1 rfl).1 (fun h => by injection h with h; cases h)
          have HT2 := Lib.hid (Ex.holess_take es k hlt)
          have hlen2 : L.length + es[k].holes.length = (L ++ es[k].holes).length := by simp
          have hmap2 : L.map (Value.int IntKind.i64) ++ es[k].holes.map (Value.int IntKind.i64) = (L ++ es[k].holes).map (Value.int IntKind.i64) := by simp
          rw [hlen2, hmap2] at hown2
          have HO2 := Lib.hid hown2
          have HN2 := Lib.hid hN2
          have HL2 : Hid (L ++ es[k].holes = [] ++ Ex.holess (es.take (k + 1))) := by show _ = _; rw [HL.out, HT2.out, List.append_assoc]
          clear hown2 hg2 hnn2 hblk2 hrest hN2 hmap2 hz1b hz1c
          go_wp2_with fail
          exact ⟨⟨k + 1, g3, cp3, L ++ es[k].holes, by omega, by go_num, by first | rfl | simp, HO2.out, HL2.out, HN2.out⟩, by simp [intOf]; omega⟩
        · obtain rfl : k = es.length := by omega
          have hfin : (Ex.node kd nm n ty es).holes = L := by rw [HFH.out, HL.out, List.take_length]
          have HFN := Lib.hid hfin; clear hfin
          go_wp2_with fail
          go_ret
          rw [HFN.out]
          exact ⟨g, cp, rfl, ⟨own_base HO.out (by omega), fun b hb => (HO.out.lt b hb).2, Nat.le_refl _⟩, HB.out⟩
theorem specHoles (d : Nat) (v : Value) (t : Ex) (w : World) (h : ExAt w d v t) (hsz : t.bulk ≤ 1048576) :
    Calls Tryd.prog 36 #[v] w fun e w' => ∃ v, e = .returned v ∧ IntsIn w' v t.holes w.heap.size w'.heap.size ∧ Below w.heap.size w w' :=
  (specHolesOf d v t w h hsz).mono fun _ _ ⟨_, _, he, hi, hb⟩ => ⟨_, he, hi, hb⟩
end Go.Proofs.YtadjaclmgdmnbaaDoor
/-
  Proved: impl.appendHoles appends the numbers of the holes and marks of an expression to a row of the call's own, and impl.HolesIn lists them in new memory; no other memory that was there changes.
-/
namespace Go.Proofs.YtadjaclmgdmnbaaDoor
open Go.RowKit

/-- What appending ends in: the row has grown by the numbers; of old memory only its block has changed. -/
def AppEnd (B : Nat) (v0 : Value) (ns : List Int) (t : Ex) (w : World) (e : Ending) (w' : World) : Prop :=
  ∃ v, e = .returned v ∧ w'.ownsRow B 3 1 v (ns ++ t.holes).length ((ns ++ t.holes).map (Value.int IntKind.i64)) ∧ Below B w w' ∧ OnlyOwn v0 w w' ∧ (v.ownBlock = v0.ownBlock ∨ ∀ k, v.ownBlock = some k → w.heap.size ≤ k)
set_option maxRecDepth 100000 in
set_option maxHeartbeats 4000000 in
theorem implAppHoles : ∀ (d : Nat) (B : Nat) (v0 v : Value) (ns : List Int) (t : Ex) (w0 w : World), ExAt w0 d v t → Below w0.heap.size w0 w → w0.heap.size ≤ B → B ≤ w.heap.size → ns.length + t.bulk ≤ 2097152 → w.ownsRow B 3 1 v0 ns.length (ns.map (Value.int IntKind.i64)) → Calls Tryd.prog 53 #[v0, v] w (AppEnd B v0 ns t w)
  | 0, _, _, _, _, _, _, _, h, _, _, _, _, _ => h.elim
  | d + 1, B, v0, v, ns, .node kd nm n ty es, w0, w, h, hw0, hB0, hBw, hnb, hown => by
    have IH : Hid (∀ (B : Nat) (v0 v : Value) (ns : List Int) (t : Ex) (w0 w : World), ExAt w0 d v t → Below w0.heap.size w0 w → w0.heap.size ≤ B → B ≤ w.heap.size → ns.length + t.bulk ≤ 2097152 → w.ownsRow B 3 1 v0 ns.length (ns.map (Value.int IntKind.i64)) → Calls Tryd.prog 53 #[v0, v] w (AppEnd B v0 ns t w)) := implAppHoles d
    have hsz : (Ex.node kd nm n ty es).bulk ≤ 2097152 := by omega
    have HV := ex_parts h
    obtain ⟨c3, c4, sl, rfl, hk0, hk1, hn0, hn1, hnm, hty, a, cap, rfl, hcap, hcap2, hat⟩ := h
    obtain ⟨k', nm', n', tk, ta, tn, tc, sa, sn, sc, hv⟩ := HV
    injection hv with hv
    injection hv with hv
    simp at hv
    obtain ⟨rfl, rfl, rfl, rfl, rfl, rfl, rfl, rfl⟩ := hv
    have HAT := Lib.hid hat; clear hat
    have hbk : (Ex.node kd nm n ty es).bulk = nm.size + (ty.size - 1) + Ex.bulks es := rfl
    have HSZ : Hid (Ex.bulks es ≤ 2097152) := by show _ ≤ _; omega
    have HNM : Hid (nm.size ≤ 2097152) := by show _ ≤ _; omega
    have HTZ : Hid (ty.size ≤ 2097153) := by show _ ≤ _; omega
    have hlen : es.length ≤ 2097152 := by have := Ex.length_le es; omega
    have hnb2 : ns.length + Ex.bulks es ≤ 2097152 := by omega
    clear hsz hbk hty hnb
    obtain ⟨i0, hi, hz0, hz1, hz2⟩ := info_parts info_i
    have HI := Lib.hid hi; clear hi
    have HZ0 := Lib.hid hz0; clear hz0
    have HZ1 := Lib.hid hz1; clear hz1
    have HZ2 := Lib.hid hz2; clear hz2
    have HW0 := Lib.hid hw0; clear hw0
    have HOWN := Lib.hid hown; clear hown
    by_cases q : kd = 1 ∨ kd = 14
    · rcases q with q | q
      · subst q
        have HFH : Hid (ns ++ (Ex.node 1 nm n ty es).holes = ns ++ [n] ++ Ex.holess es) := by show _ = _; simp [Ex.holes]
        have HX0 : Hid (BoxAt (w.alloc (.cells #[.int .i64 1, .string nm, .int .i64 n, .int .i64 tk, .slice ta tn tc, .slice a es.length cap] 35)) w.heap.size #[.int .i64 1, .string nm, .int .i64 n, .int .i64 tk, .slice ta tn tc, .slice a es.length cap]) := BoxAt.new _ _ _
        have HBa : Hid (Below B w (w.alloc (.cells #[.int .i64 1, .string nm, .int .i64 n, .int .i64 tk, .slice ta tn tc, .slice a es.length cap] 35))) := (Below.refl _ _).alloc hBw _
        have HOa := Lib.hid (own_below HOWN.out (below_alloc w (.cells #[.int .i64 1, .string nm, .int .i64 n, .int .i64 tk, .slice ta tn tc, .slice a es.length cap] 35)))
        have HNS : Hid ((ns ++ [n]).length + Ex.bulks es ≤ 2097153) := by show _ ≤ _; simp; omega
        have hnl : ns.length ≤ 2097152 := by omega
        go_enter Tryd.func53, Tryd.ntmps53
        go_wp2_with (at_builtin; go_must (refine wpList_append_own_at _ rfl _ _ 58 rfl (B) 3 i0 (.int .i64 0) 1 8 Tryd.underlying58 HI.out HZ0.out HZ1.out HZ2.out rfl (by decide) _ _ _ rfl (HOa.out.alloc _) ⟨w.heap.size + 1, 0, none⟩ 1 1 [.int .i64 n] rfl rfl (news_at _ _ _ _ (by simp)) (by simp [Value.oneCell']) (by unfold maxLen; omega) (by omega) (by simp; omega) ?_); intro v2 w2 hown2 hg2 _ hblk2; refine Hid.out ?_)
        refine Lib.hid ?_
        have hz2 := hg2.size
        simp only [World.size_alloc] at hz2
        have hown2b : w2.ownsRow B 3 1 v2 (ns ++ [n]).length ((ns ++ [n]).map (Value.int IntKind.i64)) := by simpa using hown2
        have HST := Lib.hid hown2b
        have HSB := Lib.hid ((HBa.out.alloc (by simp; omega) _).grown hg2 (by simp; omega) (fun b hb => (HOa.out.lt b hb).1))
        have HSO : Hid (OnlyOwn v0 w w2) := ⟨by omega, fun c c1 c2 => by rw [hg2.block c (by simp; omega) (fun e => c2 e.symm), heap_alloc_old _ _ (by simp; omega), heap_alloc_old _ _ (by omega)]⟩
        have HSV : Hid (v2.ownBlock = v0.ownBlock ∨ ∀ b, v2.ownBlock = some b → w.heap.size ≤ b) := by
          rcases hblk2 with h | h
          · exact Or.inl h
          · exact Or.inr fun c hc => by rw [h] at hc; simp at hc; omega
        have hvn : v0.ownBlock ≠ some w.heap.size := fun e => by have := (HOWN.out.lt _ e).2; omega
        have HSN : Hid (v2.ownBlock ≠ some w.heap.size) := by
          rcases hblk2 with h | h
          · rw [h]; exact hvn
          · rw [h]; intro e; simp at e <;> omega
        have HSX := Lib.hid (BoxAt.kept (HX0.out.below (below_alloc _ (.cells #[.int .i64 n] 3))) hg2.size (hg2.block _ (by simp; omega) (fun e => hvn e.symm)))
        clear hown2 hown2b hg2 hblk2 hz2
        have b5 := HSX.out.2 5
        go_wp2_with fail
        go_loopw [0, 23] (fun o i wr => ∃ (k : Nat), k ≤ es.length ∧ i = .int .i64 k ∧ wr.ownsRow B 3 1 o (ns ++ [n] ++ Ex.holess (es.take k)).length ((ns ++ [n] ++ Ex.holess (es.take k)).map (Value.int IntKind.i64)) ∧ Below B w wr ∧ OnlyOwn v0 w wr ∧ (o.ownBlock = v0.ownBlock ∨ ∀ b, o.ownBlock = some b → w.heap.size ≤ b) ∧ o.ownBlock ≠ some w.heap.size ∧ BoxAt wr w.heap.size #[.int .i64 1, .string nm, .int .i64 n, .int .i64 tk, .slice ta tn tc, .slice a es.length cap]) (fun _ i _ => es.length - (intOf i).toNat)
        case atStart => exact ⟨0, by omega, rfl, by simpa [Ex.holess] using HST.out, HSB.out, HSO.out, HSV.out, HSN.out, HSX.out⟩
        case round =>
          obtain ⟨k, hk, rfl, hown, hb, hoo, hov, hon, hbx⟩ := hrel
          have b5 := hbx.2 5
          have HO := Lib.hid hown
          have HB := Lib.hid hb
          have HOO := Lib.hid hoo
          have HOV := Lib.hid hov
          have HON := Lib.hid hon
          have HX := Lib.hid hbx
          clear hown hb hoo hov hon hbx
          have HS2 := HSZ.out
          have hpart := Ex.holess_part es k
          by_cases hlt : k < es.length
          · obtain ⟨b, off, x0, x1, x2, x3, x4, x5, rfl, hbl, hc0, hc1, hc2, hc3, hc4, hc5, ht⟩ := HAT.out k hlt
            have hg := Ex.bulk_get es k hlt
            obtain ⟨yk, ynm, yn, ytk, yta, ytn, ytc, ya, ym, yc, rfl, rfl, rfl, rfl, rfl, rfl⟩ := ex_cells ht
            have HB0 : Hid (Below w0.heap.size w0 wr) := HW0.out.trans (HB.out.mono hB0)
            have g0 : wr.cell? ⟨b, off + k * 6, none⟩ = some (.int .i64 yk) := by rw [HB0.out.cell (p := ⟨b, off + k * 6, none⟩) hbl]; exact hc0
            have g1 : wr.cell? ⟨b, off + k * 6 + 1, none⟩ = some (.string ynm) := by rw [HB0.out.cell (p := ⟨b, off + k * 6 + 1, none⟩) hbl]; exact hc1
            have g2 : wr.cell? ⟨b, off + k * 6 + 2, none⟩ = some (.int .i64 yn) := by rw [HB0.out.cell (p := ⟨b, off + k * 6 + 2, none⟩) hbl]; exact hc2
            have g3 : wr.cell? ⟨b, off + k * 6 + 3, none⟩ = some (.int .i64 ytk) := by rw [HB0.out.cell (p := ⟨b, off + k * 6 + 3, none⟩) hbl]; exact hc3
            have g4 : wr.cell? ⟨b, off + k * 6 + 4, none⟩ = some (.slice yta ytn ytc) := by rw [HB0.out.cell (p := ⟨b, off + k * 6 + 4, none⟩) hbl]; exact hc4
            have g5 : wr.cell? ⟨b, off + k * 6 + 5, none⟩ = some (.slice ya ym yc) := by rw [HB0.out.cell (p := ⟨b, off + k * 6 + 5, none⟩) hbl]; exact hc5
            have HT := Lib.hid ht
            clear ht hc0 hc1 hc2 hc3 hc4 hc5
            have hzr : w.heap.size ≤ wr.heap.size := HB.out.size
            have HB0b := Lib.hid (HB0.out.alloc HB0.out.size (.cells #[.int .i64 yk, .string ynm, .int .i64 yn, .int .i64 ytk, .slice yta ytn ytc, .slice ya ym yc] 35))
            have HOb := Lib.hid (own_below HO.out (below_alloc wr (.cells #[.int .i64 yk, .string ynm, .int .i64 yn, .int .i64 ytk, .slice yta ytn ytc, .slice ya ym yc] 35)))
            have HXb := Lib.hid (HX.out.below (below_alloc wr (.cells #[.int .i64 yk, .string ynm, .int .i64 yn, .int .i64 ytk, .slice yta ytn ytc, .slice ya ym yc] 35)))
            have hll : (ns ++ [n] ++ Ex.holess (es.take k)).length + es[k].bulk ≤ 2097152 := by have h1 := Ex.holess_few (es.take k); have h2 := Ex.bulks_take es k hlt; have h3 := Ex.bulks_le es (k + 1); have h4 := HNS.out; simp at h4 ⊢; omega
            go_wp2_with fail
            refine (IH.out B _ _ _ es[k] w0 (wr.alloc (.cells #[.int .i64 yk, .string ynm, .int .i64 yn, .int .i64 ytk, .slice yta ytn ytc, .slice ya ym yc] 35)) HT.out HB0b.out hB0 (by simp; omega) hll HOb.out).mono ?_
            rintro e w3 ⟨v3, rfl, hown3, hb3, hoo3, hov3⟩
            have HX3 := Lib.hid (BoxAt.kept HXb.out hoo3.1 (hoo3.2 _ HXb.out.1 HON.out))
            have HT2 := Lib.hid (Ex.holess_take es k hlt)
            have e3 : ns ++ [n] ++ Ex.holess (es.take k) ++ es[k].holes = ns ++ [n] ++ Ex.holess (es.take (k + 1)) := by rw [HT2.out, List.append_assoc]
            rw [e3] at hown3
            have HO3 := Lib.hid hown3
            have HB3 := Lib.hid ((HB.out.alloc (by omega) (.cells #[.int .i64 yk, .string ynm, .int .i64 yn, .int .i64 ytk, .slice yta ytn ytc, .slice ya ym yc] 35)).trans hb3)
            have hz3 := hoo3.1
            simp only [World.size_alloc] at hz3
            have HOO3 : Hid (OnlyOwn v0 w w3) := by
              refine ⟨by omega, fun c c1 c2 => ?_⟩
              have c3 : c < (wr.alloc (.cells #[.int .i64 yk, .string ynm, .int .i64 yn, .int .i64 ytk, .slice yta ytn ytc, .slice ya ym yc] 35)).heap.size := by simp; omega
              rw [hoo3.2 c c3 ?_, heap_alloc_old _ _ (by omega)]
              · exact HOO.out.2 c c1 c2
              · intro e
                rcases HOV.out with h | h
                · rw [h] at e; exact c2 e
                · have := h c e; omega
            have HOV3 : Hid (v3.ownBlock = v0.ownBlock ∨ ∀ b, v3.ownBlock = some b → w.heap.size ≤ b) := by
              rcases hov3 with h | h
              · rw [h]; exact HOV.out
              · exact Or.inr fun c hc => by have := h c hc; simp at this; omega
            have HON3 : Hid (v3.ownBlock ≠ some w.heap.size) := by
              rcases hov3 with h | h
              · rw [h]; exact HON.out
              · intro e; have := h _ e; simp at this; omega
            clear hown3 hb3 hoo3 hov3 e3 hz3
            go_wp2_with fail
            exact ⟨⟨k + 1, by omega, by go_num, HO3.out, HB3.out, HOO3.out, HOV3.out, HON3.out, HX3.out⟩, by simp [intOf]; omega⟩
          · obtain rfl : k = es.length := by omega
            have hfin := HO.out
            rw [List.take_length] at hfin
            have HF := Lib.hid hfin; clear hfin
            go_wp2_with fail
            go_ret
            refine ⟨_, rfl, ?_, HB.out, HOO.out, HOV.out⟩
            rw [HFH.out]
            exact HF.out
      · subst q
        have HFH : Hid (ns ++ (Ex.node 14 nm n ty es).holes = ns ++ [n] ++ Ex.holess es) := by show _ = _; simp [Ex.holes]
        have HX0 : Hid (BoxAt (w.alloc (.cells #[.int .i64 14, .string nm, .int .i64 n, .int .i64 tk, .slice ta tn tc, .slice a es.length cap] 35)) w.heap.size #[.int .i64 14, .string nm, .int .i64 n, .int .i64 tk, .slice ta tn tc, .slice a es.length cap]) := BoxAt.new _ _ _
        have HBa : Hid (Below B w (w.alloc (.cells #[.int .i64 14, .string nm, .int .i64 n, .int .i64 tk, .slice ta tn tc, .slice a es.length cap] 35))) := (Below.refl _ _).alloc hBw _
        have HOa := Lib.hid (own_below HOWN.out (below_alloc w (.cells #[.int .i64 14, .string nm, .int .i64 n, .int .i64 tk, .slice ta tn tc, .slice a es.length cap] 35)))
        have HNS : Hid ((ns ++ [n]).length + Ex.bulks es ≤ 2097153) := by show _ ≤ _; simp; omega
        have hnl : ns.length ≤ 2097152 := by omega
        go_enter Tryd.func53, Tryd.ntmps53
        go_wp2_with (at_builtin; go_must (refine wpList_append_own_at _ rfl _ _ 58 rfl (B) 3 i0 (.int .i64 0) 1 8 Tryd.underlying58 HI.out HZ0.out HZ1.out HZ2.out rfl (by decide) _ _ _ rfl (HOa.out.alloc _) ⟨w.heap.size + 1, 0, none⟩ 1 1 [.int .i64 n] rfl rfl (news_at _ _ _ _ (by simp)) (by simp [Value.oneCell']) (by unfold maxLen; omega) (by omega) (by simp; omega) ?_); intro v2 w2 hown2 hg2 _ hblk2; refine Hid.out ?_)
        refine Lib.hid ?_
        have hz2 := hg2.size
        simp only [World.size_alloc] at hz2
        have hown2b : w2.ownsRow B 3 1 v2 (ns ++ [n]).length ((ns ++ [n]).map (Value.int IntKind.i64)) := by simpa using hown2
        have HST := Lib.hid hown2b
        have HSB := Lib.hid ((HBa.out.alloc (by simp; omega) _).grown hg2 (by simp; omega) (fun b hb => (HOa.out.lt b hb).1))
        have HSO : Hid (OnlyOwn v0 w w2) := ⟨by omega, fun c c1 c2 => by rw [hg2.block c (by simp; omega) (fun e => c2 e.symm), heap_alloc_old _ _ (by simp; omega), heap_alloc_old _ _ (by omega)]⟩
        have HSV : Hid (v2.ownBlock = v0.ownBlock ∨ ∀ b, v2.ownBlock = some b → w.heap.size ≤ b) := by
          rcases hblk2 with h | h
          · exact Or.inl h
          · exact Or.inr fun c hc => by rw [h] at hc; simp at hc; omega
        have hvn : v0.ownBlock ≠ some w.heap.size := fun e => by have := (HOWN.out.lt _ e).2; omega
        have HSN : Hid (v2.ownBlock ≠ some w.heap.size) := by
          rcases hblk2 with h | h
          · rw [h]; exact hvn
          · rw [h]; intro e; simp at e <;> omega
        have HSX := Lib.hid (BoxAt.kept (HX0.out.below (below_alloc _ (.cells #[.int .i64 n] 3))) hg2.size (hg2.block _ (by simp; omega) (fun e => hvn e.symm)))
        clear hown2 hown2b hg2 hblk2 hz2
        have b5 := HSX.out.2 5
        go_wp2_with fail
        go_loopw [0, 23] (fun o i wr => ∃ (k : Nat), k ≤ es.length ∧ i = .int .i64 k ∧ wr.ownsRow B 3 1 o (ns ++ [n] ++ Ex.holess (es.take k)).length ((ns ++ [n] ++ Ex.holess (es.take k)).map (Value.int IntKind.i64)) ∧ Below B w wr ∧ OnlyOwn v0 w wr ∧ (o.ownBlock = v0.ownBlock ∨ ∀ b, o.ownBlock = some b → w.heap.size ≤ b) ∧ o.ownBlock ≠ some w.heap.size ∧ BoxAt wr w.heap.size #[.int .i64 14, .string nm, .int .i64 n, .int .i64 tk, .slice ta tn tc, .slice a es.length cap]) (fun _ i _ => es.length - (intOf i).toNat)
        case atStart => exact ⟨0, by omega, rfl, by simpa [Ex.holess] using HST.out, HSB.out, HSO.out, HSV.out, HSN.out, HSX.out⟩
        case round =>
          obtain ⟨k, hk, rfl, hown, hb, hoo, hov, hon, hbx⟩ := hrel
          have b5 := hbx.2 5
          have HO := Lib.hid hown
          have HB := Lib.hid hb
          have HOO := Lib.hid hoo
          have HOV := Lib.hid hov
          have HON := Lib.hid hon
          have HX := Lib.hid hbx
          clear hown hb hoo hov hon hbx
          have HS2 := HSZ.out
          have hpart := Ex.holess_part es k
          by_cases hlt : k < es.length
          · obtain ⟨b, off, x0, x1, x2, x3, x4, x5, rfl, hbl, hc0, hc1, hc2, hc3, hc4, hc5, ht⟩ := HAT.out k hlt
            have hg := Ex.bulk_get es k hlt
            obtain ⟨yk, ynm, yn, ytk, yta, ytn, ytc, ya, ym, yc, rfl, rfl, rfl, rfl, rfl, rfl⟩ := ex_cells ht
            have HB0 : Hid (Below w0.heap.size w0 wr) := HW0.out.trans (HB.out.mono hB0)
            have g0 : wr.cell? ⟨b, off + k * 6, none⟩ = some (.int .i64 yk) := by rw [HB0.out.cell (p := ⟨b, off + k * 6, none⟩) hbl]; exact hc0
            have g1 : wr.cell? ⟨b, off + k * 6 + 1, none⟩ = some (.string ynm) := by rw [HB0.out.cell (p := ⟨b, off + k * 6 + 1, none⟩) hbl]; exact hc1
            have g2 : wr.cell? ⟨b, off + k * 6 + 2, none⟩ = some (.int .i64 yn) := by rw [HB0.out.cell (p := ⟨b, off + k * 6 + 2, none⟩) hbl]; exact hc2
            have g3 : wr.cell? ⟨b, off + k * 6 + 3, none⟩ = some (.int .i64 ytk) := by rw [HB0.out.cell (p := ⟨b, off + k * 6 + 3, none⟩) hbl]; exact hc3
            have g4 : wr.cell? ⟨b, off + k * 6 + 4, none⟩ = some (.slice yta ytn ytc) := by rw [HB0.out.cell (p := ⟨b, off + k * 6 + 4, none⟩) hbl]; exact hc4
            have g5 : wr.cell? ⟨b, off + k * 6 + 5, none⟩ = some (.slice ya ym yc) := by rw [HB0.out.cell (p := ⟨b, off + k * 6 + 5, none⟩) hbl]; exact hc5
            have HT := Lib.hid ht
            clear ht hc0 hc1 hc2 hc3 hc4 hc5
            have hzr : w.heap.size ≤ wr.heap.size := HB.out.size
            have HB0b := Lib.hid (HB0.out.alloc HB0.out.size (.cells #[.int .i64 yk, .string ynm, .int .i64 yn, .int .i64 ytk, .slice yta ytn ytc, .slice ya ym yc] 35))
            have HOb := Lib.hid (own_below HO.out (below_alloc wr (.cells #[.int .i64 yk, .string ynm, .int .i64 yn, .int .i64 ytk, .slice yta ytn ytc, .slice ya ym yc] 35)))
            have HXb := Lib.hid (HX.out.below (below_alloc wr (.cells #[.int .i64 yk, .string ynm, .int .i64 yn, .int .i64 ytk, .slice yta ytn ytc, .slice ya ym yc] 35)))
            have hll : (ns ++ [n] ++ Ex.holess (es.take k)).length + es[k].bulk ≤ 2097152 := by have h1 := Ex.holess_few (es.take k); have h2 := Ex.bulks_take es k hlt; have h3 := Ex.bulks_le es (k + 1); have h4 := HNS.out; simp at h4 ⊢; omega
            go_wp2_with fail
            refine (IH.out B _ _ _ es[k] w0 (wr.alloc (.cells #[.int .i64 yk, .string ynm, .int .i64 yn, .int .i64 ytk, .slice yta ytn ytc, .slice ya ym yc] 35)) HT.out HB0b.out hB0 (by simp; omega) hll HOb.out).mono ?_
            rintro e w3 ⟨v3, rfl, hown3, hb3, hoo3, hov3⟩
            have HX3 := Lib.hid (BoxAt.kept HXb.out hoo3.1 (hoo3.2 _ HXb.out.1 HON.out))
            have HT2 := Lib.hid (Ex.holess_take es k hlt)
            have e3 : ns ++ [n] ++ Ex.holess (es.take k) ++ es[k].holes = ns ++ [n] ++ Ex.holess (es.take (k + 1)) := by rw [HT2.out, List.append_assoc]
            rw [e3] at hown3
            have HO3 := Lib.hid hown3
            have HB3 := Lib.hid ((HB.out.alloc (by omega) (.cells #[.int .i64 yk, .string ynm, .int .i64 yn, .int .i64 ytk, .slice yta ytn ytc, .slice ya ym yc] 35)).trans hb3)
            have hz3 := hoo3.1
            simp only [World.size_alloc] at hz3
            have HOO3 : Hid (OnlyOwn v0 w w3) := by
              refine ⟨by omega, fun c c1 c2 => ?_⟩
              have c3 : c < (wr.alloc (.cells #[.int .i64 yk, .string ynm, .int .i64 yn, .int .i64 ytk, .slice yta ytn ytc, .slice ya ym yc] 35)).heap.size := by simp; omega
              rw [hoo3.2 c c3 ?_, heap_alloc_old _ _ (by omega)]
              · exact HOO.out.2 c c1 c2
              · intro e
                rcases HOV.out with h | h
                · rw [h] at e; exact c2 e
                · have := h c e; omega
            have HOV3 : Hid (v3.ownBlock = v0.ownBlock ∨ ∀ b, v3.ownBlock = some b → w.heap.size ≤ b) := by
              rcases hov3 with h | h
              · rw [h]; exact HOV.out
              · exact Or.inr fun c hc => by have := h c hc; simp at this; omega
            have HON3 : Hid (v3.ownBlock ≠ some w.heap.size) := by
              rcases hov3 with h | h
              · rw [h]; exact HON.out
              · intro e; have := h _ e; simp at this; omega
            clear hown3 hb3 hoo3 hov3 e3 hz3
            go_wp2_with fail
            exact ⟨⟨k + 1, by omega, by go_num, HO3.out, HB3.out, HOO3.out, HOV3.out, HON3.out, HX3.out⟩, by simp [intOf]; omega⟩
          · obtain rfl : k = es.length := by omega
            have hfin := HO.out
            rw [List.take_length] at hfin
            have HF := Lib.hid hfin; clear hfin
            go_wp2_with fail
            go_ret
            refine ⟨_, rfl, ?_, HB.out, HOO.out, HOV.out⟩
            rw [HFH.out]
            exact HF.out
    · have qb1 : (kd == 1) = false := by simp; omega
      have qb14 : (kd == 14) = false := by simp; omega
      have HFH : Hid (ns ++ (Ex.node kd nm n ty es).holes = ns ++ Ex.holess es) := by show _ = _; simp [Ex.holes, q]
      have HNS : Hid (ns.length + Ex.bulks es ≤ 2097153) := by show _ ≤ _; omega
      have HX0 : Hid (BoxAt (w.alloc (.cells #[.int .i64 kd, .string nm, .int .i64 n, .int .i64 tk, .slice ta tn tc, .slice a es.length cap] 35)) w.heap.size #[.int .i64 kd, .string nm, .int .i64 n, .int .i64 tk, .slice ta tn tc, .slice a es.length cap]) := BoxAt.new _ _ _
      have HBa : Hid (Below B w (w.alloc (.cells #[.int .i64 kd, .string nm, .int .i64 n, .int .i64 tk, .slice ta tn tc, .slice a es.length cap] 35))) := (Below.refl _ _).alloc hBw _
      have HOa := Lib.hid (own_below HOWN.out (below_alloc w (.cells #[.int .i64 kd, .string nm, .int .i64 n, .int .i64 tk, .slice ta tn tc, .slice a es.length cap] 35)))
      have HST := HOa
      have HSB := HBa
      have HSX := HX0
      have HSO : Hid (OnlyOwn v0 w (w.alloc (.cells #[.int .i64 kd, .string nm, .int .i64 n, .int .i64 tk, .slice ta tn tc, .slice a es.length cap] 35))) := ⟨by simp, fun c c1 c2 => heap_alloc_old _ _ c1⟩
      have HSN : Hid (v0.ownBlock ≠ some w.heap.size) := fun e => by have := (HOWN.out.lt _ e).2; omega
      go_enter Tryd.func53, Tryd.ntmps53
      go_wp2_with fail
      go_loopw [0, 23] (fun o i wr => ∃ (k : Nat), k ≤ es.length ∧ i = .int .i64 k ∧ wr.ownsRow B 3 1 o (ns ++ Ex.holess (es.take k)).length ((ns ++ Ex.holess (es.take k)).map (Value.int IntKind.i64)) ∧ Below B w wr ∧ OnlyOwn v0 w wr ∧ (o.ownBlock = v0.ownBlock ∨ ∀ b, o.ownBlock = some b → w.heap.size ≤ b) ∧ o.ownBlock ≠ some w.heap.size ∧ BoxAt wr w.heap.size #[.int .i64 kd, .string nm, .int .i64 n, .int .i64 tk, .slice ta tn tc, .slice a es.length cap]) (fun _ i _ => es.length - (intOf i).toNat)
      case atStart => exact ⟨0, by omega, rfl, by simpa [Ex.holess] using HST.out, HSB.out, HSO.out, Or.inl rfl, HSN.out, HSX.out⟩
      case round =>
        obtain ⟨k, hk, rfl, hown, hb, hoo, hov, hon, hbx⟩ := hrel
        have b5 := hbx.2 5
        have HO := Lib.hid hown
        have HB := Lib.hid hb
        have HOO := Lib.hid hoo
        have HOV := Lib.hid hov
        have HON := Lib.hid hon
        have HX := Lib.hid hbx
        clear hown hb hoo hov hon hbx
        have HS2 := HSZ.out
        have hpart := Ex.holess_part es k
        by_cases hlt : k < es.length
        · obtain ⟨b, off, x0, x1, x2, x3, x4, x5, rfl, hbl, hc0, hc1, hc2, hc3, hc4, hc5, ht⟩ := HAT.out k hlt
          have hg := Ex.bulk_get es k hlt
          obtain ⟨yk, ynm, yn, ytk, yta, ytn, ytc, ya, ym, yc, rfl, rfl, rfl, rfl, rfl, rfl⟩ := ex_cells ht
          have HB0 : Hid (Below w0.heap.size w0 wr) := HW0.out.trans (HB.out.mono hB0)
          have g0 : wr.cell? ⟨b, off + k * 6, none⟩ = some (.int .i64 yk) := by rw [HB0.out.cell (p := ⟨b, off + k * 6, none⟩) hbl]; exact hc0
          have g1 : wr.cell? ⟨b, off + k * 6 + 1, none⟩ = some (.string ynm) := by rw [HB0.out.cell (p := ⟨b, off + k * 6 + 1, none⟩) hbl]; exact hc1
          have g2 : wr.cell? ⟨b, off + k * 6 + 2, none⟩ = some (.int .i64 yn) := by rw [HB0.out.cell (p := ⟨b, off + k * 6 + 2, none⟩) hbl]; exact hc2
          have g3 : wr.cell? ⟨b, off + k * 6 + 3, none⟩ = some (.int .i64 ytk) := by rw [HB0.out.cell (p := ⟨b, off + k * 6 + 3, none⟩) hbl]; exact hc3
          have g4 : wr.cell? ⟨b, off + k * 6 + 4, none⟩ = some (.slice yta ytn ytc) := by rw [HB0.out.cell (p := ⟨b, off + k * 6 + 4, none⟩) hbl]; exact hc4
          have g5 : wr.cell? ⟨b, off + k * 6 + 5, none⟩ = some (.slice ya ym yc) := by rw [HB0.out.cell (p := ⟨b, off + k * 6 + 5, none⟩) hbl]; exact hc5
          have HT := Lib.hid ht
          clear ht hc0 hc1 hc2 hc3 hc4 hc5
          have hzr : w.heap.size ≤ wr.heap.size := HB.out.size
          have HB0b := Lib.hid (HB0.out.alloc HB0.out.size (.cells #[.int .i64 yk, .string ynm, .int .i64 yn, .int .i64 ytk, .slice yta ytn ytc, .slice ya ym yc] 35))
          have HOb := Lib.hid (own_below HO.out (below_alloc wr (.cells #[.int .i64 yk, .string ynm, .int .i64 yn, .int .i64 ytk, .slice yta ytn ytc, .slice ya ym yc] 35)))
          have HXb := Lib.hid (HX.out.below (below_alloc wr (.cells #[.int .i64 yk, .string ynm, .int .i64 yn, .int .i64 ytk, .slice yta ytn ytc, .slice ya ym yc] 35)))
          have hll : (ns ++ Ex.holess (es.take k)).length + es[k].bulk ≤ 2097152 := by have h1 := Ex.holess_few (es.take k); have h2 := Ex.bulks_take es k hlt; have h3 := Ex.bulks_le es (k + 1); have h4 := HNS.out; simp at h4 ⊢; omega
          go_wp2_with fail
          refine (IH.out B _ _ _ es[k] w0 (wr.alloc (.cells #[.int .i64 yk, .string ynm, .int .i64 yn, .int .i64 ytk, .slice yta ytn ytc, .slice ya ym yc] 35)) HT.out HB0b.out hB0 (by simp; omega) hll HOb.out).mono ?_
          rintro e w3 ⟨v3, rfl, hown3, hb3, hoo3, hov3⟩
          have HX3 := Lib.hid (BoxAt.kept HXb.out hoo3.1 (hoo3.2 _ HXb.out.1 HON.out))
          have HT2 := Lib.hid (Ex.holess_take es k hlt)
          have e3 : ns ++ Ex.holess (es.take k) ++ es[k].holes = ns ++ Ex.holess (es.take (k + 1)) := by rw [HT2.out, List.append_assoc]
          rw [e3] at hown3
          have HO3 := Lib.hid hown3
          have HB3 := Lib.hid ((HB.out.alloc (by omega) (.cells #[.int .i64 yk, .string ynm, .int .i64 yn, .int .i64 ytk, .slice yta ytn ytc, .slice ya ym yc] 35)).trans hb3)
          have hz3 := hoo3.1
          simp only [World.size_alloc] at hz3
          have HOO3 : Hid (OnlyOwn v0 w w3) := by
            refine ⟨by omega, fun c c1 c2 => ?_⟩
            have c3 : c < (wr.alloc (.cells #[.int .i64 yk, .string ynm, .int .i64 yn, .int .i64 ytk, .slice yta ytn ytc, .slice ya ym yc] 35)).heap.size := by simp; omega
            rw [hoo3.2 c c3 ?_, heap_alloc_old _ _ (by omega)]
            · exact HOO.out.2 c c1 c2
            · intro e
              rcases HOV.out with h | h
              · rw [h] at e; exact c2 e
              · have := h c e; omega
          have HOV3 : Hid (v3.ownBlock = v0.ownBlock ∨ ∀ b, v3.ownBlock = some b → w.heap.size ≤ b) := by
            rcases hov3 with h | h
            · rw [h]; exact HOV.out
            · exact Or.inr fun c hc => by have := h c hc; simp at this; omega
          have HON3 : Hid (v3.ownBlock ≠ some w.heap.size) := by
            rcases hov3 with h | h
            · rw [h]; exact HON.out
            · intro e; have := h _ e; simp at this; omega
          clear hown3 hb3 hoo3 hov3 e3 hz3
          go_wp2_with fail
          exact ⟨⟨k + 1, by omega, by go_num, HO3.out, HB3.out, HOO3.out, HOV3.out, HON3.out, HX3.out⟩, by simp [intOf]; omega⟩
        · obtain rfl : k = es.length := by omega
          have hfin := HO.out
          rw [List.take_length] at hfin
          have HF := Lib.hid hfin; clear hfin
          go_wp2_with fail
          go_ret
          refine ⟨_, rfl, ?_, HB.out, HOO.out, HOV.out⟩
          rw [HFH.out]
          exact HF.out
set_option maxRecDepth 100000 in
theorem implHoles (d : Nat) (v : Value) (t : Ex) (w : World) (h : ExAt w d v t) (hsz : t.bulk ≤ 1048576) :
    Calls Tryd.prog 38 #[v] w fun e w' => ∃ v, e = .returned v ∧ IntsIn w' v t.holes w.heap.size w'.heap.size ∧ Below w.heap.size w w' := by
  have HT := Lib.hid h
  obtain ⟨yk, ynm, yn, ytk, yta, ytn, ytc, ya, ym, yc, rfl⟩ := ex_parts h
  clear h
  have E0 := Lib.hid (below_alloc w (.cells #[.int .i64 yk, .string ynm, .int .i64 yn, .int .i64 ytk, .slice yta ytn ytc, .slice ya ym yc] 35))
  go_enter Tryd.func38, Tryd.ntmps38
  go_wp2_with fail
  refine (implAppHoles d (w.heap.size + 1) (.slice none 0 0) _ [] t (w.alloc (.cells #[.int .i64 yk, .string ynm, .int .i64 yn, .int .i64 ytk, .slice yta ytn ytc, .slice ya ym yc] 35)) _ (HT.out.below E0.out) (Below.refl _ _) (by simp) (by simp) (by simp; omega) (World.ownsRow_nil _ _ _ _)).mono ?_
  rintro e w1 ⟨v1, rfl, hown, hb, _, _⟩
  have HO := Lib.hid hown
  have HB := Lib.hid (E0.out.trans (hb.mono (Nat.le_succ _)))
  clear hown hb
  go_wp2_with fail
  go_ret
  refine ⟨_, rfl, ?_, HB.out⟩
  have h := HO.out
  rw [List.nil_append] at h
  exact ⟨own_base h (Nat.le_succ _), fun b hb => (h.lt b hb).2, Nat.le_refl _⟩
theorem implHolesRow (d : Nat) (v : Value) (t : Ex) (w : World) (h : ExAt w d v t) (hsz : t.bulk ≤ 1048576) :
    Calls Tryd.prog 38 #[v] w fun e w' => ∃ a cp, e = .returned (.slice a t.holes.length cp) ∧ Below w.heap.size w w' :=
  (implHoles d v t w h hsz).mono fun e w' ⟨v, he, hi, hb⟩ => by
    obtain ⟨a, cp, hv, _⟩ := hi.ints
    exact ⟨a, cp, by rw [he, hv], hb⟩
end Go.Proofs.YtadjaclmgdmnbaaDoor
/-
  Proved: plain facts on what occurs in an expression: a kind, and types that say all.
-/
namespace Go.Proofs.YtadjaclmgdmnbaaDoor
open Go.RowKit

mutual
/-- A node of the kind x occurs. -/
def Ex.has (x : Int) : Ex → Bool
  | .node k _ _ _ es => Ex.hass x es || decide (k = x)
def Ex.hass (x : Int) : List Ex → Bool
  | [] => false
  | e :: r => e.has x || Ex.hass x r
end
mutual
/-- The types of functions and of ascriptions say all. -/
def Ex.full : Ex → Bool
  | .node k _ _ ty es => Ex.fulls es && (!(decide (k = 3) || decide (k = 13)) || (ty.valid && ty.known))
def Ex.fulls : List Ex → Bool
  | [] => true
  | e :: r => e.full && Ex.fulls r
end
theorem Ex.hass_take (x : Int) (es : List Ex) : ∀ k (h : k < es.length), Ex.hass x (es.take (k + 1)) = (Ex.hass x (es.take k) || es[k].has x) := by
  induction es with
  | nil => intro k h; simp at h
  | cons s r ih =>
    intro k h
    cases k with
    | zero => simp [Ex.hass]
    | succ k =>
      simp only [List.take_succ_cons, Ex.hass, List.getElem_cons_succ]
      rw [ih k (by simpa using h), Bool.or_assoc]
theorem Ex.hass_true (x : Int) (es : List Ex) (k : Nat) (h : Ex.hass x (es.take k) = true) : Ex.hass x es = true := by
  induction es generalizing k with
  | nil => simp [Ex.hass] at h
  | cons s r ih =>
    cases k with
    | zero => simp [Ex.hass] at h
    | succ k =>
      simp only [List.take_succ_cons, Ex.hass, Bool.or_eq_true] at h ⊢
      rcases h with h | h
      · exact Or.inl h
      · exact Or.inr (ih k h)
theorem Ex.fulls_take (es : List Ex) : ∀ k (h : k < es.length), Ex.fulls (es.take (k + 1)) = (Ex.fulls (es.take k) && es[k].full) := by
  induction es with
  | nil => intro k h; simp at h
  | cons s r ih =>
    intro k h
    cases k with
    | zero => simp [Ex.fulls]
    | succ k =>
      simp only [List.take_succ_cons, Ex.fulls, List.getElem_cons_succ]
      rw [ih k (by simpa using h), Bool.and_assoc]
theorem Ex.fulls_false (es : List Ex) (k : Nat) (h : Ex.fulls (es.take k) = false) : Ex.fulls es = false := by
  induction es generalizing k with
  | nil => simp [Ex.fulls] at h
  | cons s r ih =>
    cases k with
    | zero => simp [Ex.fulls] at h
    | succ k =>
      simp only [List.take_succ_cons, Ex.fulls, Bool.and_eq_false_iff] at h ⊢
      rcases h with h | h
      · exact Or.inl h
      · exact Or.inr (ih k h)
end Go.Proofs.YtadjaclmgdmnbaaDoor
/-
  Proved: spec.l6Complete says whether the types of an expression say all; the memory that was there stays as it was.
-/
namespace Go.Proofs.YtadjaclmgdmnbaaDoor
open Go.RowKit

set_option maxRecDepth 100000 in
set_option maxHeartbeats 4000000 in
theorem specExFull : ∀ (d : Nat) (v : Value) (t : Ex) (w : World), ExAt w d v t → t.bulk ≤ 1048576 → Calls Tryd.prog 37 #[v] w fun e w' => e = .returned (.bool (t.full)) ∧ Below w.heap.size w w'
  | 0, _, _, _, h, _ => h.elim
  | d + 1, v, .node kd nm n ty es, w, h, hsz => by
    have IH : Hid (∀ (v : Value) (t : Ex) (w : World), ExAt w d v t → t.bulk ≤ 1048576 → Calls Tryd.prog 37 #[v] w fun e w' => e = .returned (.bool (t.full)) ∧ Below w.heap.size w w') := specExFull d
    have HV := ex_parts h
    obtain ⟨c3, c4, sl, rfl, hk0, hk1, hn0, hn1, hnm, hty, a, cap, rfl, hcap, hcap2, hat⟩ := h
    obtain ⟨k', nm', n', tk, ta, tn, tc, sa, sn, sc, hv⟩ := HV
    injection hv with hv
    injection hv with hv
    simp at hv
    obtain ⟨rfl, rfl, rfl, rfl, rfl, rfl, rfl, rfl⟩ := hv
    have HAT := Lib.hid hat; clear hat
    have hbk : (Ex.node kd nm n ty es).bulk = nm.size + (ty.size - 1) + Ex.bulks es := rfl
    have HSZ : Hid (Ex.bulks es ≤ 1048576) := by show _ ≤ _; omega
    have HNM : Hid (nm.size ≤ 1048576) := by show _ ≤ _; omega
    have HTZ : Hid (ty.size ≤ 1048577) := by show _ ≤ _; omega
    have hlen : es.length ≤ 1048576 := by have := Ex.length_le es; omega
    have HTY := Lib.hid hty
    clear hsz hbk hty
    go_enter Tryd.func37, Tryd.ntmps37
    go_wp2_with fail
    go_loopw [3] (fun i wr => ∃ k : Nat, k ≤ es.length ∧ i = .int .i64 k ∧ Ex.fulls (es.take k) = true ∧ Below (w.heap.size + 1) (w.alloc (.cells #[.int .i64 kd, .string nm, .int .i64 n, .int .i64 tk, .slice ta tn tc, .slice a es.length cap] 35)) wr) (fun i _ => es.length - (intOf i).toNat)
    case atStart => exact ⟨0, by omega, rfl, by simp [Ex.fulls], Below.refl _ _⟩
    case round =>
      obtain ⟨k, hk, rfl, hf, hb⟩ := hrel
      have HF := Lib.hid hf; clear hf
      have b0 := box_cell hb 0
      have b1 := box_cell hb 1
      have b2 := box_cell hb 2
      have b3 := box_cell hb 3
      have b4 := box_cell hb 4
      have b5 := box_cell hb 5
      have HB := Lib.hid (box_below hb)
      have HBX := Lib.hid hb; clear hb
      have HS2 := HSZ.out
      by_cases hlt : k < es.length
      · obtain ⟨b, off, x0, x1, x2, x3, x4, x5, rfl, hbl, hc0, hc1, hc2, hc3, hc4, hc5, ht⟩ := HAT.out k hlt
        have hg := Ex.bulk_get es k hlt
        have e0 : wr.cell? ⟨b, off + k * 6, none⟩ = some (x0) := by rw [HB.out.cell (p := ⟨b, off + k * 6, none⟩) hbl]; exact hc0
        have e1 : wr.cell? ⟨b, off + k * 6 + 1, none⟩ = some (x1) := by rw [HB.out.cell (p := ⟨b, off + k * 6 + 1, none⟩) hbl]; exact hc1
        have e2 : wr.cell? ⟨b, off + k * 6 + 2, none⟩ = some (x2) := by rw [HB.out.cell (p := ⟨b, off + k * 6 + 2, none⟩) hbl]; exact hc2
        have e3 : wr.cell? ⟨b, off + k * 6 + 3, none⟩ = some (x3) := by rw [HB.out.cell (p := ⟨b, off + k * 6 + 3, none⟩) hbl]; exact hc3
        have e4 : wr.cell? ⟨b, off + k * 6 + 4, none⟩ = some (x4) := by rw [HB.out.cell (p := ⟨b, off + k * 6 + 4, none⟩) hbl]; exact hc4
        have e5 : wr.cell? ⟨b, off + k * 6 + 5, none⟩ = some (x5) := by rw [HB.out.cell (p := ⟨b, off + k * 6 + 5, none⟩) hbl]; exact hc5
        have HT := Lib.hid (ht.below HB.out)
        have HPX := Lib.hid HBX.out
        clear ht hc0 hc1 hc2 hc3 hc4 hc5
        go_wp2_with fail
        refine (IH.out _ _ _ HT.out (by omega)).mono ?_
        rintro e w' ⟨rfl, hb1⟩
        have HN := Lib.hid (box_next HPX.out hb1); clear hb1
        have HT2 := Lib.hid (Ex.fulls_take es k hlt)
        cases hfk : es[k].full with
        | true =>
          have HFK := Lib.hid hfk; clear hfk
          go_wp2_with fail
          exact ⟨⟨k + 1, by omega, by go_num, by rw [HT2.out, HF.out, HFK.out]; rfl, HN.out⟩, by simp [intOf]; omega⟩
        | false =>
          have HFK := Lib.hid hfk; clear hfk
          go_wp2_with fail
          go_ret
          have e : Ex.fulls es = false := Ex.fulls_false es (k + 1) (by rw [HT2.out, HF.out, HFK.out]; rfl)
          exact ⟨by simp [Ex.full, e], box_below HN.out⟩
      · obtain rfl : k = es.length := by omega
        have HFT : Hid (Ex.fulls es = true) := by have := HF.out; rw [List.take_length] at this; exact this
        by_cases q3 : kd = 3
        · subst q3
          go_wp2_with fail
          refine (specComplete d _ ty _ (HTY.out.below HB.out) HTZ.out).mono ?_
          rintro e w2 ⟨rfl, hb2⟩
          have HE := Lib.hid (HB.out.trans (hb2.mono HB.out.size)); clear hb2
          go_wp2_with fail
          go_ret
          exact ⟨by simp [Ex.full, HFT.out], HE.out⟩
        by_cases q13 : kd = 13
        · subst q13
          go_wp2_with fail
          refine (specComplete d _ ty _ (HTY.out.below HB.out) HTZ.out).mono ?_
          rintro e w2 ⟨rfl, hb2⟩
          have HE := Lib.hid (HB.out.trans (hb2.mono HB.out.size)); clear hb2
          go_wp2_with fail
          go_ret
          exact ⟨by simp [Ex.full, HFT.out], HE.out⟩
        have qb3 : (kd == 3) = false := by simp [q3]
        have qb13 : (kd == 13) = false := by simp [q13]
        go_wp2_with fail
        go_ret
        exact ⟨by simp [Ex.full, HFT.out, q3, q13], HB.out⟩
end Go.Proofs.YtadjaclmgdmnbaaDoor
/-
  Proved: impl.hasCompleteTypes says whether the types of an expression say all; the memory that was there stays as it was.
-/
namespace Go.Proofs.YtadjaclmgdmnbaaDoor
open Go.RowKit

set_option maxRecDepth 100000 in
set_option maxHeartbeats 4000000 in
theorem implExFull : ∀ (d : Nat) (v : Value) (t : Ex) (w : World), ExAt w d v t → t.bulk ≤ 1048576 → Calls Tryd.prog 39 #[v] w fun e w' => e = .returned (.bool (t.full)) ∧ Below w.heap.size w w'
  | 0, _, _, _, h, _ => h.elim
  | d + 1, v, .node kd nm n ty es, w, h, hsz => by
    have IH : Hid (∀ (v : Value) (t : Ex) (w : World), ExAt w d v t → t.bulk ≤ 1048576 → Calls Tryd.prog 39 #[v] w fun e w' => e = .returned (.bool (t.full)) ∧ Below w.heap.size w w') := implExFull d
    have HV := ex_parts h
    obtain ⟨c3, c4, sl, rfl, hk0, hk1, hn0, hn1, hnm, hty, a, cap, rfl, hcap, hcap2, hat⟩ := h
    obtain ⟨k', nm', n', tk, ta, tn, tc, sa, sn, sc, hv⟩ := HV
    injection hv with hv
    injection hv with hv
    simp at hv
    obtain ⟨rfl, rfl, rfl, rfl, rfl, rfl, rfl, rfl⟩ := hv
    have HAT := Lib.hid hat; clear hat
    have hbk : (Ex.node kd nm n ty es).bulk = nm.size + (ty.size - 1) + Ex.bulks es := rfl
    have HSZ : Hid (Ex.bulks es ≤ 1048576) := by show _ ≤ _; omega
    have HNM : Hid (nm.size ≤ 1048576) := by show _ ≤ _; omega
    have HTZ : Hid (ty.size ≤ 1048577) := by show _ ≤ _; omega
    have hlen : es.length ≤ 1048576 := by have := Ex.length_le es; omega
    have HTY := Lib.hid hty
    clear hsz hbk hty
    have HBA := Lib.hid (below_alloc w (.cells #[.int .i64 kd, .string nm, .int .i64 n, .int .i64 tk, .slice ta tn tc, .slice a es.length cap] 35))
    by_cases q : kd = 3 ∨ kd = 13
    · rcases q with q | q
      · subst q
        go_enter Tryd.func39, Tryd.ntmps39
        go_wp2_with fail
        refine (implComplete d _ ty _ (HTY.out.below HBA.out) HTZ.out).mono ?_
        rintro e w2 ⟨rfl, hb2⟩
        have HB2 := Lib.hid (box_next (Below.refl _ _) hb2); clear hb2
        cases hty2 : (ty.valid && ty.known) with
        | false =>
          have HTF := Lib.hid hty2
          go_wp2_with fail
          go_ret
          exact ⟨by simp only [Ex.full, HTF.out]; simp, box_below HB2.out⟩
        | true =>
          have HTF := Lib.hid hty2; clear hty2
          have b0 := box_cell HB2.out 0
          have b1 := box_cell HB2.out 1
          have b2 := box_cell HB2.out 2
          have b3 := box_cell HB2.out 3
          have b4 := box_cell HB2.out 4
          have b5 := box_cell HB2.out 5
          go_wp2_with fail
          go_loopw [22] (fun i wr => ∃ k : Nat, k ≤ es.length ∧ i = .int .i64 k ∧ Ex.fulls (es.take k) = true ∧ Below (w.heap.size + 1) (w.alloc (.cells #[.int .i64 3, .string nm, .int .i64 n, .int .i64 tk, .slice ta tn tc, .slice a es.length cap] 35)) wr) (fun i _ => es.length - (intOf i).toNat)
          case atStart => exact ⟨0, by omega, rfl, by simp [Ex.fulls], HB2.out⟩
          case round =>
            obtain ⟨k, hk, rfl, hf, hb⟩ := hrel
            have HF := Lib.hid hf; clear hf
            have b0 := box_cell hb 0
            have b1 := box_cell hb 1
            have b2 := box_cell hb 2
            have b3 := box_cell hb 3
            have b4 := box_cell hb 4
            have b5 := box_cell hb 5
            have HB := Lib.hid (box_below hb)
            have HBX := Lib.hid hb; clear hb
            have HS2 := HSZ.out
            by_cases hlt : k < es.length
            · obtain ⟨b, off, x0, x1, x2, x3, x4, x5, rfl, hbl, hc0, hc1, hc2, hc3, hc4, hc5, ht⟩ := HAT.out k hlt
              have hg := Ex.bulk_get es k hlt
              obtain ⟨yk, ynm, yn, ytk, yta, ytn, ytc, ya, ym, yc, rfl, rfl, rfl, rfl, rfl, rfl⟩ := ex_cells ht
              have e0 : wr.cell? ⟨b, off + k * 6, none⟩ = some (.int .i64 yk) := by rw [HB.out.cell (p := ⟨b, off + k * 6, none⟩) hbl]; exact hc0
              have e1 : wr.cell? ⟨b, off + k * 6 + 1, none⟩ = some (.string ynm) := by rw [HB.out.cell (p := ⟨b, off + k * 6 + 1, none⟩) hbl]; exact hc1
              have e2 : wr.cell? ⟨b, off + k * 6 + 2, none⟩ = some (.int .i64 yn) := by rw [HB.out.cell (p := ⟨b, off + k * 6 + 2, none⟩) hbl]; exact hc2
              have e3 : wr.cell? ⟨b, off + k * 6 + 3, none⟩ = some (.int .i64 ytk) := by rw [HB.out.cell (p := ⟨b, off + k * 6 + 3, none⟩) hbl]; exact hc3
              have e4 : wr.cell? ⟨b, off + k * 6 + 4, none⟩ = some (.slice yta ytn ytc) := by rw [HB.out.cell (p := ⟨b, off + k * 6 + 4, none⟩) hbl]; exact hc4
              have e5 : wr.cell? ⟨b, off + k * 6 + 5, none⟩ = some (.slice ya ym yc) := by rw [HB.out.cell (p := ⟨b, off + k * 6 + 5, none⟩) hbl]; exact hc5
              have hp := below_box wr (.cells #[.int .i64 yk, .string ynm, .int .i64 yn, .int .i64 ytk, .slice yta ytn ytc, .slice ya ym yc] 35)
              have HT := Lib.hid ((ht.below HB.out).below hp)
              have HPX := Lib.hid (box_next HBX.out hp)
              clear hp
              clear ht hc0 hc1 hc2 hc3 hc4 hc5
              go_wp2_with fail
              refine (IH.out _ _ _ HT.out (by omega)).mono ?_
              rintro e w' ⟨rfl, hb1⟩
              have HN := Lib.hid (box_next HPX.out hb1); clear hb1
              have HT2 := Lib.hid (Ex.fulls_take es k hlt)
              cases hfk : es[k].full with
              | true =>
                have HFK := Lib.hid hfk; clear hfk
                go_wp2_with fail
                exact ⟨⟨k + 1, by omega, by go_num, by rw [HT2.out, HF.out, HFK.out]; rfl, HN.out⟩, by simp [intOf]; omega⟩
              | false =>
                have HFK := Lib.hid hfk; clear hfk
                go_wp2_with fail
                go_ret
                have e : Ex.fulls es = false := Ex.fulls_false es (k + 1) (by rw [HT2.out, HF.out, HFK.out]; rfl)
                exact ⟨by simp [Ex.full, e], box_below HN.out⟩
            · obtain rfl : k = es.length := by omega
              have HFT : Hid (Ex.fulls es = true) := by have := HF.out; rw [List.take_length] at this; exact this
              go_wp2_with fail
              go_ret
              exact ⟨by simp only [Ex.full, HFT.out]; rw [HTF.out]; simp, HB.out⟩
      · subst q
        go_enter Tryd.func39, Tryd.ntmps39
        go_wp2_with fail
        refine (implComplete d _ ty _ (HTY.out.below HBA.out) HTZ.out).mono ?_
        rintro e w2 ⟨rfl, hb2⟩
        have HB2 := Lib.hid (box_next (Below.refl _ _) hb2); clear hb2
        cases hty2 : (ty.valid && ty.known) with
        | false =>
          have HTF := Lib.hid hty2
          go_wp2_with fail
          go_ret
          exact ⟨by simp only [Ex.full, HTF.out]; simp, box_below HB2.out⟩
        | true =>
          have HTF := Lib.hid hty2; clear hty2
          have b0 := box_cell HB2.out 0
          have b1 := box_cell HB2.out 1
          have b2 := box_cell HB2.out 2
          have b3 := box_cell HB2.out 3
          have b4 := box_cell HB2.out 4
          have b5 := box_cell HB2.out 5
          go_wp2_with fail
          go_loopw [22] (fun i wr => ∃ k : Nat, k ≤ es.length ∧ i = .int .i64 k ∧ Ex.fulls (es.take k) = true ∧ Below (w.heap.size + 1) (w.alloc (.cells #[.int .i64 13, .string nm, .int .i64 n, .int .i64 tk, .slice ta tn tc, .slice a es.length cap] 35)) wr) (fun i _ => es.length - (intOf i).toNat)
          case atStart => exact ⟨0, by omega, rfl, by simp [Ex.fulls], HB2.out⟩
          case round =>
            obtain ⟨k, hk, rfl, hf, hb⟩ := hrel
            have HF := Lib.hid hf; clear hf
            have b0 := box_cell hb 0
            have b1 := box_cell hb 1
            have b2 := box_cell hb 2
            have b3 := box_cell hb 3
            have b4 := box_cell hb 4
            have b5 := box_cell hb 5
            have HB := Lib.hid (box_below hb)
            have HBX := Lib.hid hb; clear hb
            have HS2 := HSZ.out
            by_cases hlt : k < es.length
            · obtain ⟨b, off, x0, x1, x2, x3, x4, x5, rfl, hbl, hc0, hc1, hc2, hc3, hc4, hc5, ht⟩ := HAT.out k hlt
              have hg := Ex.bulk_get es k hlt
              obtain ⟨yk, ynm, yn, ytk, yta, ytn, ytc, ya, ym, yc, rfl, rfl, rfl, rfl, rfl, rfl⟩ := ex_cells ht
              have e0 : wr.cell? ⟨b, off + k * 6, none⟩ = some (.int .i64 yk) := by rw [HB.out.cell (p := ⟨b, off + k * 6, none⟩) hbl]; exact hc0
              have e1 : wr.cell? ⟨b, off + k * 6 + 1, none⟩ = some (.string ynm) := by rw [HB.out.cell (p := ⟨b, off + k * 6 + 1, none⟩) hbl]; exact hc1
              have e2 : wr.cell? ⟨b, off + k * 6 + 2, none⟩ = some (.int .i64 yn) := by rw [HB.out.cell (p := ⟨b, off + k * 6 + 2, none⟩) hbl]; exact hc2
              have e3 : wr.cell? ⟨b, off + k * 6 + 3, none⟩ = some (.int .i64 ytk) := by rw [HB.out.cell (p := ⟨b, off + k * 6 + 3, none⟩) hbl]; exact hc3
              have e4 : wr.cell? ⟨b, off + k * 6 + 4, none⟩ = some (.slice yta ytn ytc) := by rw [HB.out.cell (p := ⟨b, off + k * 6 + 4, none⟩) hbl]; exact hc4
              have e5 : wr.cell? ⟨b, off + k * 6 + 5, none⟩ = some (.slice ya ym yc) := by rw [HB.out.cell (p := ⟨b, off + k * 6 + 5, none⟩) hbl]; exact hc5
              have hp := below_box wr (.cells #[.int .i64 yk, .string ynm, .int .i64 yn, .int .i64 ytk, .slice yta ytn ytc, .slice ya ym yc] 35)
              have HT := Lib.hid ((ht.below HB.out).below hp)
              have HPX := Lib.hid (box_next HBX.out hp)
              clear hp
              clear ht hc0 hc1 hc2 hc3 hc4 hc5
              go_wp2_with fail
              refine (IH.out _ _ _ HT.out (by omega)).mono ?_
              rintro e w' ⟨rfl, hb1⟩
              have HN := Lib.hid (box_next HPX.out hb1); clear hb1
              have HT2 := Lib.hid (Ex.fulls_take es k hlt)
              cases hfk : es[k].full with
              | true =>
                have HFK := Lib.hid hfk; clear hfk
                go_wp2_with fail
                exact ⟨⟨k + 1, by omega, by go_num, by rw [HT2.out, HF.out, HFK.out]; rfl, HN.out⟩, by simp [intOf]; omega⟩
              | false =>
                have HFK := Lib.hid hfk; clear hfk
                go_wp2_with fail
                go_ret
                have e : Ex.fulls es = false := Ex.fulls_false es (k + 1) (by rw [HT2.out, HF.out, HFK.out]; rfl)
                exact ⟨by simp [Ex.full, e], box_below HN.out⟩
            · obtain rfl : k = es.length := by omega
              have HFT : Hid (Ex.fulls es = true) := by have := HF.out; rw [List.take_length] at this; exact this
              go_wp2_with fail
              go_ret
              exact ⟨by simp only [Ex.full, HFT.out]; rw [HTF.out]; simp, HB.out⟩
    · have qb3 : (kd == 3) = false := by simp; omega
      have qb13 : (kd == 13) = false := by simp; omega
      go_enter Tryd.func39, Tryd.ntmps39
      go_wp2_with fail
      go_loopw [22] (fun i wr => ∃ k : Nat, k ≤ es.length ∧ i = .int .i64 k ∧ Ex.fulls (es.take k) = true ∧ Below (w.heap.size + 1) (w.alloc (.cells #[.int .i64 kd, .string nm, .int .i64 n, .int .i64 tk, .slice ta tn tc, .slice a es.length cap] 35)) wr) (fun i _ => es.length - (intOf i).toNat)
      case atStart => exact ⟨0, by omega, rfl, by simp [Ex.fulls], Below.refl _ _⟩
      case round =>
        obtain ⟨k, hk, rfl, hf, hb⟩ := hrel
        have HF := Lib.hid hf; clear hf
        have b0 := box_cell hb 0
        have b1 := box_cell hb 1
        have b2 := box_cell hb 2
        have b3 := box_cell hb 3
        have b4 := box_cell hb 4
        have b5 := box_cell hb 5
        have HB := Lib.hid (box_below hb)
        have HBX := Lib.hid hb; clear hb
        have HS2 := HSZ.out
        by_cases hlt : k < es.length
        · obtain ⟨b, off, x0, x1, x2, x3, x4, x5, rfl, hbl, hc0, hc1, hc2, hc3, hc4, hc5, ht⟩ := HAT.out k hlt
          have hg := Ex.bulk_get es k hlt
          obtain ⟨yk, ynm, yn, ytk, yta, ytn, ytc, ya, ym, yc, rfl, rfl, rfl, rfl, rfl, rfl⟩ := ex_cells ht
          have e0 : wr.cell? ⟨b, off + k * 6, none⟩ = some (.int .i64 yk) := by rw [HB.out.cell (p := ⟨b, off + k * 6, none⟩) hbl]; exact hc0
          have e1 : wr.cell? ⟨b, off + k * 6 + 1, none⟩ = some (.string ynm) := by rw [HB.out.cell (p := ⟨b, off + k * 6 + 1, none⟩) hbl]; exact hc1
          have e2 : wr.cell? ⟨b, off + k * 6 + 2, none⟩ = some (.int .i64 yn) := by rw [HB.out.cell (p := ⟨b, off + k * 6 + 2, none⟩) hbl]; exact hc2
          have e3 : wr.cell? ⟨b, off + k * 6 + 3, none⟩ = some (.int .i64 ytk) := by rw [HB.out.cell (p := ⟨b, off + k * 6 + 3, none⟩) hbl]; exact hc3
          have e4 : wr.cell? ⟨b, off + k * 6 + 4, none⟩ = some (.slice yta ytn ytc) := by rw [HB.out.cell (p := ⟨b, off + k * 6 + 4, none⟩) hbl]; exact hc4
          have e5 : wr.cell? ⟨b, off + k * 6 + 5, none⟩ = some (.slice ya ym yc) := by rw [HB.out.cell (p := ⟨b, off + k * 6 + 5, none⟩) hbl]; exact hc5
          have hp := below_box wr (.cells #[.int .i64 yk, .string ynm, .int .i64 yn, .int .i64 ytk, .slice yta ytn ytc, .slice ya ym yc] 35)
          have HT := Lib.hid ((ht.below HB.out).below hp)
          have HPX := Lib.hid (box_next HBX.out hp)
          clear hp
          clear ht hc0 hc1 hc2 hc3 hc4 hc5
          go_wp2_with fail
          refine (IH.out _ _ _ HT.out (by omega)).mono ?_
          rintro e w' ⟨rfl, hb1⟩
          have HN := Lib.hid (box_next HPX.out hb1); clear hb1
          have HT2 := Lib.hid (Ex.fulls_take es k hlt)
          cases hfk : es[k].full with
          | true =>
            have HFK := Lib.hid hfk; clear hfk
            go_wp2_with fail
            exact ⟨⟨k + 1, by omega, by go_num, by rw [HT2.out, HF.out, HFK.out]; rfl, HN.out⟩, by simp [intOf]; omega⟩
          | false =>
            have HFK := Lib.hid hfk; clear hfk
            go_wp2_with fail
            go_ret
            have e : Ex.fulls es = false := Ex.fulls_false es (k + 1) (by rw [HT2.out, HF.out, HFK.out]; rfl)
            exact ⟨by simp [Ex.full, e], box_below HN.out⟩
        · obtain rfl : k = es.length := by omega
          have HFT : Hid (Ex.fulls es = true) := by have := HF.out; rw [List.take_length] at this; exact this
          go_wp2_with fail
          go_ret
          exact ⟨by simp only [Ex.full, HFT.out]; have h3 : ¬ (kd = 3) := (by omega); have h13 : ¬ (kd = 13) := (by omega); simp [h3, h13], HB.out⟩
end Go.Proofs.YtadjaclmgdmnbaaDoor
/-
  Proved: spec.IsCompleteExpr says whether an expression is valid and has neither holes nor unknown types; the memory that was there stays as it was.
-/
namespace Go.Proofs.YtadjaclmgdmnbaaDoor
open Go.RowKit

set_option maxRecDepth 100000 in
set_option maxHeartbeats 2000000 in
theorem specExComp (d : Nat) (v : Value) (t : Ex) (w : World) (h : ExAt w d v t) (hsz : t.bulk ≤ 1048576) :
    Calls Tryd.prog 15 #[v] w fun e w' => e = .returned (.bool (t.valid && (decide (t.holes.length = 0) && t.full))) ∧ Below w.heap.size w w' := by
  have HT := Lib.hid h
  obtain ⟨yk, ynm, yn, ytk, yta, ytn, ytc, ya, ym, yc, rfl⟩ := ex_parts h
  clear h
  have E0 := below_alloc w (.cells #[.int .i64 yk, .string ynm, .int .i64 yn, .int .i64 ytk, .slice yta ytn ytc, .slice ya ym yc] 35)
  have HT0 := Lib.hid (HT.out.below E0)
  clear E0
  go_enter Tryd.func15, Tryd.ntmps15
  go_wp2_with fail
  refine (specExValid d _ t _ HT0.out hsz).mono ?_
  rintro e w1 ⟨rfl, hb⟩
  have B1 := Lib.hid (box_next (Below.refl _ _) hb)
  clear hb
  have c0 := box_cell B1.out 0
  have c1 := box_cell B1.out 1
  have c2 := box_cell B1.out 2
  have c3 := box_cell B1.out 3
  have c4 := box_cell B1.out 4
  have c5 := box_cell B1.out 5
  cases hv0 : t.valid with
  | false =>
    go_wp2_with fail
    go_ret
    exact ⟨by simp [hv0], box_below B1.out⟩
  | true =>
    go_wp2_with fail
    refine (specHolesOf d _ t _ (HT.out.below (box_below B1.out)) hsz).mono ?_
    rintro e w2 ⟨g, cp, rfl, hi, hb⟩
    have B2 := Lib.hid (box_next B1.out hb)
    clear hb B1 c0 c1 c2 c3 c4 c5
    have c0 := box_cell B2.out 0
    have c1 := box_cell B2.out 1
    have c2 := box_cell B2.out 2
    have c3 := box_cell B2.out 3
    have c4 := box_cell B2.out 4
    have c5 := box_cell B2.out 5
    by_cases hv1 : t.holes.length = 0
    · have qv : ((t.holes.length : Nat) : Int) = 0 := by omega
      have qb : (((t.holes.length : Nat) : Int) == 0) = true := by simp [hv1]
      go_wp2_with fail
      refine (specExFull d _ t _ (HT.out.below (box_below B2.out)) hsz).mono ?_
      rintro e w3 ⟨rfl, hb⟩
      have B3 := Lib.hid (box_next B2.out hb)
      clear hb B2 c0 c1 c2 c3 c4 c5
      go_wp2_with fail
      go_ret
      exact ⟨by simp [hv0, hv1], box_below B3.out⟩
    · have qb : (((t.holes.length : Nat) : Int) == 0) = false := by rw [beq_eq_false_iff_ne]; omega
      go_wp2_with fail
      go_ret
      exact ⟨by simp [hv0, hv1], box_below B2.out⟩
end Go.Proofs.YtadjaclmgdmnbaaDoor
/-
  Proved: impl.IsCompleteExpr says whether an expression is valid and has neither holes nor unknown types; the memory that was there stays as it was.
-/
namespace Go.Proofs.YtadjaclmgdmnbaaDoor
open Go.RowKit

set_option maxRecDepth 100000 in
set_option maxHeartbeats 2000000 in
theorem implExComp (d : Nat) (v : Value) (t : Ex) (w : World) (h : ExAt w d v t) (hsz : t.bulk ≤ 1048576) (htab : TabAt w) :
    Calls Tryd.prog 16 #[v] w fun e w' => e = .returned (.bool (t.valid && (decide (t.holes.length = 0) && t.full))) ∧ Below w.heap.size w w' := by
  have HT := Lib.hid h
  obtain ⟨yk, ynm, yn, ytk, yta, ytn, ytc, ya, ym, yc, rfl⟩ := ex_parts h
  clear h
  have E0 := below_alloc w (.cells #[.int .i64 yk, .string ynm, .int .i64 yn, .int .i64 ytk, .slice yta ytn ytc, .slice ya ym yc] 35)
  have HT0 := Lib.hid (HT.out.below E0)
  have HTAB := Lib.hid (htab.below E0)
  clear htab
  clear E0
  go_enter Tryd.func16, Tryd.ntmps16
  go_wp2_with fail
  refine (implExValid d _ t _ HT0.out hsz HTAB.out).mono ?_
  rintro e w1 ⟨rfl, hb⟩
  have B1 := Lib.hid (box_next (Below.refl _ _) hb)
  clear hb
  have c0 := box_cell B1.out 0
  have c1 := box_cell B1.out 1
  have c2 := box_cell B1.out 2
  have c3 := box_cell B1.out 3
  have c4 := box_cell B1.out 4
  have c5 := box_cell B1.out 5
  cases hv0 : t.valid with
  | false =>
    go_wp2_with fail
    go_ret
    exact ⟨by simp [hv0], box_below B1.out⟩
  | true =>
    go_wp2_with fail
    refine (implHolesRow d _ t _ (HT.out.below (box_below B1.out)) hsz).mono ?_
    rintro e w2 ⟨a2, cp2, rfl, hb⟩
    have B2 := Lib.hid (box_next B1.out hb)
    clear hb B1 c0 c1 c2 c3 c4 c5
    have c0 := box_cell B2.out 0
    have c1 := box_cell B2.out 1
    have c2 := box_cell B2.out 2
    have c3 := box_cell B2.out 3
    have c4 := box_cell B2.out 4
    have c5 := box_cell B2.out 5
    by_cases hv1 : t.holes.length = 0
    · have qv : ((t.holes.length : Nat) : Int) = 0 := by omega
      have qb : (((t.holes.length : Nat) : Int) == 0) = true := by simp [hv1]
      go_wp2_with fail
      refine (implExFull d _ t _ (HT.out.below (box_below B2.out)) hsz).mono ?_
      rintro e w3 ⟨rfl, hb⟩
      have B3 := Lib.hid (box_next B2.out hb)
      clear hb B2 c0 c1 c2 c3 c4 c5
      go_wp2_with fail
      go_ret
      exact ⟨by simp [hv0, hv1], box_below B3.out⟩
    · have qb : (((t.holes.length : Nat) : Int) == 0) = false := by rw [beq_eq_false_iff_ne]; omega
      go_wp2_with fail
      go_ret
      exact ⟨by simp [hv0, hv1], box_below B2.out⟩
end Go.Proofs.YtadjaclmgdmnbaaDoor
/-
  Proved: the law FnExactIsCompleteExpr answers true for every expression, and leaves the memory that was there as it was.
-/
namespace Go.Proofs.YtadjaclmgdmnbaaDoor
open Go.RowKit

set_option maxRecDepth 100000 in
set_option maxHeartbeats 1000000 in
theorem isCompleteExprWalk (d : Nat) (v1 : Value) (t1 : Ex) (w : World) (h1 : ExAt w d v1 t1) (htab : TabAt w) :
    Calls Tryd.prog 5 #[v1] w fun e w' => e = .returned (.bool true) ∧ Below w.heap.size w w' := by
  obtain ⟨a1k, a1m, a1n, a1tk, a1ta, a1tn, a1tc, a1sa, a1sn, a1sc, rfl⟩ := ex_parts h1
  have B : Hid (Below w.heap.size w (w.alloc (.cells #[.int .i64 a1k, .string a1m, .int .i64 a1n, .int .i64 a1tk, .slice a1ta a1tn a1tc, .slice a1sa a1sn a1sc] 27))) := below_alloc _ _
  have HTAB := Lib.hid (htab.below B.out)
  clear htab
  have HA1 := Lib.hid (h1.below B.out)
  have XA1 : Hid (BoxAt (w.alloc (.cells #[.int .i64 a1k, .string a1m, .int .i64 a1n, .int .i64 a1tk, .slice a1ta a1tn a1tc, .slice a1sa a1sn a1sc] 27)) (w.heap.size) #[.int .i64 a1k, .string a1m, .int .i64 a1n, .int .i64 a1tk, .slice a1ta a1tn a1tc, .slice a1sa a1sn a1sc]) := BoxAt.new _ _ _
  clear h1
  go_enter Tryd.func5, Tryd.ntmps5
  go_wp2_with fail
  refine (szEx_all d _ t1 1048576 _ (by omega) (by omega) HA1.out).mono ?_
  rintro e w1 ⟨r1, rfl, hb, hr1⟩
  replace B := Lib.hid (below_thru B.out (Nat.le_refl _) hb)
  replace HTAB := Lib.hid (HTAB.out.below hb)
  replace HA1 := Lib.hid (HA1.out.below hb)
  replace XA1 := Lib.hid (XA1.out.below hb)
  clear hb
  rcases hr1 with ⟨hr1, hs1⟩ | ⟨hr1, hs1⟩
  · go_wp2_with fail
    go_ret
    exact ⟨rfl, B.out⟩
  have hq1 : r1 ≤ 1048576 := by omega
  have hn1 : t1.bulk ≤ 1048576 := by omega
  clear hs1
  have cXA1_0 := XA1.out.2 0
  have cXA1_1 := XA1.out.2 1
  have cXA1_2 := XA1.out.2 2
  have cXA1_3 := XA1.out.2 3
  have cXA1_4 := XA1.out.2 4
  have cXA1_5 := XA1.out.2 5
  go_wp2_with fail
  clear cXA1_0 cXA1_1 cXA1_2 cXA1_3 cXA1_4 cXA1_5
  refine ((toEx_all d).1 _ t1 _ hn1 HA1.out).mono ?_
  rintro e w2 ⟨s1, fp, rfl, ht, hf, hb⟩
  replace B := Lib.hid (below_thru B.out (Nat.le_refl _) hb)
  replace HTAB := Lib.hid (HTAB.out.below hb)
  replace HA1 := Lib.hid (HA1.out.below hb)
  replace XA1 := Lib.hid (XA1.out.below hb)
  clear hb
  have Hs1 := Lib.hid ht.at_
  clear ht hf
  have cXA1_0 := XA1.out.2 0
  have cXA1_1 := XA1.out.2 1
  have cXA1_2 := XA1.out.2 2
  have cXA1_3 := XA1.out.2 3
  have cXA1_4 := XA1.out.2 4
  have cXA1_5 := XA1.out.2 5
  go_wp2_with fail
  clear cXA1_0 cXA1_1 cXA1_2 cXA1_3 cXA1_4 cXA1_5
  refine (specExComp d s1 t1 _ Hs1.out hn1).mono ?_
  rintro e w3 ⟨rfl, hb⟩
  replace B := Lib.hid (below_thru B.out (Nat.le_refl _) hb)
  replace HTAB := Lib.hid (HTAB.out.below hb)
  replace HA1 := Lib.hid (HA1.out.below hb)
  replace XA1 := Lib.hid (XA1.out.below hb)
  clear hb
  clear Hs1
  have cXA1_0 := XA1.out.2 0
  have cXA1_1 := XA1.out.2 1
  have cXA1_2 := XA1.out.2 2
  have cXA1_3 := XA1.out.2 3
  have cXA1_4 := XA1.out.2 4
  have cXA1_5 := XA1.out.2 5
  go_wp2_with fail
  clear cXA1_0 cXA1_1 cXA1_2 cXA1_3 cXA1_4 cXA1_5
  refine ((toEx_all d).1 _ t1 _ hn1 HA1.out).mono ?_
  rintro e w4 ⟨x1, fp, rfl, ht, hf, hb⟩
  replace B := Lib.hid (below_thru B.out (Nat.le_refl _) hb)
  replace HTAB := Lib.hid (HTAB.out.below hb)
  replace HA1 := Lib.hid (HA1.out.below hb)
  replace XA1 := Lib.hid (XA1.out.below hb)
  clear hb
  obtain ⟨x1k, x1m, x1n, x1tk, x1ta, x1tn, x1tc, x1sa, x1sn, x1sc, rfl⟩ := ex_parts ht.at_
  have HX1 := Lib.hid ht.at_
  clear ht hf
  have XX1 : Hid (BoxAt (w4.alloc (.cells #[.int .i64 x1k, .string x1m, .int .i64 x1n, .int .i64 x1tk, .slice x1ta x1tn x1tc, .slice x1sa x1sn x1sc] 35)) w4.heap.size #[.int .i64 x1k, .string x1m, .int .i64 x1n, .int .i64 x1tk, .slice x1ta x1tn x1tc, .slice x1sa x1sn x1sc]) := BoxAt.new _ _ _
  have hb := below_alloc w4 (.cells #[.int .i64 x1k, .string x1m, .int .i64 x1n, .int .i64 x1tk, .slice x1ta x1tn x1tc, .slice x1sa x1sn x1sc] 35)
  replace B := Lib.hid (below_thru B.out (Nat.le_refl _) hb)
  replace HTAB := Lib.hid (HTAB.out.below hb)
  replace HA1 := Lib.hid (HA1.out.below hb)
  replace XA1 := Lib.hid (XA1.out.below hb)
  replace HX1 := Lib.hid (HX1.out.below hb)
  clear hb
  have cXA1_0 := XA1.out.2 0
  have cXA1_1 := XA1.out.2 1
  have cXA1_2 := XA1.out.2 2
  have cXA1_3 := XA1.out.2 3
  have cXA1_4 := XA1.out.2 4
  have cXA1_5 := XA1.out.2 5
  have cXX1_0 := XX1.out.2 0
  have cXX1_1 := XX1.out.2 1
  have cXX1_2 := XX1.out.2 2
  have cXX1_3 := XX1.out.2 3
  have cXX1_4 := XX1.out.2 4
  have cXX1_5 := XX1.out.2 5
  go_wp2_with fail
  clear cXA1_0 cXA1_1 cXA1_2 cXA1_3 cXA1_4 cXA1_5 cXX1_0 cXX1_1 cXX1_2 cXX1_3 cXX1_4 cXX1_5
  refine (implExComp d _ t1 _ HX1.out hn1 HTAB.out).mono ?_
  rintro e w5 ⟨rfl, hb⟩
  replace B := Lib.hid (below_thru B.out (Nat.le_refl _) hb)
  replace HTAB := Lib.hid (HTAB.out.below hb)
  replace HA1 := Lib.hid (HA1.out.below hb)
  replace XA1 := Lib.hid (XA1.out.below hb)
  replace HX1 := Lib.hid (HX1.out.below hb)
  replace XX1 := Lib.hid (XX1.out.below hb)
  clear hb
  have cXA1_0 := XA1.out.2 0
  have cXA1_1 := XA1.out.2 1
  have cXA1_2 := XA1.out.2 2
  have cXA1_3 := XA1.out.2 3
  have cXA1_4 := XA1.out.2 4
  have cXA1_5 := XA1.out.2 5
  have cXX1_0 := XX1.out.2 0
  have cXX1_1 := XX1.out.2 1
  have cXX1_2 := XX1.out.2 2
  have cXX1_3 := XX1.out.2 3
  have cXX1_4 := XX1.out.2 4
  have cXX1_5 := XX1.out.2 5
  go_wp2_with fail
  clear cXA1_0 cXA1_1 cXA1_2 cXA1_3 cXA1_4 cXA1_5 cXX1_0 cXX1_1 cXX1_2 cXX1_3 cXX1_4 cXX1_5
  have hb := below_drew w5
  replace B := Lib.hid (below_thru B.out (Nat.le_refl _) hb)
  replace HTAB := Lib.hid (HTAB.out.below hb)
  replace HA1 := Lib.hid (HA1.out.below hb)
  replace XA1 := Lib.hid (XA1.out.below hb)
  replace HX1 := Lib.hid (HX1.out.below hb)
  replace XX1 := Lib.hid (XX1.out.below hb)
  clear hb
  go_region_held3 (fun w' => w'.cell? ⟨w.heap.size, 0, none⟩ = some (.int .i64 a1k) ∧ w'.cell? ⟨w.heap.size, 1, none⟩ = some (.string a1m) ∧ w'.cell? ⟨w.heap.size, 2, none⟩ = some (.int .i64 a1n) ∧ w'.cell? ⟨w.heap.size, 3, none⟩ = some (.int .i64 a1tk) ∧ w'.cell? ⟨w.heap.size, 4, none⟩ = some (.slice a1ta a1tn a1tc) ∧ w'.cell? ⟨w.heap.size, 5, none⟩ = some (.slice a1sa a1sn a1sc) ∧ w'.cell? ⟨w4.heap.size, 0, none⟩ = some (.int .i64 x1k) ∧ w'.cell? ⟨w4.heap.size, 1, none⟩ = some (.string x1m) ∧ w'.cell? ⟨w4.heap.size, 2, none⟩ = some (.int .i64 x1n) ∧ w'.cell? ⟨w4.heap.size, 3, none⟩ = some (.int .i64 x1tk) ∧ w'.cell? ⟨w4.heap.size, 4, none⟩ = some (.slice x1ta x1tn x1tc) ∧ w'.cell? ⟨w4.heap.size, 5, none⟩ = some (.slice x1sa x1sn x1sc)) (exact ⟨XA1.out.2 0, XA1.out.2 1, XA1.out.2 2, XA1.out.2 3, XA1.out.2 4, XA1.out.2 5, XX1.out.2 0, XX1.out.2 1, XX1.out.2 2, XX1.out.2 3, XX1.out.2 4, XX1.out.2 5⟩)
    (first
     | (go_at_call_of 10 (Value.agg #[Value.int IntKind.i64 a1k, Value.string a1m, Value.int IntKind.i64 a1n, Value.int IntKind.i64 a1tk, Value.slice a1ta a1tn a1tc, Value.slice a1sa a1sn a1sc])
        refine ((toEx_all d).1 _ t1 _ hn1 HA1.out).mono ?_
        rintro e w6 ⟨y1, fp, rfl, ht, hf, hb⟩
        replace B := Lib.hid (below_thru B.out (Nat.le_refl _) hb)
        replace HTAB := Lib.hid (HTAB.out.below hb)
        replace HA1 := Lib.hid (HA1.out.below hb)
        replace XA1 := Lib.hid (XA1.out.below hb)
        replace HX1 := Lib.hid (HX1.out.below hb)
        replace XX1 := Lib.hid (XX1.out.below hb)
        clear hb
        have Hy1 := Lib.hid ht.at_
        clear ht hf)
     | (go_at_call 12
        refine (eqEx_all d _ y1 t1 _ HX1.out Hy1.out).mono ?_
        rintro e w7 ⟨rfl, hb⟩
        replace B := Lib.hid (below_thru B.out (Nat.le_refl _) hb)
        replace HTAB := Lib.hid (HTAB.out.below hb)
        replace HA1 := Lib.hid (HA1.out.below hb)
        replace XA1 := Lib.hid (XA1.out.below hb)
        replace HX1 := Lib.hid (HX1.out.below hb)
        replace XX1 := Lib.hid (XX1.out.below hb)
        clear hb
        clear Hy1))
  have cXA1_0 := XA1.out.2 0
  have cXA1_1 := XA1.out.2 1
  have cXA1_2 := XA1.out.2 2
  have cXA1_3 := XA1.out.2 3
  have cXA1_4 := XA1.out.2 4
  have cXA1_5 := XA1.out.2 5
  have cXX1_0 := XX1.out.2 0
  have cXX1_1 := XX1.out.2 1
  have cXX1_2 := XX1.out.2 2
  have cXX1_3 := XX1.out.2 3
  have cXX1_4 := XX1.out.2 4
  have cXX1_5 := XX1.out.2 5
  go_wp2_with fail
  go_ret
  exact ⟨rfl, B.out⟩
end Go.Proofs.YtadjaclmgdmnbaaDoor
namespace Go.Proofs.YtadjaclmgdmnbaaDoor.ExactIsCompleteExpr
open Go.ChangeShapes Go.WideShapes Go.ChangeAt Go.RowKit Go.WideMaps Go.WideElems
open Go.ChangeMaps (setBlock shut_map_nil open_string shut_string keptBut_setBlock frozen?_setBlock heap_setBlock_same)
set_option maxRecDepth 100000 in
theorem contract (H : Type) (enc : TypeId × Value → H) (W : World) (base : Nat) (args : Array Value) (ds gs : List (DataW H)) (before : List MemPlace)
    (hval : ∀ (j : Nat) t v, Tryd.f5.params[j]? = some t → args[j]? = some v → Value.okWide Tryd.prog W .any base t v)
    (hW : DataW.Whole enc Tryd.prog Tryd.f5.params.toList Rows.fnExactIsCompleteExprSpec.vars false W args.toList ds gs before) (hL : laidMetH Tryd.prog Rows.fnExactIsCompleteExprRow.laid W)
    (_hsz : (DataW.weightsEach Tryd.prog (Tryd.f5.params.toList ++ (OpenSpec.ofChange Rows.fnExactIsCompleteExprSpec).bare.plain.varTypes Tryd.prog) (ds ++ gs)).all (· ≤ reachBytes) = true) (_hsh : W.ShapedOpen Tryd.prog) :
    Calls Tryd.prog 5 args W fun e W' => ∃ v, e = .returned v ∧ Rows.fnExactIsCompleteExprSpec.post enc Tryd.prog Tryd.f5 false true false false W args v W' := by
  have hW' := hW
  obtain ⟨p, q, hA0, hV, rfl, hfz, hnd⟩ := hW
  have hA : DataW.TrodAll enc Tryd.prog W 0 (fun _ => true) true Tryd.f5.params.toList args.toList ds p := hA0
  rw [Tryd.params5] at hA hval
  obtain ⟨v0, vs0, d0, ds0, p0, q0, hargs, rfl, rfl, h0, r0⟩ := trodAll_cons hA
  obtain ⟨rfl, rfl, rfl⟩ := trodAll_nil r0
  obtain rfl : args = #[v0] := by cases args; simp_all
  obtain ⟨gg, gt, gcs, gfuel, gd, gp, rfl, _⟩ := trodVars_one hV
  obtain ⟨e0, t0, ht0⟩ := ex_of_arg (hval 0 27 v0 rfl rfl) h0
  rw [MakeChecks.laidMetH_plain _ _ _ (by kernel_rfl)] at hL
  have htab : Lib.TabIs Tryd.prog W "loop.example/g00585/impl.arities" .i64 arTab :=
    Lib.tabIs_of_head (rest := []) (g := 1) (t := 82) (e := 3) (n := 15) (by kernel_rfl) (by kernel_rfl) Tryd.underlying82 Tryd.underlying3 (by kernel_rfl) (by kernel_rfl) hL
  refine Calls.mono (isCompleteExprWalk e0 v0 t0 W ht0 htab) fun e W' ⟨he, hg⟩ => ?_
  subst he
  exact ⟨_, rfl, Law.law_post_vars hW' (by kernel_rfl) (by kernel_rfl) Tryd.underlying4 (by kernel_rfl) (by kernel_rfl) rfl hg⟩
set_option maxRecDepth 100000 in
theorem laid_met (os : Os) : laidMet Tryd.prog Rows.fnExactIsCompleteExprRow.laid (((World.doorLaid Tryd.prog 64 os)).forCall (fun _ _ => 0) ⟨#[], #[.agg #[.int .i64 0, .string ⟨#[]⟩, .int .i64 0, .int .i64 0, .slice none 0 0, .slice none 0 0]], []⟩).memory :=
  laidMet_of_run' 8 (by kernel_rfl) (by kernel_rfl)
theorem reads (os : Os) {H : Type} (enc : TypeId × Value → H) : ∃ places, DataW.whole enc Tryd.prog (((World.doorLaid Tryd.prog 64 os)).forCall (fun _ _ => 0) ⟨#[], #[.agg #[.int .i64 0, .string ⟨#[]⟩, .int .i64 0, .int .i64 0, .slice none 0 0, .slice none 0 0]], []⟩).memory Tryd.f5.params.toList Rows.fnExactIsCompleteExprSpec.vars false (#[.agg #[.int .i64 0, .string ⟨#[]⟩, .int .i64 0, .int .i64 0, .slice none 0 0, .slice none 0 0]] : Array Value).toList 8 = some ([.agg [.lit (.int .i64 0), .lit (.string []), .lit (.int .i64 0), .agg [.lit (.int .i64 0), .nil], .nil]], [Rows.laid_loop_example_g00585_impl_arities], places) :=
  ⟨MemPlace.row ⟨1, 0, none⟩ 15, by kernel_rfl⟩
set_option maxRecDepth 100000 in
theorem lifted (os : Os) (started : os.Started) (H : Type) (enc : TypeId × Value → H) (F : Stop.Interp) :
    ReturnsInHanded {} Tryd.checked os 5 .any ((OpenSpec.ofChange Rows.fnExactIsCompleteExprSpec).preRow enc Tryd.prog Tryd.f5 Rows.fnExactIsCompleteExprRow.domain false Rows.fnExactIsCompleteExprRow.laid) (((OpenSpec.ofChange Rows.fnExactIsCompleteExprSpec).at F).post enc Tryd.prog Tryd.f5 false true false false) := by
  obtain ⟨places, hx⟩ := reads os enc
  refine returnsInHanded_of_row (C := Tryd.checked) (s := OpenSpec.ofChange Rows.fnExactIsCompleteExprSpec) (by kernel_rfl) started (by kernel_rfl) Tryd.func5
    (witness_row_atRef (enc := enc) (C := Tryd.checked) false (World.doorLaid Tryd.prog 64 os) #[.agg #[.int .i64 0, .string ⟨#[]⟩, .int .i64 0, .int .i64 0, .slice none 0 0, .slice none 0 0]] rfl (by kernel_rfl) (by kernel_rfl) (by kernel_rfl)
      (OpenSpec.preRow_of_cond 8 hx (by kernel_rfl) (fun k hk => by cases hk) (by kernel_rfl) (laid_met os))) ?_
  intro W base args ds gs before hval hW _ _ hsz hL hsh _
  exact contract H enc W base args ds gs before hval hW hL hsz hsh
theorem said : Rows.FnExactIsCompleteExprSaid :=
  OpenClaim.holds_of_cond 5 Tryd.f5 rfl rfl rfl rfl rfl rfl rfl ⟨rfl, rfl, rfl, rfl, rfl⟩ rfl rfl rfl rfl rfl (by kernel_rfl) Tryd.func5 (by kernel_rfl)
    (of_decide_eq_true (by kernel_rfl)) (by unfold Func.isWrapper; first | (rw [if_pos (by decide +kernel)]; kernel_rfl) | (rw [if_neg (by decide +kernel)]; exact ⟨rfl, rfl⟩))
    (fun os started H enc _ F => by rw [OpenClaim.pre_eq_preRow]; exact lifted os started H enc F)
theorem plain (f : FuncId) (fn : Func) (hf : Tryd.pinned.checked.prog.funcNamed "loop.example/g00585/laws.FnExactIsCompleteExpr" = some f) (hfn : Tryd.pinned.checked.prog.funcs[f]? = some fn) :
    false = Tryd.pinned.checked.prog.looks [] ∧ ∀ (j : Nat) t, fn.params[j]? = some t → Tryd.pinned.checked.prog.wantsStandIn t = false := by
  obtain rfl : f = 5 := Option.some.inj ((show Tryd.prog.funcNamed "loop.example/g00585/laws.FnExactIsCompleteExpr" = some 5 by kernel_rfl).symm.trans hf) |>.symm
  obtain rfl : fn = Tryd.f5 := (Option.some.inj (Tryd.func5.symm.trans hfn)).symm
  refine ⟨by kernel_rfl, fun j t ht => ?_⟩
  rw [Tryd.params5] at ht
  have hm : t ∈ [27] := by simpa using Array.mem_of_getElem? ht
  have hall : ([27].all fun u => !Tryd.prog.wantsStandIn u) = true := by kernel_rfl
  exact (show Tryd.prog.wantsStandIn t = false by simpa using List.all_eq_true.1 hall t hm)
theorem card : Rows.FnExactIsCompleteExprCardSaid :=
  Claim7.holds_tied_plain_at .later [] _ _ _ _ said (fun _ h => by cases h) (by kernel_rfl) (fun _ h => by cases h) fnExactIsCompleteExpr_row_tie rfl ⟨rfl, rfl⟩ (by kernel_rfl) rfl plain (by kernel_rfl)
end Go.Proofs.YtadjaclmgdmnbaaDoor.ExactIsCompleteExpr
