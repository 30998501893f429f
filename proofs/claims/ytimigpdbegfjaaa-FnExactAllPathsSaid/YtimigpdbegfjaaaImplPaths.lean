/-
  Proved: impl.appendPaths appends the paths of all nodes of an expression to a list of the call's own, and impl.AllPaths lists them in new memory; the memory that was there stays as it was.
-/
import Derived.Test.YtimigpdbegfjaaaPathsN
import Derived.Test.YtimigpdbegfjaaaCloneInts
import Derived.Deep.RegionHeld3
namespace Go.Proofs.Ytimigpdbegfjaaa
open Go.RowKit

/-- What appending ends in. -/
def APEnd (lo : Nat) (qv pv : Value) (pss : List (List Int)) (ps : List Int) (t : Ex) (N : Nat → Prop) (w : World) (e : Ending) (w' : World) : Prop :=
  ∃ v', e = .returned v' ∧ PsN w' v' (pss ++ t.paths ps) lo N ∧ w'.ownsRow lo 3 1 pv ps.length (ps.map (Value.int IntKind.i64)) ∧ Below lo w w' ∧
    (∀ b, b < w.heap.size → qv.ownBlock ≠ some b → pv.ownBlock ≠ some b → w'.heap[b]? = w.heap[b]?) ∧ (v'.ownBlock = qv.ownBlock ∨ ∀ g, v'.ownBlock = some g → w.heap.size ≤ g)
def APSaid (d : Nat) : Prop := ∀ (lo b off : Nat) (c0 c1 c2 c3 c4 c5 : Value) (t : Ex) (w0 w : World) (qv pv : Value) (pss : List (List Int)) (ps : List Int) (N : Nat → Prop),
  ExAt w0 d (.agg #[c0, c1, c2, c3, c4, c5]) t → Below w0.heap.size w0 w → w0.heap.size ≤ lo → lo ≤ w.heap.size → b < w0.heap.size → w0.cell? ⟨b, off + 5, none⟩ = some c5 →
  pss.length + 1 + t.bulk ≤ 2097152 → ps.length + t.bulk ≤ 1048576 → w.ownsRow lo 3 1 pv ps.length (ps.map (Value.int IntKind.i64)) → PsN w qv pss lo N → (∀ g, N g → g < w.heap.size) → (∀ g, pv.ownBlock = some g → N g) →
  Calls Try.prog 67 #[qv, .pointer (some ⟨b, off, none⟩), pv] w (APEnd lo qv pv pss ps t N w)
set_option maxRecDepth 100000 in
set_option maxHeartbeats 4000000 in
theorem implPaths_step (d : Nat) (ih : APSaid d) : APSaid (d + 1) := by
  intro lo b off c0 c1 c2 c3 c4 c5 t w0 w qv pv pss ps N hat hw0 hlo hlow hbw h5 hb1 hb2 hpv hqv hN hpN
  have IH := Lib.hid ih; clear ih
  cases t with
  | node kd nm n ty es =>
    obtain ⟨z3, z4, sl, hv, _, _, _, _, _, _, a, cap, rfl, hcap, hcap2, hrow⟩ := hat
    injection hv with hv
    injection hv with hv
    simp at hv
    obtain ⟨_, _, _, _, _, rfl⟩ := hv
    have hbk : (Ex.node kd nm n ty es).bulk = nm.size + (ty.size - 1) + Ex.bulks es := rfl
    rw [hbk] at hb1 hb2
    have hlen := Ex.length_le es
    have HSZ : Hid (pss.length + 1 + Ex.bulks es ≤ 2097152 ∧ ps.length + Ex.bulks es ≤ 1048576) := ⟨by omega, by omega⟩
    have hle1 : es.length ≤ 1048576 := by omega
    have hps : ps.length ≤ 1048576 := by omega
    have hpn : pss.length ≤ 2097152 := by omega
    clear hb1 hb2 hbk hlen
    have HROW := Lib.hid hrow; clear hrow
    have HW0 := Lib.hid hw0; clear hw0
    have H5 := Lib.hid h5; clear h5
    have HPV := Lib.hid hpv; clear hpv
    have HQV := Lib.hid hqv; clear hqv
    have HN := Lib.hid hN; clear hN
    have HPN := Lib.hid hpN; clear hpN
    go_enter Try.func67, Try.ntmps67
    go_wp2_with fail
    refine (cloneInts pv ps w (Ints.of_own HPV.out) hps).mono ?_
    rintro e w1 ⟨sa, sc, rfl, hsv, hb⟩
    have HS := Lib.hid hsv
    have HB1 := Lib.hid hb; clear hsv hb
    have hz1 := HB1.out.size
    have HR : Hid (∀ ty, ∃ v' w', (Builtin.append_ #[45, 45] ty #[qv, .slice (some ⟨w1.heap.size, 0, none⟩) 1 1]).run Try.prog (w1.alloc (.cells #[.slice sa ps.length sc] 29)) = .ok v' w' ∧ Joined1 lo qv pss ps N (w1.alloc (.cells #[.slice sa ps.length sc] 29)) v' w') := by
      refine Lib.hid fun ty => ?_
      obtain ⟨svs, o1, o2, o3, o4⟩ := HQV.out
      have ba := below_alloc w1 (.cells #[.slice sa ps.length sc] 29)
      have bb := HB1.out.trans (ba.mono hz1)
      exact run_join1 _ lo w.heap.size _ qv _ pss ps N _ svs (own_keeps o1 fun k hk => bb.block k (o1.lt k hk).2) (o2.keeps (by simp; omega) fun k hk _ => bb.block k hk) o3 (fun g hg => ⟨(o1.lt g hg).2, o4 g hg⟩) ((HS.out.below ba).wide (Nat.le_refl _) (by simp) (Nat.le_refl _)) (fun g hg => HN.out g hg) hlow (by omega) (by simp [Value.oneCell']) (by simp [go_sem])
    go_wp2_with (at_builtin; go_loud (refine wpList_app_by rfl (.tmp 8) (.tmp 11) 45 rfl qv (.slice (some ⟨w1.heap.size, 0, none⟩) 1 1) rfl rfl (HR.out _) ?_; rintro v2 w2 hj; refine Hid.out ?_))
    refine Lib.hid ?_
    obtain ⟨hq2, hg2, hv2⟩ := hj
    have hz2 := hg2.size
    simp only [World.size_alloc] at hz2
    have HQ2 := Lib.hid hq2
    have HV2 : Hid (v2.ownBlock = qv.ownBlock ∨ ∀ g, v2.ownBlock = some g → w.heap.size ≤ g) := by
      rcases hv2 with h | h
      · exact Or.inl h
      · exact Or.inr fun g hg => by rw [h] at hg; simp at hg; omega
    have HK2 : Hid (∀ k, k < w.heap.size → qv.ownBlock ≠ some k → w2.heap[k]? = w.heap[k]?) := fun k h1 h2 => by
      rw [hg2.block k (by simp; omega) (fun e => h2 e.symm), heap_alloc_old _ _ (by omega), HB1.out.block k h1]
    have HB2 : Hid (Below lo w w2) := ((HB1.out.mono hlow).alloc (by omega) _).grown hg2 (by simp; omega) (fun g hg => by obtain ⟨svs, o1, _⟩ := HQV.out; exact (o1.lt g hg).1)
    have HP2 : Hid (w2.ownsRow lo 3 1 pv ps.length (ps.map (Value.int IntKind.i64))) := own_keeps HPV.out fun k hk => HK2.out k (HPV.out.lt k hk).2 fun e => by
      obtain ⟨svs, o1, o2, o3, o4⟩ := HQV.out
      exact o4 k e (HPN.out k hk)
    clear hq2 hg2 hv2 HS
    have hzw : w.heap.size ≤ w2.heap.size := by omega
    have HZW := Lib.hid hzw
    clear hz2 hz1 HB1
    have c5 : w2.cell? ⟨b, off + 5, none⟩ = some (.slice a es.length cap) := ((HW0.out.trans (HB2.out.mono hlo)).cell (p := ⟨b, off + 5, none⟩) hbw).trans H5.out
    go_wp2_with fail
    clear c5
    go_loopw [0, 18] (fun o i wr => ∃ (k : Nat), k ≤ es.length ∧ i = .int .i64 k ∧ PsN wr o (pss ++ [ps] ++ Ex.pathss (es.take k) ps 0) lo N ∧ wr.ownsRow lo 3 1 pv ps.length (ps.map (Value.int IntKind.i64)) ∧ Below lo w wr ∧
      (∀ k, k < w.heap.size → qv.ownBlock ≠ some k → pv.ownBlock ≠ some k → wr.heap[k]? = w.heap[k]?) ∧ (o.ownBlock = qv.ownBlock ∨ ∀ g, o.ownBlock = some g → w.heap.size ≤ g)) (fun _ i _ => es.length - (intOf i).toNat)
    case atStart => exact ⟨0, by omega, rfl, by simpa [Ex.pathss] using HQ2.out, HP2.out, HB2.out, fun k h1 h2 _ => HK2.out k h1 h2, HV2.out⟩
    case round =>
      obtain ⟨k, hk, rfl, hq, hp, hb, hkk, hov⟩ := hrel
      have HQ := Lib.hid hq; clear hq
      have HP := Lib.hid hp; clear hp
      have HB := Lib.hid hb; clear hb
      have HKK := Lib.hid hkk; clear hkk
      have HOV := Lib.hid hov; clear hov
      by_cases hlt : k < es.length
      · obtain ⟨g, o, x0, x1, x2, x3, x4, x5, rfl, hgl, e0, e1, e2, e3, e4, e5, hex⟩ := HROW.out k hlt
        have HBR : Hid (Below w0.heap.size w0 wr) := HW0.out.trans (HB.out.mono hlo)
        have E5 := Lib.hid e5
        have HEX := Lib.hid hex
        clear e0 e1 e2 e3 e4 e5 hex
        have hki0 : (0 : Int) ≤ (k : Int) := by omega
        have hki1 : (k : Int) < (es.length : Int) := by omega
        have hlr : lo ≤ wr.heap.size := Nat.le_trans hlow HB.out.size
        have HR2 : Hid (∀ ty, ∃ v' w', (Builtin.append_ #[29, 29] ty #[pv, .slice (some ⟨wr.heap.size, 0, none⟩) 1 1]).run Try.prog (wr.drew.alloc (.cells #[.int .i64 (k : Int)] 3)) = .ok v' w' ∧ Pushed lo pv ps (k : Int) (wr.drew.alloc (.cells #[.int .i64 (k : Int)] 3)) v' w') := by
          refine Lib.hid fun ty => ?_
          exact run_push _ lo _ pv ps (k : Int) _ (by simp; omega) (own_keeps HP.out fun j hj => ((below_alloc wr.drew _).block j (HP.out.lt j hj).2)) (by omega) (by simp [go_sem])
        go_wp2_with fail
        go_region_held3 (fun w' => w'.cell? ⟨b, off + 5, none⟩ = some (.slice (some ⟨g, o, none⟩) es.length cap)) (first | exact (HBR.out.drew.cell (p := ⟨b, off + 5, none⟩) hbw).trans H5.out | exact ((HBR.out.drew.alloc HBR.out.drew.size _).cell (p := ⟨b, off + 5, none⟩) hbw).trans H5.out | exact (HBW.out.cell (p := ⟨b, off + 5, none⟩) hbw).trans H5.out)
          (first
           | (refine step_app_by (by rfl) _ _ 29 (by rfl) pv _ (by rfl) (by rfl) (HR2.out _) ?_
              rintro v3 w3 ⟨ho3, hg3, hv3, hback⟩
              have hz3 := hg3.size
              try simp only [World.size_alloc] at hz3
              try simp only [World.size_alloc] at hv3
              try simp only [World.size_drew] at hz3
              try simp only [World.size_drew] at hv3
              have HO3 := Lib.hid ho3
              have HBK := Lib.hid hback
              have HB3 : Hid (Below lo w w3) := (HB.out.drew.alloc (by show lo ≤ wr.heap.size; omega) _).grown hg3 (by simp; omega) (fun j hj => (HP.out.lt j hj).1)
              have HBW : Hid (Below w0.heap.size w0 w3) := HW0.out.trans (HB3.out.mono hlo)
              have HK3 : Hid (∀ j, j < wr.heap.size → pv.ownBlock ≠ some j → w3.heap[j]? = wr.heap[j]?) := fun j h1 h2 => by
                rw [hg3.block j (by simp; omega) (fun e => h2 e.symm), heap_alloc_old _ _ (by show j < wr.heap.size; omega)]; rfl
              have HV3 : Hid (v3.ownBlock = pv.ownBlock ∨ (v3.ownBlock = some (wr.heap.size + 1) ∧ ∀ j, j < wr.heap.size → w3.heap[j]? = wr.heap[j]?)) := by
                rcases hv3 with h | ⟨h, h2⟩
                · exact Or.inl h
                · exact Or.inr ⟨h, fun j hj => by rw [h2 j (by show j < wr.heap.size + 1; omega), heap_alloc_old _ _ (by show j < wr.heap.size; omega)]; rfl⟩
              have HQ3 : Hid (PsN w3 _ (pss ++ [ps] ++ Ex.pathss (es.take k) ps 0) lo (fun j => N j ∨ v3.ownBlock = some j)) := (HQ.out.sub (M := fun j => N j ∨ v3.ownBlock = some j) (fun j h1 h2 => by
                rcases h2 with h2 | h2
                · exact h2
                · rcases HV3.out with h | ⟨h, _⟩
                  · rw [h] at h2; exact HPN.out j h2
                  · rw [h] at h2; injection h2 with h2; omega)).kept (by omega) (fun j h1 h2 => HK3.out j h1 fun e => h2 (Or.inl (HPN.out j e)))
              have HZ3 : Hid (wr.heap.size ≤ w3.heap.size) := by show _ ≤ _; omega
              clear ho3 hg3 hv3 hback hz3)
           | (go_at_call 67
              refine (IH.out lo g (o + k * 6) x0 x1 x2 x3 x4 x5 es[k] w0 w3 _ v3 (pss ++ [ps] ++ Ex.pathss (es.take k) ps 0) (ps ++ [(k : Int)]) (fun j => N j ∨ v3.ownBlock = some j) HEX.out HBW.out hlo (by have := HZ3.out; omega) hgl E5.out ?_ ?_ HO3.out HQ3.out ?_ (fun j hj => Or.inr hj)).mono ?_
              · have h1 := Ex.pathss_length (es.take k) ps 0
                have h2 := Ex.bulks_take es k hlt
                have h3 := Ex.bulks_le es (k + 1)
                have h4 := HSZ.out.1
                simp only [List.length_append, List.length_cons, List.length_nil]
                omega
              · have h2 := Ex.bulk_get es k hlt
                have h4 := HSZ.out.2
                simp only [List.length_append, List.length_cons, List.length_nil]
                omega
              · intro j hj
                rcases hj with hj | hj
                · have := HN.out j hj; have := HB.out.size; have := HZ3.out; omega
                · exact (HO3.out.lt j hj).2
              rintro e w4 ⟨v4, rfl, hq4, hp4, hb4, hk4, hv4⟩
              have HQ4 : Hid (PsN w4 v4 (pss ++ [ps] ++ Ex.pathss (es.take (k + 1)) ps 0) lo N) := by
                have := hq4.sub (M := N) (fun j _ h => Or.inl h)
                rw [Ex.pathss_take es ps 0 k hlt, Nat.zero_add, ← List.append_assoc]
                exact this
              have HP4 : Hid (w4.ownsRow lo 3 1 pv ps.length (ps.map (Value.int IntKind.i64))) := by
                refine HBK.out w4 hp4 fun j hj hne => ?_
                have hjl := (HP.out.lt j hj).2
                rcases HV3.out with h | ⟨h, h2⟩
                · rw [h] at hne; exact absurd hj hne
                · rw [heap_alloc_old _ _ (by show j < wr.heap.size; omega)]
                  rw [hk4 j (by have := HZ3.out; omega) (fun e => by obtain ⟨svs, _, _, _, o4⟩ := HQ.out; exact o4 j e (HPN.out j hj)) hne, h2 j hjl]; rfl
              have HB4 : Hid (Below lo w w4) := HB3.out.trans hb4
              have HKK4 : Hid (∀ j, j < w.heap.size → qv.ownBlock ≠ some j → pv.ownBlock ≠ some j → w4.heap[j]? = w.heap[j]?) := fun j h1 h2 h3 => by
                have hjr : j < wr.heap.size := Nat.lt_of_lt_of_le h1 HB.out.size
                rw [hk4 j (by have := HZ3.out; omega) ?_ ?_, HK3.out j hjr h3, HKK.out j h1 h2 h3]
                · intro e
                  rcases HOV.out with h | h
                  · rw [h] at e; exact h2 e
                  · have := h j e; omega
                · intro e
                  rcases HV3.out with h | ⟨h, _⟩
                  · rw [h] at e; exact h3 e
                  · rw [h] at e; injection e with e; omega
              have HOV4 : Hid (v4.ownBlock = qv.ownBlock ∨ ∀ j, v4.ownBlock = some j → w.heap.size ≤ j) := by
                rcases hv4 with h | h
                · rw [h]; exact HOV.out
                · exact Or.inr fun j hj => by have := h j hj; have := HZ3.out; have := HB.out.size; omega
              replace HBW : Hid (Below w0.heap.size w0 w4) := HW0.out.trans (HB4.out.mono hlo)
              clear hq4 hp4 hb4 hk4 hv4))
        all_goals go_wp2_with fail
        all_goals exact ⟨⟨k + 1, by omega, by go_num, HQ4.out, HP4.out, HB4.out, HKK4.out, HOV4.out⟩, by simp [intOf]; omega⟩
      · obtain rfl : k = es.length := by omega
        go_wp2_with fail
        go_ret
        refine ⟨_, rfl, ?_, HP.out, HB.out, HKK.out, HOV.out⟩
        have := HQ.out
        rw [List.take_length, List.append_assoc] at this
        exact this
theorem implPaths_all (d : Nat) : APSaid d := by
  induction d with
  | zero => exact fun lo b off c0 c1 c2 c3 c4 c5 t w0 w qv pv pss ps N h => h.elim
  | succ d ih => exact implPaths_step d ih
set_option maxRecDepth 100000 in
set_option maxHeartbeats 2000000 in
theorem implAllPaths (d : Nat) (v : Value) (t : Ex) (w : World) (hsz : t.bulk ≤ 1048576) (h : ExAt w d v t) :
    Calls Try.prog 24 #[v] w fun e w' => ∃ v', e = .returned v' ∧ PsIn w' v' (t.paths []) w.heap.size w'.heap.size ∧ Below w.heap.size w w' := by
  obtain ⟨k, nm, n, tk, ta, tn, tc, sa, sn, sc, rfl⟩ := ex_parts h
  obtain ⟨W, hW⟩ : ∃ W, W = w.alloc (.cells #[.int .i64 k, .string nm, .int .i64 n, .int .i64 tk, .slice ta tn tc, .slice sa sn sc] 37) := ⟨_, rfl⟩
  have hb : Below w.heap.size w W := by rw [hW]; exact below_alloc _ _
  have XA : BoxAt W w.heap.size #[.int .i64 k, .string nm, .int .i64 n, .int .i64 tk, .slice ta tn tc, .slice sa sn sc] := by rw [hW]; exact BoxAt.new _ _ _
  have hc := implPaths_all d W.heap.size w.heap.size 0 _ _ _ _ _ _ t W W (.slice none 0 0) (.slice none 0 0) [] [] (fun _ => False) (h.below hb) (Below.refl _ _) (Nat.le_refl _) (Nat.le_refl _) XA.1 (XA.2 5) (by simp; omega) (by simpa using hsz) (World.ownsRow_nil _ _ _ _) (PsN.nil _ _ _) (fun g h => h.elim) (fun g h => by cases h)
  have HC := Lib.hid hc
  have HB := Lib.hid hb
  clear hc h XA hb
  go_enter Try.func24, Try.ntmps24
  go_wp2_with fail
  rw [← hW]
  refine HC.out.mono ?_
  rintro e w1 ⟨v1, rfl, hq, _, hb1, _, _⟩
  have hz := HB.out.size
  have HQ := Lib.hid hq
  have HB1 := Lib.hid (HB.out.trans (hb1.mono hz))
  clear hq hb1
  go_wp2_with fail
  go_ret
  obtain ⟨svs, o1, o2, o3, o4⟩ := HQ.out
  exact ⟨_, rfl, PsIn.of_els (own_mono o1 hz) (fun g hg => (o1.lt g hg).2) (o2.wide hz (Nat.le_refl _) (Nat.le_refl _)) (fun sv hs g hg => (o3 sv hs g hg).1), HB1.out⟩
end Go.Proofs.Ytimigpdbegfjaaa
