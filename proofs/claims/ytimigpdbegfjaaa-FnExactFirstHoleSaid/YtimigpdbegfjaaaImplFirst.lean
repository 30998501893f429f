/-
  Proved: impl.FirstHole gives the path of the first hole, in memory of its own, and whether there is one; the memory that was there stays as it was.
-/
import Derived.Test.YtimigpdbegfjaaaFirstFacts
import Derived.Test.YtimigpdbegfjaaaAppStep
import Derived.Deep.Upon
import Derived.Deep.RegionHeld3
namespace Go.Proofs.Ytimigpdbegfjaaa
open Go.RowKit

/-- A path that is appended to nil. -/
theorem path_nil_by (ty : TypeId) (w : World) (v : Value) (ps : List Int) (hv : Ints w v ps) (hn : ps.length ≤ 2097152) :
    ∃ v' w', (Builtin.append_ #[29, 29] ty #[.slice none 0 0, v]).run Try.prog w = .ok v' w' ∧ w'.ownsRow w.heap.size 3 1 v' ps.length (ps.map (Value.int .i64)) ∧ Below w.heap.size w w' := by
  obtain ⟨i0, hi, hz0, hz1, hz2⟩ := info_parts info_i
  obtain ⟨a, cap, rfl, hcap, hat⟩ := hv
  by_cases h0 : 0 < ps.length
  · obtain ⟨g, off, rfl, hg, _⟩ := hat 0 h0
    obtain ⟨v', w', hr, ho, hgr, _, _⟩ := run_append_own_at (P := Try.prog) w w.heap.size 29 ty 3 i0 (.int .i64 0) 1 8 Try.underlying29 hi hz0 hz1 hz2 rfl (by omega) (.slice none 0 0) 0 [] (World.ownsRow_nil _ _ _ _)
      ⟨g, off, none⟩ ps.length cap (ps.map (Value.int IntKind.i64)) (by simp) (fun j u h => by
        simp at h
        obtain ⟨x, hx, rfl⟩ := h
        obtain ⟨hj, rfl⟩ := List.getElem?_eq_some_iff.1 hx
        obtain ⟨g', off', e, _, hc⟩ := hat j hj
        cases e
        rw [addr_add]; exact hc) (fun u hu => by obtain ⟨x, _, rfl⟩ := List.mem_map.1 hu; rfl) (by unfold maxLen; omega) (by omega) (Nat.le_refl _)
    rw [Nat.zero_add, List.nil_append] at ho
    exact ⟨v', w', hr, ho, (Below.refl _ w).grown hgr (Nat.le_refl _) (fun k e => by cases e)⟩
  · have hp : ps = [] := List.length_eq_zero_iff.1 (by omega)
    subst hp
    refine ⟨_, w, run_append_nothing w 29 29 ty 3 i0 Try.underlying29 hi none 0 0 (Nat.le_refl _) (.slice a 0 cap) ?_, World.ownsRow_nil _ _ _ _, Below.refl _ _⟩
    cases a with
    | none => exact Src.ofNil w Try.underlying29 cap
    | some a => exact Src.ofSlice w Try.underlying29 a 0 cap [] (by simp) (fun j u h => by simp at h) (by simp)
/-- What the search ends in. -/
def FHEnd (lo : Nat) (pv : Value) (ps : List Int) (r : Option (List Int)) (w : World) (e : Ending) (w' : World) : Prop :=
  ∃ v', e = .returned (.tuple #[v', .bool r.isSome]) ∧ w'.ownsRow w.heap.size 3 1 v' (r.getD []).length ((r.getD []).map (Value.int IntKind.i64)) ∧ w'.ownsRow lo 3 1 pv ps.length (ps.map (Value.int IntKind.i64)) ∧ Below lo w w' ∧
    (∀ b, b < w.heap.size → pv.ownBlock ≠ some b → w'.heap[b]? = w.heap[b]?)
def FHSaid (d : Nat) : Prop := ∀ (lo b off : Nat) (c0 c1 c2 c3 c4 c5 : Value) (t : Ex) (w0 w : World) (pv : Value) (ps : List Int),
  ExAt w0 d (.agg #[c0, c1, c2, c3, c4, c5]) t → Below w0.heap.size w0 w → w0.heap.size ≤ lo → lo ≤ w.heap.size → b < w0.heap.size → w0.cell? ⟨b, off, none⟩ = some c0 → w0.cell? ⟨b, off + 5, none⟩ = some c5 →
  ps.length + t.bulk ≤ 1048576 → w.ownsRow lo 3 1 pv ps.length (ps.map (Value.int IntKind.i64)) →
  Calls Try.prog 59 #[.pointer (some ⟨b, off, none⟩), pv] w (FHEnd lo pv ps (t.first ps) w)
set_option maxRecDepth 100000 in
set_option maxHeartbeats 4000000 in
theorem implFirst_step (d : Nat) (ih : FHSaid d) : FHSaid (d + 1) := by
  intro lo b off c0 c1 c2 c3 c4 c5 t w0 w pv ps hat hw0 hlo hlow hbw h0 h5 hb2 hpv
  have IH := Lib.hid ih; clear ih
  cases t with
  | node kd nm n ty es =>
    obtain ⟨z3, z4, sl, hv, hk0, hk1, _, _, _, _, a, cap, rfl, hcap, hcap2, hrow⟩ := hat
    injection hv with hv
    injection hv with hv
    simp at hv
    obtain ⟨rfl, _, _, _, _, rfl⟩ := hv
    have hbk : (Ex.node kd nm n ty es).bulk = nm.size + (ty.size - 1) + Ex.bulks es := rfl
    rw [hbk] at hb2
    have hlen := Ex.length_le es
    have HSZ : Hid (ps.length + Ex.bulks es ≤ 1048576) := by show _ ≤ _; omega
    have hle1 : es.length ≤ 1048576 := by omega
    have hps : ps.length ≤ 1048576 := by omega
    clear hb2 hbk hlen
    have HROW := Lib.hid hrow; clear hrow
    have HW0 := Lib.hid hw0; clear hw0
    have H5 := Lib.hid h5; clear h5
    have H0 := Lib.hid h0; clear h0
    have HPV := Lib.hid hpv; clear hpv
    have c0 : w.cell? ⟨b, off, none⟩ = some (.int .i64 kd) := (HW0.out.cell (p := ⟨b, off, none⟩) hbw).trans H0.out
    have c5 : w.cell? ⟨b, off + 5, none⟩ = some (.slice a es.length cap) := (HW0.out.cell (p := ⟨b, off + 5, none⟩) hbw).trans H5.out
    by_cases hq : kd = 1
    · subst hq
      have HR : Hid (∀ ty, ∃ v' w', (Builtin.append_ #[29, 29] ty #[.slice none 0 0, pv]).run Try.prog w = .ok v' w' ∧ w'.ownsRow w.heap.size 3 1 v' ps.length (ps.map (Value.int .i64)) ∧ Below w.heap.size w w') := fun ty => path_nil_by ty w pv ps (Ints.of_own HPV.out) (by omega)
      have HF : Hid ((Ex.node 1 nm n ty es).first ps = some ps) := Ex.first_hole
      go_enter Try.func59, Try.ntmps59
      go_wp2_with (at_builtin; go_loud (refine wpList_app_by rfl _ _ 29 rfl (.slice none 0 0) pv rfl rfl (HR.out _) ?_; rintro v1 w1 ⟨ho, hb⟩; refine Hid.out ?_))
      refine Lib.hid ?_
      have HO := Lib.hid ho
      have HB := Lib.hid hb
      clear ho hb c0 c5
      go_wp2_with fail
      refine bodyPost_ret (v := .tuple #[v1, .bool true]) (by simp [results, Try.results59, go_sem]) rfl ?_
      rw [HF.out]
      exact ⟨_, rfl, HO.out, own_keeps HPV.out fun j hj => HB.out.block j (HPV.out.lt j hj).2, HB.out.mono hlow, fun j h1 _ => HB.out.block j h1⟩
    · have hq' : (kd == 1) = false := by simpa using hq
      go_enter Try.func59, Try.ntmps59
      go_wp2_with fail
      clear c0 c5
      go_loopw [21] (fun i wr => ∃ (k : Nat), k ≤ es.length ∧ i = .int .i64 k ∧ (Ex.pns (es.take k) ps 0).find? holeP = none ∧ wr.ownsRow lo 3 1 pv ps.length (ps.map (Value.int IntKind.i64)) ∧ Below lo w wr ∧
        (∀ k, k < w.heap.size → pv.ownBlock ≠ some k → wr.heap[k]? = w.heap[k]?)) (fun i _ => es.length - (intOf i).toNat)
      case atStart => exact ⟨0, by omega, rfl, by simp [Ex.pns], HPV.out, Below.refl _ _, fun _ _ _ => rfl⟩
      case round =>
        obtain ⟨k, hk, rfl, hfn, hp, hb, hkk⟩ := hrel
        have HFN := Lib.hid hfn; clear hfn
        have HP := Lib.hid hp; clear hp
        have HB := Lib.hid hb; clear hb
        have HKK := Lib.hid hkk; clear hkk
        by_cases hlt : k < es.length
        · obtain ⟨g, o, x0, x1, x2, x3, x4, x5, rfl, hgl, e0, e1, e2, e3, e4, e5, hex⟩ := HROW.out k hlt
          have HBR : Hid (Below w0.heap.size w0 wr) := HW0.out.trans (HB.out.mono hlo)
          have E5 := Lib.hid e5
          have HEX := Lib.hid hex
          have E0 := Lib.hid e0
          clear e0 e1 e2 e3 e4 e5 hex
          have hki0 : (0 : Int) ≤ (k : Int) := by omega
          have hki1 : (k : Int) < (es.length : Int) := by omega
          have hlr : lo ≤ wr.heap.size := Nat.le_trans hlow HB.out.size
          have HR2 : Hid (∀ ty, ∃ v' w', (Builtin.append_ #[29, 29] ty #[pv, .slice (some ⟨wr.heap.size, 0, none⟩) 1 1]).run Try.prog (wr.drew.alloc (.cells #[.int .i64 (k : Int)] 3)) = .ok v' w' ∧ Pushed lo pv ps (k : Int) (wr.drew.alloc (.cells #[.int .i64 (k : Int)] 3)) v' w') := by
            refine Lib.hid fun ty => ?_
            exact run_push _ lo _ pv ps (k : Int) _ (by simp; omega) (own_keeps HP.out fun j hj => ((below_alloc wr.drew _).block j (HP.out.lt j hj).2)) (by omega) (by simp [go_sem])
          go_wp2_with fail
          go_region_held3 (fun w' => w'.cell? ⟨b, off + 5, none⟩ = some (.slice (some ⟨g, o, none⟩) es.length cap)) (first | exact (HBR.out.drew.cell (p := ⟨b, off + 5, none⟩) hbw).trans H5.out | exact ((HBR.out.drew.alloc HBR.out.drew.size _).cell (p := ⟨b, off + 5, none⟩) hbw).trans H5.out | exact (HBW.out.cell (p := ⟨b, off + 5, none⟩) hbw).trans H5.out)
            (first
             | (refine step_app_by (by rfl) _ _ 29 (by rfl) pv _ (by rfl) (by rfl) (HR2.out _) ?_
                rintro v3 w3 ⟨ho3, hg3, hv3, hback⟩
                have hz3 := hg3.size
                try simp only [World.size_alloc] at hz3
                try simp only [World.size_alloc] at hv3
                try simp only [World.size_drew] at hz3
                try simp only [World.size_drew] at hv3
                have HO3 := Lib.hid ho3
                have HBK := Lib.hid hback
                have HB3 : Hid (Below lo w w3) := (HB.out.drew.alloc (by show lo ≤ wr.heap.size; omega) _).grown hg3 (by simp; omega) (fun j hj => (HP.out.lt j hj).1)
                have HBW : Hid (Below w0.heap.size w0 w3) := HW0.out.trans (HB3.out.mono hlo)
                have HK3 : Hid (∀ j, j < wr.heap.size → pv.ownBlock ≠ some j → w3.heap[j]? = wr.heap[j]?) := fun j h1 h2 => by
                  rw [hg3.block j (by simp; omega) (fun e => h2 e.symm), heap_alloc_old _ _ (by show j < wr.heap.size; omega)]; rfl
                have HV3 : Hid (v3.ownBlock = pv.ownBlock ∨ (v3.ownBlock = some (wr.heap.size + 1) ∧ ∀ j, j < wr.heap.size → w3.heap[j]? = wr.heap[j]?)) := by
                  rcases hv3 with h | ⟨h, h2⟩
                  · exact Or.inl h
                  · exact Or.inr ⟨h, fun j hj => by rw [h2 j (by show j < wr.heap.size + 1; omega), heap_alloc_old _ _ (by show j < wr.heap.size; omega)]; rfl⟩
                have HZ3 : Hid (wr.heap.size ≤ w3.heap.size) := by show _ ≤ _; omega
                clear ho3 hg3 hv3 hback hz3)
             | (go_at_call 59
                refine (IH.out lo g (o + k * 6) x0 x1 x2 x3 x4 x5 es[k] w0 w3 v3 (ps ++ [(k : Int)]) HEX.out HBW.out hlo (by have := HZ3.out; omega) hgl E0.out E5.out ?_ HO3.out).mono ?_
                · have h2 := Ex.bulk_get es k hlt
                  have h4 := HSZ.out
                  simp only [List.length_append, List.length_cons, List.length_nil]
                  omega
                rintro e w4 ⟨v4, rfl, ho4, hp4, hb4, hk4⟩
                have HO4 : Hid (w4.ownsRow w.heap.size 3 1 v4 ((es[k].first (ps ++ [(k : Int)])).getD []).length (((es[k].first (ps ++ [(k : Int)])).getD []).map (Value.int IntKind.i64))) := own_mono ho4 (by have := HZ3.out; have := HB.out.size; omega)
                have HP4 : Hid (w4.ownsRow lo 3 1 pv ps.length (ps.map (Value.int IntKind.i64))) := by
                  refine HBK.out w4 hp4 fun j hj hne => ?_
                  have hjl := (HP.out.lt j hj).2
                  rcases HV3.out with h | ⟨h, h2⟩
                  · rw [h] at hne; exact absurd hj hne
                  · rw [heap_alloc_old _ _ (by show j < wr.heap.size; omega)]
                    rw [hk4 j (by have := HZ3.out; omega) hne, h2 j hjl]; rfl
                have HB4 : Hid (Below lo w w4) := HB3.out.trans hb4
                have HKK4 : Hid (∀ j, j < w.heap.size → pv.ownBlock ≠ some j → w4.heap[j]? = w.heap[j]?) := fun j h1 h3 => by
                  have hjr : j < wr.heap.size := Nat.lt_of_lt_of_le h1 HB.out.size
                  rw [hk4 j (by have := HZ3.out; omega) ?_, HK3.out j hjr h3, HKK.out j h1 h3]
                  intro e
                  rcases HV3.out with h | ⟨h, _⟩
                  · rw [h] at e; exact h3 e
                  · rw [h] at e; injection e with e; omega
                replace HBW : Hid (Below w0.heap.size w0 w4) := HW0.out.trans (HB4.out.mono hlo)
                clear ho4 hp4 hb4 hk4))
          cases hf : es[k].first (ps ++ [(k : Int)]) with
          | some q =>
            rw [hf] at HO4
            have HF : Hid ((Ex.node kd nm n ty es).first ps = some q) := Ex.first_at hq hlt HFN.out hf
            go_wp2_with fail
            refine bodyPost_ret (v := .tuple #[v4, .bool true]) (by simp [results, Try.results59, go_sem]) rfl ?_
            rw [HF.out]
            exact ⟨_, rfl, HO4.out, HP4.out, HB4.out, HKK4.out⟩
          | none =>
            have HF := Lib.hid (Ex.first_on hlt HFN.out hf)
            go_wp2_with fail
            exact ⟨⟨k + 1, by omega, by go_num, HF.out, HP4.out, HB4.out, HKK4.out⟩, by simp [intOf]; omega⟩
        · obtain rfl : k = es.length := by omega
          have HF : Hid ((Ex.node kd nm n ty es).first ps = none) := Ex.first_none hq HFN.out
          go_wp2_with fail
          refine bodyPost_ret (v := .tuple #[.slice none 0 0, .bool false]) (by simp [results, Try.results59, go_sem]) rfl ?_
          rw [HF.out]
          exact ⟨_, rfl, World.ownsRow_nil _ _ _ _, HP.out, HB.out, HKK.out⟩
theorem implFirst_all (d : Nat) : FHSaid d := by
  induction d with
  | zero => exact fun lo b off c0 c1 c2 c3 c4 c5 t w0 w pv ps h => h.elim
  | succ d ih => exact implFirst_step d ih
/-- A path in memory of its own, and whether there is one. -/
def FirstEnd (t : Ex) (w : World) (e : Ending) (w' : World) : Prop :=
  ∃ v', e = .returned (.tuple #[v', .bool (t.first []).isSome]) ∧ IntsIn w' v' ((t.first []).getD []) w.heap.size w'.heap.size ∧ Below w.heap.size w w'
set_option maxRecDepth 100000 in
set_option maxHeartbeats 2000000 in
theorem implFirstHole (d : Nat) (v : Value) (t : Ex) (w : World) (hsz : t.bulk ≤ 1048576) (h : ExAt w d v t) :
    Calls Try.prog 15 #[v] w (FirstEnd t w) := by
  obtain ⟨k, nm, n, tk, ta, tn, tc, sa, sn, sc, rfl⟩ := ex_parts h
  obtain ⟨W, hW⟩ : ∃ W, W = w.alloc (.cells #[.int .i64 k, .string nm, .int .i64 n, .int .i64 tk, .slice ta tn tc, .slice sa sn sc] 37) := ⟨_, rfl⟩
  have hb : Below w.heap.size w W := by rw [hW]; exact below_alloc _ _
  have XA : BoxAt W w.heap.size #[.int .i64 k, .string nm, .int .i64 n, .int .i64 tk, .slice ta tn tc, .slice sa sn sc] := by rw [hW]; exact BoxAt.new _ _ _
  have hc := implFirst_all d W.heap.size w.heap.size 0 _ _ _ _ _ _ t W W (.slice none 0 0) [] (h.below hb) (Below.refl _ _) (Nat.le_refl _) (Nat.le_refl _) XA.1 (XA.2 0) (XA.2 5) (by simpa using hsz) (World.ownsRow_nil _ _ _ _)
  have HC := Lib.hid hc
  have HB := Lib.hid hb
  clear hc h XA hb
  go_enter Try.func15, Try.ntmps15
  go_wp2_with fail
  rw [← hW]
  refine HC.out.mono ?_
  rintro e w1 ⟨v1, rfl, ho, _, hb1, _⟩
  have hz := HB.out.size
  have HO := Lib.hid (own_mono ho hz)
  have HB1 := Lib.hid (HB.out.trans (hb1.mono hz))
  clear ho hb1
  go_wp2_with fail
  refine bodyPost_ret (v := .tuple #[v1, .bool (t.first []).isSome]) (by simp [results, Try.results15, go_sem]) rfl ?_
  exact ⟨_, rfl, ⟨HO.out, fun g hg => (HO.out.lt g hg).2, Nat.le_refl _⟩, HB1.out⟩
end Go.Proofs.Ytimigpdbegfjaaa
