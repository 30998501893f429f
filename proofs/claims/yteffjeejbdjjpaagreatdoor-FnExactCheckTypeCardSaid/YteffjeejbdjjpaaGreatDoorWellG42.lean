/-
  Proved: impl.analyze: what an expression is analyzed against.
-/
import Derived.Test.YteffjeejbdjjpaaGreatDoorWellG20
import Derived.Test.YteffjeejbdjjpaaGreatDoorWellG3
import Derived.BigQuiet
import Derived.Deep.DeepCutAuto
import Derived.Test.YteffjeejbdjjpaaGreatDoorWellG13
import Derived.Lib.SlBuf
import Derived.Laws.CopyRow
import Derived.Test.YteffjeejbdjjpaaGreatDoorWellG37
import Derived.Test.YteffjeejbdjjpaaGreatDoorWellG17
/-
  Proved: impl.analyzeAll: whether expressions are analyzed against types, one by one.
-/
namespace Go.Proofs.YteffjeejbdjjpaaGreatDoor
open Go.RowKit

/-- Whether each expression is analyzed against the type with its number. -/
def anaAll (d : Nat) (C : List Bi) : List Ex → List Ty → Bool
  | _, [] => true
  | e :: es, t :: ts => anaE d C e t && anaAll d C es ts
  | [], _ :: _ => true
theorem anaAll_take (d : Nat) (C : List Bi) : ∀ (es : List Ex) (ts : List Ty) (k : Nat) (h : k < es.length) (h2 : k < ts.length), anaAll d C es (ts.take (k + 1)) = (anaAll d C es (ts.take k) && anaE d C es[k] ts[k])
  | [], _, _, h, _ => by simp at h
  | _ :: _, [], _, _, h => by simp at h
  | e :: es, t :: ts, 0, _, _ => by simp [anaAll]
  | e :: es, t :: ts, k + 1, h, h2 => by
    simp only [List.take_succ_cons, anaAll, List.getElem_cons_succ]
    rw [anaAll_take d C es ts k (by simpa using h) (by simpa using h2), Bool.and_assoc]
theorem anaAll_false (d : Nat) (C : List Bi) : ∀ (es : List Ex) (ts : List Ty) (k : Nat), anaAll d C es (ts.take k) = false → anaAll d C es ts = false
  | _, [], k, h => by simp [anaAll] at h
  | [], t :: ts, k, h => by cases k <;> simp [anaAll] at h
  | e :: es, t :: ts, 0, h => by simp [anaAll] at h
  | e :: es, t :: ts, k + 1, h => by
    simp only [List.take_succ_cons, anaAll, Bool.and_eq_false_iff] at h ⊢
    rcases h with h | h
    · exact Or.inl h
    · exact Or.inr (anaAll_false d C es ts k h)
set_option maxRecDepth 100000 in
set_option maxHeartbeats 4000000 in
theorem implAll (d : Nat) (iha : ImplAnaSaid d) (D D2 : Nat) (pe : Addr) (vc av tv : Value) (C : List Bi) (es : List Ex) (ts : List Ty) (wo w : World) (hbo : Below wo.heap.size wo w) (hv : BisAt wo D vc C) (ha : ExsAt wo d av es) (ht : TysAt w D2 tv ts) (hle : ts.length ≤ es.length)
    (hok : ∀ j (h : j < es.length), TypOk C es[j]) (hsz : ∀ j (h : j < ts.length), ts[j].size ≤ 1048577) (herr : ErrAt wo pe) (hmt : MeetTab wo) :
    Calls Tryz.prog 75 #[vc, av, tv] w fun e w' => e = .returned (errOf pe (anaAll d C es ts)) ∧ Below w.heap.size w w' := by
  obtain ⟨sa, sc, rfl, hcap, hcap2, hat⟩ := ha
  obtain ⟨ta, tc, rfl, htcap, htcap2, htt⟩ := ht
  obtain ⟨va, vn, vc1, rfl⟩ : ∃ a n c, vc = .slice a n c := by obtain ⟨a, cap, hv, _⟩ := hv; exact ⟨_, _, _, hv⟩
  have HV := Lib.hid hv
  have HAT := Lib.hid hat
  have HTT := Lib.hid htt
  have HOK := Lib.hid hok
  have HSZ := Lib.hid hsz
  have HERR := Lib.hid herr
  have HMT := Lib.hid hmt
  have HBO := Lib.hid hbo
  have IHA := Lib.hid iha
  clear hv hat htt hok hsz herr hmt hbo iha
  go_enter Tryz.func75, Tryz.ntmps75
  go_wp2_with fail
  go_loopw [12] (fun i wr => ∃ k : Nat, k ≤ ts.length ∧ i = .int .i64 k ∧ anaAll d C es (ts.take k) = true ∧ Below w.heap.size w wr) (fun i _ => ts.length - (intOf i).toNat)
  case atStart => exact ⟨0, by omega, rfl, by simp [anaAll], Below.refl _ _⟩
  case round =>
    obtain ⟨k, hk, rfl, hall, hb⟩ := hrel
    have HALL := Lib.hid hall
    have BW := Lib.hid hb
    have B : Hid (Below wo.heap.size wo wr) := Lib.hid (below_thru HBO.out (Nat.le_refl _) hb)
    clear hall hb
    by_cases hlt : k < ts.length
    · have hle2 : k < es.length := by omega
      obtain ⟨b, off, x0, x1, x2, x3, x4, x5, rfl, hbl, z0, z1, z2, z3, z4, z5, hte⟩ := HAT.out k hle2
      obtain ⟨xk, xnm, xn, xtk, xta, xtn, xtc, xsa, xsm, xsc, rfl, rfl, rfl, rfl, rfl, rfl⟩ := ex_cells hte
      obtain ⟨g, og, y0, y1, rfl, hgl, t0, t1, htx⟩ := HTT.out k hlt
      obtain ⟨uk, ua, un, uc, rfl, rfl⟩ := at_parts htx
      have HTE := Lib.hid hte
      have HTX := Lib.hid htx
      have Z0 := Lib.hid z0
      have Z1 := Lib.hid z1
      have Z2 := Lib.hid z2
      have Z3 := Lib.hid z3
      have Z4 := Lib.hid z4
      have Z5 := Lib.hid z5
      have c0 : wr.cell? ⟨g, og + k * 2, none⟩ = _ := (BW.out.cell (p := ⟨g, og + k * 2, none⟩) hgl).trans t0
      have c1 : wr.cell? ⟨g, og + k * 2 + 1, none⟩ = _ := (BW.out.cell (p := ⟨g, og + k * 2 + 1, none⟩) hgl).trans t1
      clear z0 z1 z2 z3 z4 z5 t0 t1 hte htx
      have HSTEP := Lib.hid (anaAll_take d C es ts k hle2 hlt)
      cases hq : anaE d C es[k] ts[k] with
      | true =>
        have HQ := Lib.hid hq
        clear hq
        go_wp2_with fail
        clear c0 c1
        obtain ⟨wa, hwa⟩ : ∃ W, W = wr.alloc (.cells #[.int .i64 uk, .slice ua un uc] 33) := ⟨_, rfl⟩
        have hba : Below wr.heap.size wr wa := by rw [hwa]; exact below_alloc _ _
        have XT : Hid (BoxAt wa wr.heap.size #[.int .i64 uk, .slice ua un uc]) := by rw [hwa]; exact Lib.hid (BoxAt.new _ _ _)
        have B2 := Lib.hid (below_thru B.out (Nat.le_refl _) hba)
        have BW2 := Lib.hid (below_thru BW.out (Nat.le_refl _) hba)
        rw [← hwa]
        clear hwa hba
        have hbl9 : b < wa.heap.size := Nat.lt_of_lt_of_le hbl B2.out.size
        have g0 : ∀ q : Grown wa.heap.size wa, q.val.cell? ⟨b, off + k * 6, none⟩ = _ := fun q => (q.old.cell (p := ⟨b, off + k * 6, none⟩) hbl9).trans ((B2.out.cell (p := ⟨b, off + k * 6, none⟩) hbl).trans Z0.out)
        have g1 : ∀ q : Grown wa.heap.size wa, q.val.cell? ⟨b, off + k * 6 + 1, none⟩ = _ := fun q => (q.old.cell (p := ⟨b, off + k * 6 + 1, none⟩) hbl9).trans ((B2.out.cell (p := ⟨b, off + k * 6 + 1, none⟩) hbl).trans Z1.out)
        have g2 : ∀ q : Grown wa.heap.size wa, q.val.cell? ⟨b, off + k * 6 + 2, none⟩ = _ := fun q => (q.old.cell (p := ⟨b, off + k * 6 + 2, none⟩) hbl9).trans ((B2.out.cell (p := ⟨b, off + k * 6 + 2, none⟩) hbl).trans Z2.out)
        have g3 : ∀ q : Grown wa.heap.size wa, q.val.cell? ⟨b, off + k * 6 + 3, none⟩ = _ := fun q => (q.old.cell (p := ⟨b, off + k * 6 + 3, none⟩) hbl9).trans ((B2.out.cell (p := ⟨b, off + k * 6 + 3, none⟩) hbl).trans Z3.out)
        have g4 : ∀ q : Grown wa.heap.size wa, q.val.cell? ⟨b, off + k * 6 + 4, none⟩ = _ := fun q => (q.old.cell (p := ⟨b, off + k * 6 + 4, none⟩) hbl9).trans ((B2.out.cell (p := ⟨b, off + k * 6 + 4, none⟩) hbl).trans Z4.out)
        have g5 : ∀ q : Grown wa.heap.size wa, q.val.cell? ⟨b, off + k * 6 + 5, none⟩ = _ := fun q => (q.old.cell (p := ⟨b, off + k * 6 + 5, none⟩) hbl9).trans ((B2.out.cell (p := ⟨b, off + k * 6 + 5, none⟩) hbl).trans Z5.out)
        have u0 : ∀ q : Grown wa.heap.size wa, q.val.cell? ⟨wr.heap.size, 0, none⟩ = _ := fun q => (XT.out.below q.old).2 0
        have u1 : ∀ q : Grown wa.heap.size wa, q.val.cell? ⟨wr.heap.size, 1, none⟩ = _ := fun q => (XT.out.below q.old).2 1
        have CA : ∀ q : Grown wa.heap.size wa, Calls Tryz.prog 48 #[.slice va vn vc1, .agg #[.int .i64 xk, .string xnm, .int .i64 xn, .int .i64 xtk, .slice xta xtn xtc, .slice xsa xsm xsc], .agg #[.int .i64 uk, .slice ua un uc]] q.val fun e w' => e = .returned .nilIface ∧ Below q.val.heap.size q.val w' := fun q => by
          have h := IHA.out D D2 pe (.slice va vn vc1) _ _ C es[k] ts[k] q.val ((HV.out.below B2.out).below q.old) ((HTE.out.below B2.out).below q.old) ((HTX.out.below BW2.out).below q.old) (HOK.out k hle2) (HSZ.out k hlt) ((HERR.out.below B2.out).below q.old) ((HMT.out.below B2.out).below q.old)
          rw [HQ.out] at h
          exact h
        refine wp_region_grown wa.heap.size (by kernel_rfl) (by kernel_rfl) ?_
        repeat (go_big_quiet_step ((go_at_call 48; exact grown_of (Nat.le_refl _) (CA _))))
        refine wpQuiet_nil ?_
        rintro wq ⟨⟨wz, hb⟩, hqe⟩
        have hqe2 : wq = wz := hqe
        clear hqe
        subst hqe2
        clear g0 g1 g2 g3 g4 g5 u0 u1 CA
        have BW3 := Lib.hid (below_thru BW2.out (Nat.le_refl _) hb)
        clear hb
        go_wp2_with fail
        exact ⟨⟨k + 1, by omega, by go_num, by rw [HSTEP.out, HALL.out, HQ.out]; rfl, BW3.out⟩, by simp [intOf]; omega⟩
      | false =>
        have HQ := Lib.hid hq
        clear hq
        go_wp2_with fail
        clear c0 c1
        obtain ⟨wa, hwa⟩ : ∃ W, W = wr.alloc (.cells #[.int .i64 uk, .slice ua un uc] 33) := ⟨_, rfl⟩
        have hba : Below wr.heap.size wr wa := by rw [hwa]; exact below_alloc _ _
        have XT : Hid (BoxAt wa wr.heap.size #[.int .i64 uk, .slice ua un uc]) := by rw [hwa]; exact Lib.hid (BoxAt.new _ _ _)
        have B2 := Lib.hid (below_thru B.out (Nat.le_refl _) hba)
        have BW2 := Lib.hid (below_thru BW.out (Nat.le_refl _) hba)
        rw [← hwa]
        clear hwa hba
        have hbl9 : b < wa.heap.size := Nat.lt_of_lt_of_le hbl B2.out.size
        have g0 : ∀ q : Grown wa.heap.size wa, q.val.cell? ⟨b, off + k * 6, none⟩ = _ := fun q => (q.old.cell (p := ⟨b, off + k * 6, none⟩) hbl9).trans ((B2.out.cell (p := ⟨b, off + k * 6, none⟩) hbl).trans Z0.out)
        have g1 : ∀ q : Grown wa.heap.size wa, q.val.cell? ⟨b, off + k * 6 + 1, none⟩ = _ := fun q => (q.old.cell (p := ⟨b, off + k * 6 + 1, none⟩) hbl9).trans ((B2.out.cell (p := ⟨b, off + k * 6 + 1, none⟩) hbl).trans Z1.out)
        have g2 : ∀ q : Grown wa.heap.size wa, q.val.cell? ⟨b, off + k * 6 + 2, none⟩ = _ := fun q => (q.old.cell (p := ⟨b, off + k * 6 + 2, none⟩) hbl9).trans ((B2.out.cell (p := ⟨b, off + k * 6 + 2, none⟩) hbl).trans Z2.out)
        have g3 : ∀ q : Grown wa.heap.size wa, q.val.cell? ⟨b, off + k * 6 + 3, none⟩ = _ := fun q => (q.old.cell (p := ⟨b, off + k * 6 + 3, none⟩) hbl9).trans ((B2.out.cell (p := ⟨b, off + k * 6 + 3, none⟩) hbl).trans Z3.out)
        have g4 : ∀ q : Grown wa.heap.size wa, q.val.cell? ⟨b, off + k * 6 + 4, none⟩ = _ := fun q => (q.old.cell (p := ⟨b, off + k * 6 + 4, none⟩) hbl9).trans ((B2.out.cell (p := ⟨b, off + k * 6 + 4, none⟩) hbl).trans Z4.out)
        have g5 : ∀ q : Grown wa.heap.size wa, q.val.cell? ⟨b, off + k * 6 + 5, none⟩ = _ := fun q => (q.old.cell (p := ⟨b, off + k * 6 + 5, none⟩) hbl9).trans ((B2.out.cell (p := ⟨b, off + k * 6 + 5, none⟩) hbl).trans Z5.out)
        have u0 : ∀ q : Grown wa.heap.size wa, q.val.cell? ⟨wr.heap.size, 0, none⟩ = _ := fun q => (XT.out.below q.old).2 0
        have u1 : ∀ q : Grown wa.heap.size wa, q.val.cell? ⟨wr.heap.size, 1, none⟩ = _ := fun q => (XT.out.below q.old).2 1
        have CA : ∀ q : Grown wa.heap.size wa, Calls Tryz.prog 48 #[.slice va vn vc1, .agg #[.int .i64 xk, .string xnm, .int .i64 xn, .int .i64 xtk, .slice xta xtn xtc, .slice xsa xsm xsc], .agg #[.int .i64 uk, .slice ua un uc]] q.val fun e w' => e = .returned (.iface 141 (.pointer (some pe))) ∧ Below q.val.heap.size q.val w' := fun q => by
          have h := IHA.out D D2 pe (.slice va vn vc1) _ _ C es[k] ts[k] q.val ((HV.out.below B2.out).below q.old) ((HTE.out.below B2.out).below q.old) ((HTX.out.below BW2.out).below q.old) (HOK.out k hle2) (HSZ.out k hlt) ((HERR.out.below B2.out).below q.old) ((HMT.out.below B2.out).below q.old)
          rw [HQ.out] at h
          exact h
        refine wp_region_grown wa.heap.size (by kernel_rfl) (by kernel_rfl) ?_
        repeat (go_big_quiet_step ((go_at_call 48; exact grown_of (Nat.le_refl _) (CA _))))
        refine wpQuiet_nil ?_
        rintro wq ⟨⟨wz, hb⟩, hqe⟩
        have hqe2 : wq = wz := hqe
        clear hqe
        subst hqe2
        clear g0 g1 g2 g3 g4 g5 u0 u1 CA
        have BW3 := Lib.hid (below_thru BW2.out (Nat.le_refl _) hb)
        clear hb
        have HFA : Hid (anaAll d C es ts = false) := anaAll_false d C es ts (k + 1) (by rw [HSTEP.out, HALL.out, HQ.out]; rfl)
        go_wp2_with fail
        go_ret
        exact ⟨by rw [HFA.out]; rfl, BW3.out⟩
    · obtain rfl : k = ts.length := by omega
      have HFA : Hid (anaAll d C es ts = true) := by have h := HALL.out; rw [List.take_length] at h; exact h
      go_wp2_with fail
      go_ret
      exact ⟨by rw [HFA.out]; rfl, BW.out⟩
end Go.Proofs.YteffjeejbdjjpaaGreatDoor
/-
  Proved: impl.withTyping gives a context with one more typing, in new memory; the memory that was there stays as it was.
-/
namespace Go.Proofs.YteffjeejbdjjpaaGreatDoor
open Go.RowKit

/-- A context is copied into a row of the call's own that is longer by one. -/
theorem ctx_copied (ty : TypeId) (wo w : World) (d g : Nat) (v : Value) (C : List Bi) (cur : Array Value) (hv : BisAt wo d v C) (hbo : Below wo.heap.size wo w) (hg : w.heap[g]? = some (.cells cur 61 (0, 0))) (hcur : cur.size = (C.length + 1) * 3) (hlo : wo.heap.size ≤ g) (hn : C.length ≤ 1048576) :
    ∃ w', (Builtin.copy_ #[36, 36] ty #[.slice (some ⟨g, 0, none⟩) C.length (C.length + 1), v]).run Tryz.prog w = .ok (.int .i64 C.length) w' ∧ (∃ cs, w'.ownsRow g 61 3 (.slice (some ⟨g, 0, none⟩) C.length (C.length + 1)) C.length cs ∧ TypCells wo d cs C) ∧ Below wo.heap.size wo w' ∧ w'.heap.size = w.heap.size ∧ ∀ b, b ≠ g → w'.heap[b]? = w.heap[b]? := by
  obtain ⟨i0, hi, hz0, hz1, hz2⟩ := info_parts info_typ
  obtain ⟨a, cap, rfl, hcap, hm, hat⟩ := hv
  obtain ⟨_, _, _, cs, hcs, hsrc⟩ := cells_of_bis (w := wo) (d := d) (a := a) (n := C.length) (c := cap) (C := C) ⟨a, cap, rfl, hcap, hm, hat⟩
  have hgl : g < w.heap.size := (Array.getElem?_eq_some_iff.1 hg).1
  by_cases h0 : 0 < C.length
  · obtain ⟨gs, off, _, _, _, rfl, hgs, _⟩ := hat 0 h0
    have hsrc2 : ∀ j u, cs[j]? = some u → w.cell? ((⟨gs, off, none⟩ : Addr).add j) = some u := fun j u hu => by
      have h1 := hsrc _ rfl j u hu
      rw [addr_add] at h1 ⊢
      exact (hbo.cell (p := ⟨gs, off + j, none⟩) hgs).trans h1
    have hlen := hcs.1
    have hl := run_loadCells_list (P := Tryz.prog) w ⟨gs, off, none⟩ cs hsrc2
    have hst := run_storeCells_at Tryz.prog g 0 61 cs 0 cur w hg (by omega) hcs.2.1
    rw [hlen] at hl
    simp only [Nat.zero_add, List.take_zero, List.nil_append] at hst
    rw [hlen] at hst
    have hnew := setRow_heap w g cur (cs ++ cur.toList.drop (C.length * 3)).toArray 61 (0, 0) hg
    refine ⟨w.setRow g (cs ++ cur.toList.drop (C.length * 3)).toArray, ?_, ⟨cs, ⟨hlen, Or.inr ⟨g, C.length + 1, _, rfl, Nat.le_refl _, hnew, by omega, by unfold maxLen; omega, ?_, ?_⟩⟩, hcs⟩, ?_, by simp, fun b hb => setRow_other w g b _ hb⟩
    · simp [Builtin.copy_, run_underlying Tryz.underlying36, Builtin.lenOf, Builtin.firstCells, sizeOf, typeInfo, hi, hz1, hl, hst, goInt]
    · simp [hlen]; omega
    · simp [hlen]
    · exact hbo.trans ⟨rfl, rfl, rfl, by simp, fun k hk => setRow_other w g k _ (by omega)⟩
  · have hp : C = [] := List.length_eq_zero_iff.1 (by omega)
    subst hp
    have hcs0 : cs = [] := List.length_eq_zero_iff.1 (by have := hcs.1; simpa using this)
    subst hcs0
    refine ⟨w, ?_, ⟨[], ⟨rfl, Or.inr ⟨g, 1, cur, rfl, Nat.le_refl _, hg, by omega, by unfold maxLen; omega, by simpa using hcur, by simp⟩⟩, hcs⟩, hbo, rfl, fun b _ => rfl⟩
    cases a with
    | none => simp [Builtin.copy_, run_underlying Tryz.underlying36, Builtin.lenOf, Builtin.firstCells, sizeOf, typeInfo, hi, storeCells, goInt]
    | some a =>
      have hl := run_loadCells_list (P := Tryz.prog) w a [] (fun j v h => by simp at h)
      simp only [List.length_nil] at hl
      simp [Builtin.copy_, run_underlying Tryz.underlying36, Builtin.lenOf, Builtin.firstCells, sizeOf, typeInfo, hi, storeCells, goInt, hl]
set_option maxRecDepth 100000 in
set_option maxHeartbeats 2000000 in
theorem implWith8 (d d2 : Nat) (v tv : Value) (C : List Bi) (nm : ByteArray) (t : Ty) (w : World) (hv : BisAt w d v C) (ht : TyAt w d2 tv t) (hnm : nm.size ≤ 9223372036854775807) (hn : C.length ≤ 1048576) :
    Calls Tryz.prog 70 #[v, .string nm, tv] w (CtxEnd (C ++ [⟨nm, t⟩]) w) := by
  obtain ⟨tk, ta, tn, tc, rfl⟩ := agg_parts ht
  obtain ⟨i0, hi, hz0, hz1, hz2⟩ := info_parts info_typ
  obtain ⟨wA, hwA⟩ : ∃ W, W = w.alloc (.cells #[.int .i64 tk, .slice ta tn tc] 33) := ⟨_, rfl⟩
  have hzA : wA.heap.size = w.heap.size + 1 := by rw [hwA]; simp
  have BA : Hid (Below w.heap.size w wA) := by rw [hwA]; exact Lib.hid (below_alloc _ _)
  have XA : Hid (BoxAt wA w.heap.size #[.int .i64 tk, .slice ta tn tc]) := by rw [hwA]; exact Lib.hid (BoxAt.new _ _ _)
  obtain ⟨M, hM⟩ : ∃ M : Array Value, M = madeCells (Value.agg #[.string ⟨#[]⟩, .int .i64 0, .slice none 0 0]).cells ((C.length + 1) * 3) := ⟨_, rfl⟩
  have hMs : M.size = (C.length + 1) * 3 := by rw [hM]; exact size_madeCells _ _
  have hmk : (Instr.makeSlice 36 (.int .i64 (C.length : Int)) (.int .i64 ((C.length : Int) + 1))).run Tryz.prog wA = .ok (.slice (some ⟨wA.heap.size, 0, none⟩) C.length (C.length + 1)) (wA.alloc (.cells M 61)) := by
    have h := run_make (P := Tryz.prog) wA 36 61 i0 _ Tryz.underlying36 hi hz0 .i64 .i64 (C.length : Int) ((C.length : Int) + 1) (by omega) (by omega) (by rw [hz2]; omega) (by omega)
    rw [hz1, show ((C.length : Int) + 1).toNat = C.length + 1 from by omega, Int.toNat_natCast, ← hM] at h
    exact h
  obtain ⟨wB, hwB⟩ : ∃ W, W = wA.alloc (.cells M 61) := ⟨_, rfl⟩
  have hzB : wB.heap.size = w.heap.size + 2 := by rw [hwB]; simp; omega
  have BB : Hid (Below w.heap.size w wB) := by rw [hwB]; exact Lib.hid (BA.out.alloc (by omega) _)
  have hgB : wB.heap[wA.heap.size]? = some (.cells M 61 (0, 0)) := by rw [hwB]; exact heap_alloc_new _ _
  have HCP : Hid (∀ ty, ∃ w', (Builtin.copy_ #[36, 36] ty #[.slice (some ⟨wA.heap.size, 0, none⟩) C.length (C.length + 1), v]).run Tryz.prog wB = .ok (.int .i64 C.length) w' ∧ (∃ cs, w'.ownsRow wA.heap.size 61 3 (.slice (some ⟨wA.heap.size, 0, none⟩) C.length (C.length + 1)) C.length cs ∧ TypCells w d cs C) ∧ Below w.heap.size w w' ∧ w'.heap.size = wB.heap.size ∧ ∀ b, b ≠ wA.heap.size → w'.heap[b]? = wB.heap[b]?) :=
    fun ty => ctx_copied ty w wB d wA.heap.size v C M hv BB.out hgB hMs (by omega) hn
  have XB : Hid (BoxAt wB w.heap.size #[.int .i64 tk, .slice ta tn tc]) := by rw [hwB]; exact Lib.hid (XA.out.below (below_alloc _ _))
  have HT := Lib.hid ht
  have HNM := Lib.hid hnm
  have HI := Lib.hid hi
  have HZ0 := Lib.hid hz0
  have HZ1 := Lib.hid hz1
  have HZ2 := Lib.hid hz2
  have HA := Lib.hid hzA
  have HB := Lib.hid hzB
  have hwr : IntKind.i64.wrap ((C.length : Int) + 1) = (C.length : Int) + 1 := IntWalk.i64_in _ (by omega)
  obtain ⟨va, vc1, rfl⟩ : ∃ a c, v = .slice a C.length c := by obtain ⟨a, cap, hv, _⟩ := hv; exact ⟨_, _, hv⟩
  clear hv ht hnm hi hz0 hz1 hz2 hgB hMs hM hzA hzB
  rw [← hwB] at hmk
  have HWB := Lib.hid hwB
  clear hwB
  go_enter Tryz.func70, Tryz.ntmps70
  go_upto_region 1 with fail
  rw [← hwA]
  clear hwA
  obtain ⟨w2, hcp, ⟨cs, ho, hc⟩, hb2, hz2, hk2⟩ := HCP.out 3
  have HO := Lib.hid ho
  have HC := Lib.hid hc
  have B2 := Lib.hid hb2
  have XT : Hid (BoxAt w2 w.heap.size #[.int .i64 tk, .slice ta tn tc]) := Lib.hid (XB.out.kept (by omega) (hk2 _ (by have := HA.out; omega)))
  have HZ := Lib.hid hz2
  have x0 := XT.out.2 0
  have x1 := XT.out.2 1
  clear ho hc hb2 hz2 hk2
  go_wp2_with (at_builtin; go_loud (refine wpList_append_own_at _ rfl (.tmp 17) (.tmp 21) 36 rfl wA.heap.size 61 i0 (.agg #[.string ⟨#[]⟩, .int .i64 0, .slice none 0 0]) 3 48 Tryz.underlying36 HI.out HZ0.out HZ1.out HZ2.out rfl (by decide) (.slice (some ⟨wA.heap.size, 0, none⟩) C.length (C.length + 1)) C.length cs rfl (HO.out.alloc _) ⟨w2.heap.size, 0, none⟩ 1 1 [.string nm, .int .i64 tk, .slice ta tn tc] rfl rfl (World.news_of_block (heap_alloc_new w2 _)) (by simp [Value.oneCell']) (by unfold maxLen; omega) (by omega) (by have h1 := HZ.out; have h2 := HB.out; have h3 := HA.out; simp; omega) ?_
                                    intro v3 w3 hown3 hg3 _ _
                                    refine Hid.out ?_))
  refine Lib.hid ?_
  clear x0 x1 hcp hmk
  have hlo := HO.out.lt
  have hA := HA.out
  have hB := HB.out
  have hZ := HZ.out
  have B3 : Hid (Below w.heap.size w w3) := Lib.hid ((B2.out.alloc (by omega) _).grown hg3 (by simp; omega) (fun k hk => by have := (hlo k hk).1; omega))
  have HO3 : Hid (w3.ownsRow wA.heap.size 61 3 v3 (C ++ [(⟨nm, t⟩ : Bi)]).length (cs ++ [.string nm, .int .i64 tk, .slice ta tn tc])) := by show World.ownsRow _ _ _ _ _ _ _; simpa using hown3
  have hbi : BiAt w (d + d2) (.agg #[.string nm, .int .i64 tk, .slice ta tn tc]) ⟨nm, t⟩ := ⟨tk, ta, tn, tc, rfl, HNM.out, HT.out.mono (by omega)⟩
  have hcs2 := (TypCells.snoc (HC.out.mono (by omega : d ≤ d + d2)) hbi).below B3.out
  have HBS := Lib.hid (bis_of_own HO3.out hcs2)
  obtain ⟨pa, pn, pc, rfl⟩ := row_slice HO3.out
  clear hown3 hg3 hlo hbi hcs2 hA hB hZ
  go_wp2_with fail
  go_ret
  exact ⟨_, pa, pn, pc, rfl, HBS.out, B3.out⟩
end Go.Proofs.YteffjeejbdjjpaaGreatDoor
namespace Go.Proofs.YteffjeejbdjjpaaGreatDoor
open Go.RowKit

theorem tys2 {w : World} {D p : Nat} {a0 a1 b0 b1 : Value} {x y : Ty} (hb : BoxAt w p #[a0, a1, b0, b1]) (h1 : TyAt w D (.agg #[a0, a1]) x) (h2 : TyAt w D (.agg #[b0, b1]) y) : TysAt w D (.slice (some ⟨p, 0, none⟩) 2 2) [x, y] := by
 refine ⟨_, _, rfl, by simp, by omega, fun j hj => ?_⟩
 rcases j with _ | _ | j
 ·exact ⟨p, 0, a0, a1, rfl, hb.1, hb.2 0, hb.2 1, h1⟩
 ·exact ⟨p, 0, b0, b1, rfl, hb.1, hb.2 2, hb.2 3, h2⟩
 ·simp at hj; omega
theorem tys3 {w : World} {D p : Nat} {a0 a1 b0 b1 c0 c1 : Value} {x y z : Ty} (hb : BoxAt w p #[a0, a1, b0, b1, c0, c1]) (h1 : TyAt w D (.agg #[a0, a1]) x) (h2 : TyAt w D (.agg #[b0, b1]) y) (h3 : TyAt w D (.agg #[c0, c1]) z) : TysAt w D (.slice (some ⟨p, 0, none⟩) 3 3) [x, y, z] := by
 refine ⟨_, _, rfl, by simp, by omega, fun j hj => ?_⟩
 rcases j with _ | _ | _ | j
 ·exact ⟨p, 0, a0, a1, rfl, hb.1, hb.2 0, hb.2 1, h1⟩
 ·exact ⟨p, 0, b0, b1, rfl, hb.1, hb.2 2, hb.2 3, h2⟩
 ·exact ⟨p, 0, c0, c1, rfl, hb.1, hb.2 4, hb.2 5, h3⟩
 ·simp at hj; omega
theorem anaAll_two (d : Nat) (C : List Bi) (es : List Ex) (x y : Ty) (h0 : 0 < es.length) (h1 : 1 < es.length) : anaAll d C es [x, y] = (anaE d C es[0] x && anaE d C es[1] y) := by
 match es, h0, h1 with
 | a :: b :: r, _, _ => simp [anaAll]
theorem anaAll_three (d : Nat) (C : List Bi) (es : List Ex) (x y z : Ty) (h0 : 0 < es.length) (h1 : 1 < es.length) (h2 : 2 < es.length) : anaAll d C es [x, y, z] = (anaE d C es[0] x && (anaE d C es[1] y && anaE d C es[2] z)) := by
 match es, h0, h1, h2 with
 | a :: b :: c :: r, _, _, _ => simp [anaAll]
theorem sizes_two {x y : Ty} {N : Nat} (h0 : x.size ≤ N) (h1 : y.size ≤ N) : ∀ j (h : j < [x, y].length), [x, y][j].size ≤ N := by
 intro j h
 rcases j with _ | _ | j
 ·exact h0
 ·exact h1
 ·simp at h; omega
theorem sizes_three {x y z : Ty} {N : Nat} (h0 : x.size ≤ N) (h1 : y.size ≤ N) (h2 : z.size ≤ N) : ∀ j (h : j < [x, y, z].length), [x, y, z][j].size ≤ N := by
 intro j h
 rcases j with _ | _ | _ | j
 ·exact h0
 ·exact h1
 ·exact h2
 ·simp at h; omega
theorem tyB_size : tyB.size ≤ 1048577 := by simp [tyB, Ty.size, Ty.sizes]
theorem tyN_size : tyN.size ≤ 1048577 := by simp [tyN, Ty.size, Ty.sizes]
set_option maxRecDepth 100000 in
set_option maxHeartbeats 2000000 in
theorem implAna9 (d : Nat) (iha : ImplAnaSaid d) (D D2 : Nat) (pe : Addr) (vc v tv : Value) (C : List Bi) (nm : ByteArray) (n : Int) (ty : Ty) (es : List Ex) (x : Ty) (w : World) (hv : BisAt w D vc C) (he : ExAt w (d + 1) v (.node 9 nm n ty es)) (ht : TyAt w D2 tv x) (hok : TypOk C (.node 9 nm n ty es)) (hx : x.size ≤ 1048577) (herr : ErrAt w pe) (hmt : MeetTab w) :
  Calls Tryz.prog 48 #[vc, v, tv] w fun e w' => e = .returned (errOf pe (anaE (d + 1) C (.node 9 nm n ty es) x)) ∧ Below w.heap.size w w' := by
 have HE := Lib.hid he
 obtain ⟨uk, ua, un, uc, rfl⟩ := agg_parts ht
 have HU := Lib.hid ht
 clear ht
 obtain ⟨c3, c4, sl, hx, hk0, hk1, hn0, hn1, hnm, hty, sa, sc, hsl, hcap, hcap2, hat⟩ := he
 subst hsl
 obtain ⟨tk, ta, tn, tc, rfl, rfl⟩ := at_parts hty
 subst hx
 have HROW : Hid (ExsAt w d (.slice sa es.length sc) es) := Lib.hid ⟨_, _, rfl, hcap, hcap2, hat⟩
 obtain ⟨va, vn, vc1, rfl⟩ : ∃ a n c, vc = .slice a n c := by obtain ⟨a, cap, hv, _⟩ := hv; exact ⟨_, _, _, hv⟩
 have hlen : es.length = 3 := by have h1 := (form_parts hok.1).1; have h2 : arity 9 = 3 := rfl; omega
 have hq0 : 0 < es.length := by omega
 have hq1 : 1 < es.length := by omega
 have hq2 : 2 < es.length := by omega
 obtain ⟨b, off, q0_0, q0_1, q0_2, q0_3, q0_4, q0_5, e0, hbl, z0_0, z0_1, z0_2, z0_3, z0_4, z0_5, ht0⟩ := hat 0 hq0
 subst e0
 obtain ⟨xk, xnm, xn, xtk, xta, xtn, xtc, xsa, xsm, xsc, rfl, rfl, rfl, rfl, rfl, rfl⟩ := ex_cells ht0
 simp only [Nat.zero_mul, Nat.add_zero] at z0_0 z0_1 z0_2 z0_3 z0_4 z0_5
 have K0_0 := Lib.hid z0_0
 have K0_1 := Lib.hid z0_1
 have K0_2 := Lib.hid z0_2
 have K0_3 := Lib.hid z0_3
 have K0_4 := Lib.hid z0_4
 have K0_5 := Lib.hid z0_5
 clear z0_0 z0_1 z0_2 z0_3 z0_4 z0_5
 have HT0 := Lib.hid ht0
 clear ht0
 obtain ⟨b1, off1, q1_0, q1_1, q1_2, q1_3, q1_4, q1_5, e1, hbl1, z1_0, z1_1, z1_2, z1_3, z1_4, z1_5, ht1⟩ := hat 1 hq1
 injection e1 with e1
 injection e1 with ea1 eb1
 subst ea1 eb1
 obtain ⟨yk, ynm, yn, ytk, yta, ytn, ytc, ysa, ysm, ysc, rfl, rfl, rfl, rfl, rfl, rfl⟩ := ex_cells ht1
 simp only [Nat.one_mul] at z1_0 z1_1 z1_2 z1_3 z1_4 z1_5
 have K1_0 := Lib.hid z1_0
 have K1_1 := Lib.hid z1_1
 have K1_2 := Lib.hid z1_2
 have K1_3 := Lib.hid z1_3
 have K1_4 := Lib.hid z1_4
 have K1_5 := Lib.hid z1_5
 clear z1_0 z1_1 z1_2 z1_3 z1_4 z1_5
 have HT1 := Lib.hid ht1
 clear ht1
 obtain ⟨b2, off2, q2_0, q2_1, q2_2, q2_3, q2_4, q2_5, e2, hbl2, z2_0, z2_1, z2_2, z2_3, z2_4, z2_5, ht2⟩ := hat 2 hq2
 injection e2 with e2
 injection e2 with ea2 eb2
 subst ea2 eb2
 obtain ⟨zk, znm, zn, ztk, zta, ztn, ztc, zsa, zsm, zsc, rfl, rfl, rfl, rfl, rfl, rfl⟩ := ex_cells ht2
 simp only [Nat.reduceMul] at z2_0 z2_1 z2_2 z2_3 z2_4 z2_5
 have K2_0 := Lib.hid z2_0
 have K2_1 := Lib.hid z2_1
 have K2_2 := Lib.hid z2_2
 have K2_3 := Lib.hid z2_3
 have K2_4 := Lib.hid z2_4
 have K2_5 := Lib.hid z2_5
 clear z2_0 z2_1 z2_2 z2_3 z2_4 z2_5
 have HT2 := Lib.hid ht2
 clear ht2
 have HV := Lib.hid hv
 clear hv
 have HOK := Lib.hid hok
 clear hok hat
 have HTY := Lib.hid hty
 clear hty
 have HNM := Lib.hid hnm
 clear hnm
 have IHA := Lib.hid iha
 have HERR := Lib.hid herr
 have HMT := Lib.hid hmt
 clear iha herr hmt
 rw [hlen] at HE HROW ⊢
 have hr : anaE (d + 1) C (.node 9 nm n ty es) x = anaAll d C es [tyB, x, x] := by rw [anaE_succ, anaAll_three d C es tyB x x hq0 hq1 hq2]; simp only [anaStep]; rw [Ex.arg_get hq0, Ex.arg_get hq1, Ex.arg_get hq2]; simp
 have HR := Lib.hid hr
 clear hr
 obtain ⟨w0, hw0, B, hz_w0, XE, FE, XT, FT⟩ := laid2 w #[.int .i64 9, .string nm, .int .i64 n, .int .i64 tk, .slice ta tn tc, .slice (some ⟨b, off, none⟩) 3 sc] 40 #[.int .i64 uk, .slice ua un uc] 33
 replace B := Lib.hid B
 go_enter Tryz.func48, Tryz.ntmps48
 go_wp2_with fail
 rw [← hw0]
 clear hw0
 obtain ⟨wd1, hwd1⟩ : ∃ W, W = w0.drew := ⟨_, rfl⟩
 have hb : Below w0.heap.size w0 wd1 := by rw [hwd1]; exact below_drew _
 have hz_wd1 := hb.size
 replace B := bb B hb
 replace XE := xb XE hb
 replace FE := fb FE hb
 replace XT := xb XT hb
 replace FT := fb FT hb
 clear hb
 refine wp_region_held_drew (S := fun w' => w'.cell? ⟨w.heap.size, 0, none⟩ = some (.int .i64 9) ∧ w'.cell? ⟨w.heap.size, 1, none⟩ = some (.string nm) ∧ w'.cell? ⟨w.heap.size, 2, none⟩ = some (.int .i64 n) ∧ w'.cell? ⟨w.heap.size, 3, none⟩ = some (.int .i64 tk) ∧ w'.cell? ⟨w.heap.size, 4, none⟩ = some (.slice ta tn tc) ∧ w'.cell? ⟨w.heap.size, 5, none⟩ = some (.slice (some ⟨b, off, none⟩) 3 sc) ∧ w'.cell? ⟨w.heap.size + 1, 0, none⟩ = some (.int .i64 uk) ∧ w'.cell? ⟨w.heap.size + 1, 1, none⟩ = some (.slice ua un uc)) (by kernel_rfl) (by rw [← hwd1]; exact ⟨XE.out.2 0, XE.out.2 1, XE.out.2 2, XE.out.2 3, XE.out.2 4, XE.out.2 5, XT.out.2 0, XT.out.2 1⟩) (fun hHeld => ?_)
 rw [← hwd1] at hHeld ⊢
 clear hwd1
 refine wpAnyH_take (i := 0) (v := ?v24_0) rfl (by kernel_rfl) (by kernel_rfl) (by kernel_rfl) (fun _ _ _ h => h) (Or.inl ⟨by kernel_rfl, ?hy24_0⟩) hHeld ?rest24_0
 case hy24_0 =>
  intro w hSw
  (try dsimp only at hSw)
  go_simp
  all_goals (first | done | with_reducible rfl)
 try simp only [Act.put]
 try simp only [List.setIfInBounds_toArray]
 try simp only [List.set_cons_succ]
 try simp only [List.set_cons_zero]
 refine wpAnyH_take (i := 1) (v := ?v25_1) rfl (by kernel_rfl) (by kernel_rfl) (by kernel_rfl) (fun _ _ _ h => h) (Or.inl ⟨by kernel_rfl, ?hy25_1⟩) hHeld ?rest25_1
 case hy25_1 =>
  intro w hSw
  (try dsimp only at hSw)
  go_simp
  all_goals (first | done | with_reducible rfl)
 try simp only [Act.put]
 try simp only [List.setIfInBounds_toArray]
 try simp only [List.set_cons_succ]
 try simp only [List.set_cons_zero]
 refine wpAnyH_take (i := 2) (v := ?v26_2) rfl (by kernel_rfl) (by kernel_rfl) (by kernel_rfl) (fun _ _ _ h => h) (Or.inl ⟨by kernel_rfl, ?hy26_2⟩) hHeld ?rest26_2
 case hy26_2 =>
  intro w hSw
  (try dsimp only at hSw)
  go_simp
  all_goals (first | done | with_reducible rfl)
 try simp only [Act.put]
 try simp only [List.setIfInBounds_toArray]
 try simp only [List.set_cons_succ]
 try simp only [List.set_cons_zero]
 refine wpAnyH_take (i := 4) (v := ?v27_4) rfl (by kernel_rfl) (by kernel_rfl) (by kernel_rfl) (fun _ _ _ h => h) (Or.inl ⟨by kernel_rfl, ?hy27_4⟩) hHeld ?rest27_4
 case hy27_4 =>
  intro w hSw
  (try dsimp only at hSw)
  go_simp
  all_goals (first | done | with_reducible rfl)
 try simp only [Act.put]
 try simp only [List.setIfInBounds_toArray]
 try simp only [List.set_cons_succ]
 try simp only [List.set_cons_zero]
 refine wpAnyH_take (i := 5) (v := ?v28_5) rfl (by kernel_rfl) (by kernel_rfl) (by kernel_rfl) (fun _ _ _ h => h) (Or.inl ⟨by kernel_rfl, ?hy28_5⟩) hHeld ?rest28_5
 case hy28_5 =>
  intro w hSw
  (try dsimp only at hSw)
  go_simp
  all_goals (first | done | with_reducible rfl)
 try simp only [Act.put]
 try simp only [List.setIfInBounds_toArray]
 try simp only [List.set_cons_succ]
 try simp only [List.set_cons_zero]
 refine wpAnyH_ready (rs := [3]) (by kernel_rfl) (by simp) ?_
 refine AllReadyH.cons rfl (fun K hK => ?_) AllReadyH.nil
 go_simp
 go_at_call 74
 refine (implBoolType _).mono ?_
 rintro e w2 ⟨rfl, hb⟩
 have hz_w2 := hb.size
 replace B := bb B hb
 replace XE := xb XE hb
 replace FE := fb FE hb
 replace XT := xb XT hb
 replace FT := fb FT hb
 clear hb
 clear hHeld
 try go_wp2_with fail
 refine hK.out _ _ (by exact ⟨XE.out.2 0, XE.out.2 1, XE.out.2 2, XE.out.2 3, XE.out.2 4, XE.out.2 5, XT.out.2 0, XT.out.2 1⟩) (fun hHeld => ?_)
 clear hK K
 try simp only [Act.put]
 try simp only [List.setIfInBounds_toArray]
 try simp only [List.set_cons_succ]
 try simp only [List.set_cons_zero]
 refine wpAnyH_ready (rs := [6]) (by kernel_rfl) (by simp) ?_
 refine AllReadyH.cons rfl (fun K hK => ?_) AllReadyH.nil
 go_simp
 obtain ⟨wa3, hwa3, hb, hy_wa3, XTS, FTS⟩ := laid1 w2 #[.int .i64 3, .slice none 0 0, .int .i64 uk, .slice ua un uc, .int .i64 uk, .slice ua un uc] 33
 have hz_wa3 := hb.size
 replace B := bb B hb
 replace XE := xb XE hb
 replace FE := fb FE hb
 replace XT := xb XT hb
 replace FT := fb FT hb
 clear hb
 clear hHeld
 try go_wp2_with fail
 rw [← hwa3]
 clear hwa3
 refine hK.out _ _ (by exact ⟨XE.out.2 0, XE.out.2 1, XE.out.2 2, XE.out.2 3, XE.out.2 4, XE.out.2 5, XT.out.2 0, XT.out.2 1⟩) (fun hHeld => ?_)
 clear hK K
 try simp only [Act.put]
 try simp only [List.setIfInBounds_toArray]
 try simp only [List.set_cons_succ]
 try simp only [List.set_cons_zero]
 refine wpAnyH_ready (rs := [7]) (by kernel_rfl) (by simp) ?_
 refine AllReadyH.cons rfl (fun K hK => ?_) AllReadyH.nil
 go_simp
 go_at_call 75
 have CA := implAll d IHA.out D (D2 + 1) pe _ _ _ C es [tyB, x, x] w wa3 B.out HV.out HROW.out (tys3 XTS.out ((leaf_at _ 3 (by omega) (by omega)).mono (by omega)) ((HU.out.below B.out).mono (by omega)) ((HU.out.below B.out).mono (by omega))) (by simp; omega) (fun j h => HOK.out.part j h) (sizes_three tyB_size hx hx) HERR.out HMT.out
 refine CA.mono ?_
 clear CA
 rintro e w4 ⟨rfl, hb⟩
 have hz_w4 := hb.size
 replace B := bb B hb
 replace XE := xb XE hb
 replace FE := fb FE hb
 replace XT := xb XT hb
 replace FT := fb FT hb
 replace XTS := xb XTS hb
 replace FTS := fb FTS hb
 clear hb
 clear hHeld
 try go_wp2_with fail
 refine hK.out _ _ (by exact ⟨XE.out.2 0, XE.out.2 1, XE.out.2 2, XE.out.2 3, XE.out.2 4, XE.out.2 5, XT.out.2 0, XT.out.2 1⟩) (fun hHeld => ?_)
 clear hK K
 try simp only [Act.put]
 try simp only [List.setIfInBounds_toArray]
 try simp only [List.set_cons_succ]
 try simp only [List.set_cons_zero]
 refine wpAnyH_ready (rs := [8]) (by kernel_rfl) (by simp) ?_
 refine AllReadyH.cons rfl (fun K hK => ?_) AllReadyH.nil
 go_simp
 refine hK.out _ _ hHeld (fun hHeld => ?_)
 clear hK K
 try simp only [Act.put]
 try simp only [List.setIfInBounds_toArray]
 try simp only [List.set_cons_succ]
 try simp only [List.set_cons_zero]
 refine wpAnyH_done (by kernel_rfl) ?_ _
 try simp only [List.getElem_toArray]
 try simp only [List.getElem_cons_succ]
 try simp only [List.getElem_cons_zero]
 try simp only [Act.put]
 try simp only [List.setIfInBounds_toArray]
 try simp only [List.set_cons_succ]
 try simp only [List.set_cons_zero]
 go_wp2_with fail
 go_ret
 exact ⟨by rw [HR.out]; rfl, B.out⟩
end Go.Proofs.YteffjeejbdjjpaaGreatDoor
