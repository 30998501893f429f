/-
  Proved: the law FnExactStartHistory: for every edit, impl.StartHistory returns the same as the reference, in memory of its own, and changes no argument. Nothing is asked of the input.
-/
import Derived.Test.YteeojgefnoaajaaAtEdt
import Derived.Test.YteeojgefnoaajaaRecBase
import Derived.Test.YteeojgefnoaajaaAtEdts
import Derived.StillTailTactics
import Derived.Test.YteeojgefnoaajaaAtHis
import Derived.Test.YteeojgefnoaajaaIntsRow
import Derived.Maps.AppendAt
import Derived.Lib.SliceRun
import Derived.Test.YteeojgefnoaajaaToExpr
import Derived.Test.YteeojgefnoaajaaTree
import Derived.Test.YteeojgefnoaajaaToType
import Derived.Test.YteeojgefnoaajaaTyEq
import Derived.Test.YteeojgefnoaajaaHold
import Derived.Test.YteeojgefnoaajaaPut
import Derived.Test.YteeojgefnoaajaaExprArg
import Derived.Test.YteeojgefnoaajaaInts
import Derived.Deep.AppendLies
import Derived.Test.YteeojgefnoaajaaExIn
import Derived.BigQuiet
import Derived.Deep.QuietTactic
import Derived.Test.YteeojgefnoaajaaEditIn
import Derived.Test.YteeojgefnoaajaaEditAt
import Derived.Deep.RegionLaw
import Derived.Deep.DeepCutAuto
import Derived.Deep.RegionHeld3
import Derived.Test.YteeojgefnoaajaaTwo
import Derived.Deep.Upon
import Derived.ArgAppend
import Derived.Test.YteeojgefnoaajaaMarkEdit
import Derived.Test.YteeojgefnoaajaaOwnIn
import Derived.Test.YteeojgefnoaajaaToEditIn
import Derived.Test.YteeojgefnoaajaaSzEdit
import Derived.Test.YteeojgefnoaajaaEqEdit
import Derived.Test.YteeojgefnoaajaaHeldEx
import Derived.Test.YteeojgefnoaajaaEqExpr
import Derived.Test.YteeojgefnoaajaaSince
import Derived.Test.YteeojgefnoaajaaRows
import Derived.Test.YteeojgefnoaajaaLaw
import Derived.Deep.DeepHandedRow
import Derived.Lib.LaidTab
import Derived.LaidMore
import Derived.Test.YteeojgefnoaajaaEditArg
/-
  Proved: laws.eqEdit answers true for two readings of the same value, and changes no memory that was there.
-/
namespace Go.Proofs.Yteeojgefnoaajaa
open Go.RowKit

set_option maxRecDepth 100000 in
set_option maxHeartbeats 4000000 in
theorem eqEdt (d : Nat) (v1 v2 : Value) (x : Edt) (w : World) (h : EdtAt w d v1 x) (h' : EdtAt w d v2 x) :
    Calls Try.prog 20 #[v1, v2] w (EqTrueEnd w) := by
  cases x with
  | mk x1 x2 =>
    obtain ⟨pbk, pbnm, pbm, pbtk, pbta, pbtn, pbtc, pbsa, pbsn, pbsc, pca, pcn, pcc, rfl, h1, h2⟩ := h
    obtain ⟨ubk, ubnm, ubm, ubtk, ubta, ubtn, ubtc, ubsa, ubsn, ubsc, uca, ucn, ucc, rfl, k1, k2⟩ := h'
    dsimp only at h1 h2 k1 k2 ⊢
    have e2 : Below w.heap.size w ((w.alloc (.cells #[.int .i64 pbk, .string pbnm, .int .i64 pbm, .int .i64 pbtk, .slice pbta pbtn pbtc, .slice pbsa pbsn pbsc, .slice pca pcn pcc] 57)).alloc (.cells #[.int .i64 ubk, .string ubnm, .int .i64 ubm, .int .i64 ubtk, .slice ubta ubtn ubtc, .slice ubsa ubsn ubsc, .slice uca ucn ucc] 57)) := ((Below.refl _ _).alloc (Nat.le_refl _) _).alloc (by simp) _
    have H1 := Lib.hid (h1.below e2)
    have J1 := Lib.hid (k1.below e2)
    have H2 := Lib.hid (h2.below e2)
    have J2 := Lib.hid (k2.below e2)
    clear e2 h1 k1 h2 k2
    go_enter Try.func20, Try.ntmps20
    go_wp2_with fail
    refine (eqExr d _ _ x1 _ H1.out J1.out).mono ?_
    rintro e' w1 ⟨rfl, hb⟩
    have HB := Lib.hid (two_on (Below.refl _ _) hb)
    replace H2 := Lib.hid (H2.out.below hb)
    replace J2 := Lib.hid (J2.out.below hb)
    clear hb H1 J1
    have c6 := two_first HB.out 6
    have u6 := two_next HB.out 6
    go_wp2_with fail
    clear c6 u6
    refine (eqPath d _ _ x2 _ H2.out J2.out).mono ?_
    rintro e' w2 ⟨rfl, hb⟩
    replace HB := Lib.hid (two_on HB.out hb)
    clear hb H2 J2
    go_wp2_with fail
    go_ret
    exact ⟨rfl, two_below HB.out⟩
end Go.Proofs.Yteeojgefnoaajaa
/-
  Proved: laws.eqEditS answers true for two readings of the same list, and changes no memory that was there.
-/
namespace Go.Proofs.Yteeojgefnoaajaa
open Go.RowKit

set_option maxRecDepth 100000 in
set_option maxHeartbeats 4000000 in
theorem eqEdts (d : Nat) (v1 v2 : Value) (ts : List Edt) (w : World) (h1 : EdtsAt w d v1 ts) (h2 : EdtsAt w d v2 ts) :
    Calls Try.prog 68 #[v1, v2] w (EqTrueEnd w) := by
  obtain ⟨a1, cap1, rfl, hcap1, hm1, hat1⟩ := h1
  obtain ⟨a2, cap2, rfl, hcap2, hm2, hat2⟩ := h2
  have HA1 := Lib.hid hat1; clear hat1
  have HA2 := Lib.hid hat2; clear hat2
  go_enter Try.func68, Try.ntmps68
  go_wp2_with fail
  go_loopw [5] (fun i wr => ∃ k : Nat, k ≤ ts.length ∧ i = .int .i64 k ∧ Below w.heap.size w wr) (fun i _ => ts.length - (intOf i).toNat)
  case atStart => exact ⟨0, by omega, rfl, Below.refl _ _⟩
  case round =>
    obtain ⟨k, hk, rfl, hb⟩ := hrel
    have HB := Lib.hid hb; clear hb
    by_cases hlt : k < ts.length
    · obtain ⟨b1, off1, x0, x1, x2, x3, x4, x5, x6, rfl, hbl1, h10, h11, h12, h13, h14, h15, h16, ht1⟩ := HA1.out k hlt
      obtain ⟨b2, off2, y0, y1, y2, y3, y4, y5, y6, rfl, hbl2, h20, h21, h22, h23, h24, h25, h26, ht2⟩ := HA2.out k hlt
      have c10 : wr.cell? ⟨b1, off1 + k * 7, none⟩ = some x0 := by rw [HB.out.cell (p := ⟨b1, off1 + k * 7, none⟩) hbl1]; exact h10
      have c20 : wr.cell? ⟨b2, off2 + k * 7, none⟩ = some y0 := by rw [HB.out.cell (p := ⟨b2, off2 + k * 7, none⟩) hbl2]; exact h20
      have c11 : wr.cell? ⟨b1, off1 + k * 7 + 1, none⟩ = some x1 := by rw [HB.out.cell (p := ⟨b1, off1 + k * 7 + 1, none⟩) hbl1]; exact h11
      have c21 : wr.cell? ⟨b2, off2 + k * 7 + 1, none⟩ = some y1 := by rw [HB.out.cell (p := ⟨b2, off2 + k * 7 + 1, none⟩) hbl2]; exact h21
      have c12 : wr.cell? ⟨b1, off1 + k * 7 + 2, none⟩ = some x2 := by rw [HB.out.cell (p := ⟨b1, off1 + k * 7 + 2, none⟩) hbl1]; exact h12
      have c22 : wr.cell? ⟨b2, off2 + k * 7 + 2, none⟩ = some y2 := by rw [HB.out.cell (p := ⟨b2, off2 + k * 7 + 2, none⟩) hbl2]; exact h22
      have c13 : wr.cell? ⟨b1, off1 + k * 7 + 3, none⟩ = some x3 := by rw [HB.out.cell (p := ⟨b1, off1 + k * 7 + 3, none⟩) hbl1]; exact h13
      have c23 : wr.cell? ⟨b2, off2 + k * 7 + 3, none⟩ = some y3 := by rw [HB.out.cell (p := ⟨b2, off2 + k * 7 + 3, none⟩) hbl2]; exact h23
      have c14 : wr.cell? ⟨b1, off1 + k * 7 + 4, none⟩ = some x4 := by rw [HB.out.cell (p := ⟨b1, off1 + k * 7 + 4, none⟩) hbl1]; exact h14
      have c24 : wr.cell? ⟨b2, off2 + k * 7 + 4, none⟩ = some y4 := by rw [HB.out.cell (p := ⟨b2, off2 + k * 7 + 4, none⟩) hbl2]; exact h24
      have c15 : wr.cell? ⟨b1, off1 + k * 7 + 5, none⟩ = some x5 := by rw [HB.out.cell (p := ⟨b1, off1 + k * 7 + 5, none⟩) hbl1]; exact h15
      have c25 : wr.cell? ⟨b2, off2 + k * 7 + 5, none⟩ = some y5 := by rw [HB.out.cell (p := ⟨b2, off2 + k * 7 + 5, none⟩) hbl2]; exact h25
      have c16 : wr.cell? ⟨b1, off1 + k * 7 + 6, none⟩ = some x6 := by rw [HB.out.cell (p := ⟨b1, off1 + k * 7 + 6, none⟩) hbl1]; exact h16
      have c26 : wr.cell? ⟨b2, off2 + k * 7 + 6, none⟩ = some y6 := by rw [HB.out.cell (p := ⟨b2, off2 + k * 7 + 6, none⟩) hbl2]; exact h26
      have HT1 := Lib.hid (ht1.below HB.out.drew)
      have HT2 := Lib.hid (ht2.below HB.out.drew)
      clear ht1 ht2 h10 h11 h12 h13 h14 h15 h16 h20 h21 h22 h23 h24 h25 h26
      go_wp2_with fail
      go_still_tail 8, (by kernel_rfl)
      change wpList _ _ _ _ _ wr.drew
      go_wp2_with fail
      refine (eqEdt d _ _ _ wr.drew HT1.out HT2.out).mono ?_
      rintro e w' ⟨rfl, hb1⟩
      have HB2 := Lib.hid (HB.out.drew.trans (hb1.mono HB.out.drew.size)); clear hb1
      go_wp2_with fail
      exact ⟨⟨k + 1, by omega, by go_num, HB2.out⟩, by simp [intOf]; omega⟩
    · go_wp2_with fail
      go_ret
      exact ⟨rfl, HB.out⟩
end Go.Proofs.Yteeojgefnoaajaa
/-
  Proved: laws.eqHistory answers true for two readings of the same value, and changes no memory that was there.
-/
namespace Go.Proofs.Yteeojgefnoaajaa
open Go.RowKit

set_option maxRecDepth 100000 in
set_option maxHeartbeats 4000000 in
theorem eqHis (d : Nat) (v1 v2 : Value) (x : His) (w : World) (h : HisAt w d v1 x) (h' : HisAt w d v2 x) :
    Calls Try.prog 19 #[v1, v2] w (EqTrueEnd w) := by
  cases x with
  | mk x1 x2 x3 =>
    obtain ⟨pba, pbn, pbc, pcbk, pcbnm, pcbm, pcbtk, pcbta, pcbtn, pcbtc, pcbsa, pcbsn, pcbsc, pcca, pccn, pccc, pda, pdn, pdc, rfl, h1, h2, h3⟩ := h
    obtain ⟨uba, ubn, ubc, ucbk, ucbnm, ucbm, ucbtk, ucbta, ucbtn, ucbtc, ucbsa, ucbsn, ucbsc, ucca, uccn, uccc, uda, udn, udc, rfl, k1, k2, k3⟩ := h'
    dsimp only at h1 h2 h3 k1 k2 k3 ⊢
    have e2 : Below w.heap.size w ((w.alloc (.cells #[.slice pba pbn pbc, .int .i64 pcbk, .string pcbnm, .int .i64 pcbm, .int .i64 pcbtk, .slice pcbta pcbtn pcbtc, .slice pcbsa pcbsn pcbsc, .slice pcca pccn pccc, .slice pda pdn pdc] 59)).alloc (.cells #[.slice uba ubn ubc, .int .i64 ucbk, .string ucbnm, .int .i64 ucbm, .int .i64 ucbtk, .slice ucbta ucbtn ucbtc, .slice ucbsa ucbsn ucbsc, .slice ucca uccn uccc, .slice uda udn udc] 59)) := ((Below.refl _ _).alloc (Nat.le_refl _) _).alloc (by simp) _
    have H1 := Lib.hid (h1.below e2)
    have J1 := Lib.hid (k1.below e2)
    have H2 := Lib.hid (h2.below e2)
    have J2 := Lib.hid (k2.below e2)
    have H3 := Lib.hid (h3.below e2)
    have J3 := Lib.hid (k3.below e2)
    clear e2 h1 k1 h2 k2 h3 k3
    go_enter Try.func19, Try.ntmps19
    go_wp2_with fail
    refine (eqEdts d _ _ x1 _ H1.out J1.out).mono ?_
    rintro e' w1 ⟨rfl, hb⟩
    have HB := Lib.hid (two_on (Below.refl _ _) hb)
    replace H2 := Lib.hid (H2.out.below hb)
    replace J2 := Lib.hid (J2.out.below hb)
    replace H3 := Lib.hid (H3.out.below hb)
    replace J3 := Lib.hid (J3.out.below hb)
    clear hb H1 J1
    have c1 := two_first HB.out 1
    have u1 := two_next HB.out 1
    have c2 := two_first HB.out 2
    have u2 := two_next HB.out 2
    have c3 := two_first HB.out 3
    have u3 := two_next HB.out 3
    have c4 := two_first HB.out 4
    have u4 := two_next HB.out 4
    have c5 := two_first HB.out 5
    have u5 := two_next HB.out 5
    have c6 := two_first HB.out 6
    have u6 := two_next HB.out 6
    have c7 := two_first HB.out 7
    have u7 := two_next HB.out 7
    go_wp2_with fail
    clear c1 u1 c2 u2 c3 u3 c4 u4 c5 u5 c6 u6 c7 u7
    refine (eqEdt d _ _ x2 _ H2.out J2.out).mono ?_
    rintro e' w2 ⟨rfl, hb⟩
    replace HB := Lib.hid (two_on HB.out hb)
    replace H3 := Lib.hid (H3.out.below hb)
    replace J3 := Lib.hid (J3.out.below hb)
    clear hb H2 J2
    have c8 := two_first HB.out 8
    have u8 := two_next HB.out 8
    go_wp2_with fail
    clear c8 u8
    refine (eqEdts d _ _ x3 _ H3.out J3.out).mono ?_
    rintro e' w3 ⟨rfl, hb⟩
    replace HB := Lib.hid (two_on HB.out hb)
    clear hb H3 J3
    go_wp2_with fail
    go_ret
    exact ⟨rfl, two_below HB.out⟩
end Go.Proofs.Yteeojgefnoaajaa
/-
  Proved: slices.Clone copies a row of numbers into new memory; the memory that was there stays as it was.
-/
namespace Go.Proofs.Yteeojgefnoaajaa
open Go.RowKit

set_option maxRecDepth 100000 in
set_option maxHeartbeats 2000000 in
theorem cloneInts (v : Value) (ss : List Int) (w : World) (h : Ints w v ss) (hn : ss.length ≤ 1048576) :
    Calls Try.prog 111 #[v] w fun e w' => ∃ a cap, e = .returned (.slice a ss.length cap) ∧ IntsIn w' (.slice a ss.length cap) ss w.heap.size w'.heap.size ∧ Below w.heap.size w w' := by
  obtain ⟨a, cap, rfl, hcap, hat⟩ := h
  have q22 : ∀ (w : World) (a : Option Addr) (n c n' c' : Nat), (binOp .eql 48 (.slice a n c) (.slice none n' c')).run Try.prog w = .ok (.bool a.isNone) w := fun w a n c n' c' => Lib.run_eql_slice_nil w _ _ a n c n' c' Try.underlying48
  cases a with
  | none =>
    have hl : ss = [] := List.eq_nil_of_length_eq_zero (Nat.eq_zero_of_not_pos fun hp => by
      obtain ⟨_, _, h, _⟩ := hat 0 hp
      cases h)
    subst hl
    go_enter Try.func111, Try.ntmps111
    go_wp2_with fail
    go_ret
    exact ⟨none, 0, rfl, ⟨World.ownsRow_nil _ _ _ _, (fun k hk => by simp [Value.ownBlock] at hk), Nat.le_refl _⟩, Below.refl _ _⟩
  | some p =>
    have hcell : ∀ j u, (ss.map (Value.int IntKind.i64))[j]? = some u → w.cell? (p.add j) = some u := fun j u hj => by
      have hjl : j < ss.length := by
        have := (List.getElem?_eq_some_iff.1 hj).1
        simpa using this
      obtain ⟨b, off, ha, _, hc⟩ := hat j hjl
      cases ha
      rw [addr_add, hc]
      rw [List.getElem?_map, List.getElem?_eq_getElem hjl] at hj
      simpa using hj
    have HC := Lib.hid hcell
    clear hcell hat
    obtain ⟨i0, hi, hz0, hz1, hz2⟩ := info_parts info_i
    go_enter Try.func111, Try.ntmps111
    go_wp2_with (at_builtin; refine wpList_append_own _ rfl _ _ 48 rfl w.heap.size 3 i0 (.int .i64 0) 1 8 Try.underlying48 hi hz0 hz1 hz2 rfl (by decide) _ _ _ rfl (World.ownsRow_made w #[] 0 (Nat.le_refl _) (Nat.zero_le _) rfl) p ss.length cap (ss.map (Value.int IntKind.i64)) rfl ?qc1 ?qc2 ?qc3 ?qc4 ?qc5 ?qc6 ?_)
    case qc1 => simp
    case qc2 => intro j u hj; exact Lib.cell?_alloc_some _ (HC.out j u hj)
    case qc3 => intro u hu; obtain ⟨x, _, rfl⟩ := List.mem_map.1 hu; rfl
    case qc4 => unfold maxLen; omega
    case qc5 => omega
    case qc6 => simp
    intro v' w1 hown hgrow hnil
    have HOWN : Hid (w1.ownsRow w.heap.size 3 1 v' ss.length (ss.map (Value.int IntKind.i64))) := by show World.ownsRow _ _ _ _ _ _ _; simpa using hown
    have HB : Hid (Below w.heap.size w w1) := ((Below.refl _ w).alloc (Nat.le_refl _) _).grown hgrow (by simp) (by intro k hk; simp [Value.ownBlock] at hk; omega)
    clear hown hgrow hnil hi hz0 hz1 hz2
    obtain ⟨a2, c2, hv⟩ : ∃ a2 c2, v' = .slice a2 ss.length c2 := by
      rcases HOWN.out.2 with ⟨h1, h2⟩ | ⟨g, cap2, cur, h1, _⟩
      · exact ⟨none, 0, by rw [h1, h2]⟩
      · exact ⟨_, cap2, h1⟩
    subst hv
    go_wp2_with fail
    go_ret
    exact ⟨a2, c2, rfl, IntsIn.of HOWN.out (Nat.le_refl _), HB.out⟩
end Go.Proofs.Yteeojgefnoaajaa
/-
  Proved: slices.Clone copies the nodes of a row of expressions into a new block; the memory that was there stays as it was.
-/
namespace Go.Proofs.Yteeojgefnoaajaa
open Go.RowKit

set_option maxRecDepth 100000 in
set_option maxHeartbeats 2000000 in
theorem cloneEx (d : Nat) (v : Value) (es : List Ex) (w0 w : World) (h : ExsAt w0 d v es) (hbel : Below w0.heap.size w0 w) (hn : es.length ≤ 1048576) :
    Calls Try.prog 115 #[v] w fun e w' => ∃ a cap, e = .returned (.slice a es.length cap) ∧ es.length ≤ cap ∧ cap ≤ 9223372036854775807 ∧ Below w.heap.size w w' ∧
      (0 < es.length → ∃ g, a = some ⟨g, 0, none⟩ ∧ w.heap.size ≤ g ∧ g < w'.heap.size ∧ (∀ o, w'.frozen? ⟨g, o, none⟩ = false) ∧
        ∀ j (h : j < es.length), ∃ c0 c1 c2 c3 c4 c5, w'.cell? ⟨g, j * 6, none⟩ = some c0 ∧ w'.cell? ⟨g, j * 6 + 1, none⟩ = some c1 ∧ w'.cell? ⟨g, j * 6 + 2, none⟩ = some c2 ∧ w'.cell? ⟨g, j * 6 + 3, none⟩ = some c3 ∧ w'.cell? ⟨g, j * 6 + 4, none⟩ = some c4 ∧ w'.cell? ⟨g, j * 6 + 5, none⟩ = some c5 ∧ ExAt w0 d (.agg #[c0, c1, c2, c3, c4, c5]) es[j]) := by
  obtain ⟨a, cap, rfl, hcap, hcap2, hat⟩ := h
  cases a with
  | none =>
    have hl : es.length = 0 := Nat.eq_zero_of_not_pos fun hp => by
      obtain ⟨_, _, _, _, _, _, _, _, h, _⟩ := hat 0 hp
      cases h
    have q22 : ∀ (w : World) (a : Option Addr) (n c n' c' : Nat), (binOp .eql 53 (.slice a n c) (.slice none n' c')).run Try.prog w = .ok (.bool a.isNone) w := fun w a n c n' c' => Lib.run_eql_slice_nil w _ _ a n c n' c' Try.underlying53
    go_enter Try.func115, Try.ntmps115
    go_wp2_with fail
    go_ret
    exact ⟨none, 0, by rw [hl]; rfl, by omega, by omega, Below.refl _ _, fun h => by omega⟩
  | some p =>
    have hone : ∀ j (h : j < es.length), ∃ b off c0 c1 c2 c3 c4 c5, p = ⟨b, off, none⟩ ∧ w.cell? ⟨b, off + j * 6, none⟩ = some c0 ∧ w.cell? ⟨b, off + j * 6 + 1, none⟩ = some c1 ∧ w.cell? ⟨b, off + j * 6 + 2, none⟩ = some c2 ∧ w.cell? ⟨b, off + j * 6 + 3, none⟩ = some c3 ∧ w.cell? ⟨b, off + j * 6 + 4, none⟩ = some c4 ∧ w.cell? ⟨b, off + j * 6 + 5, none⟩ = some c5 ∧ ExAt w0 d (.agg #[c0, c1, c2, c3, c4, c5]) es[j] := fun j hj => by
      obtain ⟨b, off, c0, c1, c2, c3, c4, c5, ha, hlt, h0, h1, h2, h3, h4, h5, ht⟩ := hat j hj
      have hk : ∀ o, w.cell? ⟨b, o, none⟩ = w0.cell? ⟨b, o, none⟩ := fun o => hbel.cell (p := ⟨b, o, none⟩) hlt
      exact ⟨b, off, c0, c1, c2, c3, c4, c5, Option.some.inj ha, (hk _).trans h0, (hk _).trans h1, (hk _).trans h2, (hk _).trans h3, (hk _).trans h4, (hk _).trans h5, ht⟩
    have hcell : ∀ j, j < es.length * 6 → ∃ u, w.cell? (p.add j) = some u ∧ u.oneCell' = true := fun j hj => by
      obtain ⟨b, off, c0, c1, c2, c3, c4, c5, rfl, h0, h1, h2, h3, h4, h5, ht⟩ := hone (j / 6) (by omega)
      obtain ⟨k, nm, n, tk, ta, tn, tc, sa, sn, sc, rfl, rfl, rfl, rfl, rfl, rfl⟩ := ex_cells ht
      rw [addr_add]
      have hm : j % 6 < 6 := Nat.mod_lt _ (by omega)
      have hj6 : j = j / 6 * 6 + j % 6 := by omega
      generalize j % 6 = r at hm hj6
      generalize j / 6 = q at h0 h1 h2 h3 h4 h5 hj6
      subst hj6
      match r, hm with
      | 0, _ => exact ⟨_, h0, rfl⟩
      | 1, _ => exact ⟨_, by rw [← h1, Nat.add_assoc], rfl⟩
      | 2, _ => exact ⟨_, by rw [← h2, Nat.add_assoc], rfl⟩
      | 3, _ => exact ⟨_, by rw [← h3, Nat.add_assoc], rfl⟩
      | 4, _ => exact ⟨_, by rw [← h4, Nat.add_assoc], rfl⟩
      | 5, _ => exact ⟨_, by rw [← h5, Nat.add_assoc], rfl⟩
    obtain ⟨news, hnews⟩ : ∃ news : List Value, news = (List.range (es.length * 6)).map fun o => (w.cell? (p.add o)).getD undef := ⟨_, rfl⟩
    have hnl : news.length = es.length * 6 := by rw [hnews]; simp
    have hnj : ∀ j, j < es.length * 6 → news[j]? = w.cell? (p.add j) := fun j hj => by
      obtain ⟨u, hu, _⟩ := hcell j hj
      rw [hnews, List.getElem?_map, List.getElem?_range hj, Option.map_some, hu]
      rfl
    have HNL := Lib.hid hnl
    have HNJ := Lib.hid hnj
    have HONE := Lib.hid hone
    have HCELL := Lib.hid hcell
    clear hnews hnl hnj hone hcell hat hbel
    obtain ⟨i0, hi, hz0, hz1, hz2⟩ := info_parts info_ex
    have q22 : ∀ (w : World) (a : Option Addr) (n c n' c' : Nat), (binOp .eql 53 (.slice a n c) (.slice none n' c')).run Try.prog w = .ok (.bool a.isNone) w := fun w a n c n' c' => Lib.run_eql_slice_nil w _ _ a n c n' c' Try.underlying53
    go_enter Try.func115, Try.ntmps115
    go_wp2_with (at_builtin; refine wpList_append_own _ rfl _ _ 53 rfl w.heap.size 55 i0 (.agg #[.int .i64 0, .string ⟨#[]⟩, .int .i64 0, .int .i64 0, .slice none 0 0, .slice none 0 0]) 6 88 Try.underlying53 hi hz0 hz1 hz2 rfl (by decide) _ _ _ rfl (World.ownsRow_made w #[] 0 (Nat.le_refl _) (Nat.zero_le _) rfl) p es.length cap news rfl ?qc1 ?qc2 ?qc3 ?qc4 ?qc5 ?qc6 ?_)
    case qc1 => exact HNL.out
    case qc2 =>
      intro j u hj
      have hjl : j < es.length * 6 := by
        have := (List.getElem?_eq_some_iff.1 hj).1
        rw [HNL.out] at this
        exact this
      rw [HNJ.out j hjl] at hj
      exact Lib.cell?_alloc_some _ hj
    case qc3 =>
      intro u hu
      obtain ⟨j, hj, rfl⟩ := List.getElem_of_mem hu
      obtain ⟨u2, h2, h3⟩ := HCELL.out j (by rw [← HNL.out]; exact hj)
      have h4 := HNJ.out j (by rw [← HNL.out]; exact hj)
      rw [List.getElem?_eq_getElem hj, h2] at h4
      rw [Option.some.inj h4]
      exact h3
    case qc4 => unfold maxLen; omega
    case qc5 => omega
    case qc6 => simp
    intro v' w1 hown hgrow hnil
    have HOWN : Hid (w1.ownsRow w.heap.size 55 6 v' es.length news) := by show World.ownsRow _ _ _ _ _ _ _; simpa using hown
    have HB : Hid (Below w.heap.size w w1) := ((Below.refl _ w).alloc (Nat.le_refl _) _).grown hgrow (by simp) (by intro k hk; simp [Value.ownBlock] at hk; omega)
    clear hown hgrow hi hz0 hz1 hz2
    rcases HOWN.out.2 with ⟨hv, hl⟩ | ⟨g, cap2, cur, hv, hbg, hg, hnc, hcm, _⟩
    · subst hv
      exact absurd hnil (by simp)
    · subst hv
      have hlt := (HOWN.out.lt g rfl).2
      have HG := Lib.hid hbg
      have HLT := Lib.hid hlt
      have HNC := Lib.hid hnc
      have HCM := Lib.hid hcm
      clear hbg hg hnc hcm hlt
      go_wp2_with fail
      go_ret
      refine ⟨some ⟨g, 0, none⟩, cap2, rfl, HNC.out, by have := HCM.out; unfold maxLen at this; omega, HB.out, fun _ => ⟨g, rfl, HG.out, HLT.out, fun o => HOWN.out.frozenAt o, fun j hj => ?_⟩⟩
      obtain ⟨b, off, c0, c1, c2, c3, c4, c5, rfl, h0, h1, h2, h3, h4, h5, ht⟩ := HONE.out j hj
      refine ⟨c0, c1, c2, c3, c4, c5, (by rw [HOWN.out.cellAt (j * 6) (by have := HNL.out; omega), HNJ.out (j * 6) (by omega), addr_add]; exact h0), (by rw [HOWN.out.cellAt (j * 6 + 1) (by have := HNL.out; omega), HNJ.out (j * 6 + 1) (by omega), addr_add, ← Nat.add_assoc]; exact h1), (by rw [HOWN.out.cellAt (j * 6 + 2) (by have := HNL.out; omega), HNJ.out (j * 6 + 2) (by omega), addr_add, ← Nat.add_assoc]; exact h2), (by rw [HOWN.out.cellAt (j * 6 + 3) (by have := HNL.out; omega), HNJ.out (j * 6 + 3) (by omega), addr_add, ← Nat.add_assoc]; exact h3), (by rw [HOWN.out.cellAt (j * 6 + 4) (by have := HNL.out; omega), HNJ.out (j * 6 + 4) (by omega), addr_add, ← Nat.add_assoc]; exact h4), (by rw [HOWN.out.cellAt (j * 6 + 5) (by have := HNL.out; omega), HNJ.out (j * 6 + 5) (by omega), addr_add, ← Nat.add_assoc]; exact h5), ht⟩
end Go.Proofs.Yteeojgefnoaajaa
/-
  Proved: plain facts for loops over a type's parts: a part's value is a kind and a slice; the box that a round lays for it holds it.
-/
namespace Go.Proofs.Yteeojgefnoaajaa
open Go.RowKit

theorem at_parts {w : World} {d : Nat} {x0 x1 : Value} {t : Ty} (h : TyAt w d (.agg #[x0, x1]) t) : ∃ k a n c, x0 = .int .i64 k ∧ x1 = .slice a n c := by
  cases d with
  | zero => exact h.elim
  | succ d =>
    cases t with
    | node k ts =>
      obtain ⟨sl, hv, h0, h1, a, cap, rfl, h2⟩ := h
      injection hv with hv
      injection hv with hv
      simp at hv
      exact ⟨_, _, _, _, hv.1, hv.2⟩
theorem agg_parts {w : World} {d : Nat} {v : Value} {t : Ty} (h : TyAt w d v t) : ∃ k a n c, v = .agg #[.int .i64 k, .slice a n c] := by
  cases d with
  | zero => exact h.elim
  | succ d =>
    cases t with
    | node k ts =>
      obtain ⟨sl, rfl, h0, h1, a, cap, rfl, h2⟩ := h
      exact ⟨_, _, _, _, rfl⟩
end Go.Proofs.Yteeojgefnoaajaa
/-
  Proved: impl.copyType copies a tree of at most 2^20 nodes into new memory; it leaves the memory that was there as it was.
-/
namespace Go.Proofs.Yteeojgefnoaajaa
open Go.RowKit

theorem own_leaf (w : World) (d : Nat) (k : Int) (h0 : -9223372036854775808 ≤ k) (h1 : k ≤ 9223372036854775807) : TyOwn w (d + 1) (.agg #[.int .i64 k, .slice none 0 0]) (.node k []) [] :=
  ⟨_, rfl, h0, h1, none, 0, [], [], rfl, Nat.le_refl _, by omega, rfl, rfl, (fun b hb => by cases hb), fun j hj => by simp at hj⟩
theorem two_frozen {w wr : World} {cs ds : Array Value} {T U : TypeId} (h : Below (w.heap.size + 2) ((w.alloc (.cells cs T)).alloc (.cells ds U)) wr) (j : Nat) : wr.frozen? ⟨w.heap.size + 1, j, none⟩ = false := by
  rw [h.frozen (p := ⟨w.heap.size + 1, j, none⟩) (Nat.lt_succ_self _)]
  simp [go_sem]

set_option maxRecDepth 100000 in
set_option maxHeartbeats 2000000 in
theorem implCopy : ∀ (d : Nat) (v : Value) (t : Ty) (w : World), t.size ≤ 1048577 → TyAt w d v t →
    Calls Try.prog 86 #[v] w (ToTyEnd d t w)
  | 0, _, _, _, _, h => h.elim
  | d + 1, v, .node kd ts, w, hsz, h => by
    have IH : Hid (∀ (v : Value) (t : Ty) (w : World), t.size ≤ 1048577 → TyAt w d v t → Calls Try.prog 86 #[v] w (ToTyEnd d t w)) := implCopy d
    obtain ⟨i0, hi, hz0, hz1, hz2⟩ := info_parts info_ty
    have hlen := Ty.length_le ts
    have HSZ : Hid (1 + Ty.sizes ts ≤ 1048577) := by simp [Ty.size] at hsz; show _ ≤ _; omega
    have hn2 : ts.length ≤ 1048577 := by have := HSZ.out; omega
    clear hsz hlen
    obtain ⟨sl, rfl, hk0, hk1, a, cap, rfl, hcap, hcap2, hat⟩ := h
    have HAT := Lib.hid hat; clear hat
    obtain ⟨n, hn⟩ : ∃ n, n = ts.length := ⟨_, rfl⟩
    have HN := Lib.hid hn
    rw [← hn] at hcap hn2 ⊢
    clear hn
    by_cases z : n = 0
    · subst z
      have HTS : Hid (ts = []) := List.eq_nil_of_length_eq_zero HN.out.symm
      go_enter Try.func86, Try.ntmps86
      go_wp2_with fail
      refine bodyPost_ret (v := .agg #[.int .i64 kd, .slice none 0 0]) (by simp [results, Try.results86, go_sem]) rfl ?_
      rw [HTS.out]
      exact ⟨_, [], rfl, own_leaf _ _ _ hk0 hk1, Fp.nil _ _, ((Below.refl _ _).alloc (Nat.le_refl _) _).alloc (by simp) _⟩
    · have z3 : ((n : Int) == 0) = false := by simp [z]
      go_enter Try.func86, Try.ntmps86
      go_wp2_with (at_make; refine wpList_make_full _ rfl _ _ 32 rfl (w.heap.size + 1 + 1) 34 i0 (.agg #[.int .i64 0, .slice none 0 0]) 2 Try.underlying32 hi hz0 hz1 .i64 .i64 _ _ n rfl rfl rfl rfl (by rw [hz2]; omega) (by unfold maxLen; omega) (by simp) ?_; intro w0 hown0 hg0; refine Hid.out ?_)
      refine Lib.hid ?_
      rw [show ((w.alloc (.cells #[.int .i64 kd, .slice a n cap] 34)).alloc (.cells #[.int .i64 0, .slice none 0 0] 34)).heap.size = w.heap.size + 1 + 1 from by simp] at hown0
      have HB0 : Hid (Below (w.heap.size + 2) ((w.alloc (.cells #[.int .i64 kd, .slice a n cap] 34)).alloc (.cells #[.int .i64 0, .slice none 0 0] 34)) w0) := (Below.refl _ _).grown hg0 (by simp) (fun k hk => by cases hk)
      have HO0 := Lib.hid hown0
      clear hown0 hg0 hi hz0 hz1 hz2
      have p00 := two_first HB0.out 0
      have p01 := two_first HB0.out 1
      go_wp2_with fail
      clear p00 p01
      go_loopw [20] (fun i wr => ∃ (k : Nat) (cs : List Value) (fps : List (List Nat)), k ≤ n ∧ i = .int .i64 k ∧ wr.ownsRow (w.heap.size + 1 + 1) 34 2 (.slice (some ⟨w.heap.size + 1 + 1, 0, none⟩) n n) n cs ∧
          fps.length = k ∧ Fp (w.heap.size + 1 + 1 + 1) wr.heap.size (List.flatten fps) ∧ (∀ j (h : j < ts.length), j < k → ∃ c0 c1 f, cs[j * 2]? = some c0 ∧ cs[j * 2 + 1]? = some c1 ∧ fps[j]? = some f ∧ TyOwn wr d (.agg #[c0, c1]) ts[j] f) ∧
          Below (w.heap.size + 2) ((w.alloc (.cells #[.int .i64 kd, .slice a n cap] 34)).alloc (.cells #[.int .i64 0, .slice none 0 0] 34)) wr) (fun i _ => n - (intOf i).toNat)
      case atStart => exact ⟨0, _, [], by omega, rfl, HO0.out, rfl, Fp.nil _ _, fun j h h2 => by omega, HB0.out⟩
      case round =>
        obtain ⟨k, cs, fps, hk, rfl, hown, hfl, hfp, hdone, hb⟩ := hrel
        have HF := Lib.hid hfp; clear hfp
        have HL := Lib.hid hfl; clear hfl
        have HO := Lib.hid hown
        have HD := Lib.hid hdone; clear hdone
        have HB := Lib.hid hb
        have HBW := Lib.hid (two_below hb); clear hb
        have hgl := (hown.lt (w.heap.size + 1 + 1) rfl).2
        clear hown
        by_cases hlt : k < n
        · have hlt2 : k < ts.length := by have := HN.out; omega
          obtain ⟨b, off, x0, x1, rfl, hbl, hc0, hc1, ht⟩ := HAT.out k hlt2
          obtain ⟨yk, ya, yn, yc, rfl, rfl⟩ := at_parts ht
          have hg := Ty.size_get ts k hlt2
          have e0 : wr.cell? ⟨b, off + k * 2, none⟩ = some (.int .i64 yk) := by rw [HBW.out.cell (p := ⟨b, off + k * 2, none⟩) hbl]; exact hc0
          have e1 : wr.cell? ⟨b, off + k * 2 + 1, none⟩ = some (.slice ya yn yc) := by rw [HBW.out.cell (p := ⟨b, off + k * 2 + 1, none⟩) hbl]; exact hc1
          have hp : Below wr.heap.size wr (wr.alloc (.cells #[.int .i64 yk, .slice ya yn yc] 34)) := below_alloc _ _
          have HT := Lib.hid ((ht.below HBW.out).below hp)
          have HP := Lib.hid hp
          have hzk : ts[k].size ≤ 1048577 := by have := HSZ.out; omega
          clear ht hc0 hc1 hp hg
          go_wp2_with fail
          refine (IH.out _ _ _ hzk HT.out).mono ?_
          rintro e w' ⟨v2, fp, rfl, ht, hfp, hb1⟩
          have hb2 := HP.out.trans (hb1.mono HP.out.size)
          have HF1 := Lib.hid (hfp.mono (lo' := wr.heap.size) HP.out.size (Nat.le_refl _)); clear hfp
          have HO1 := Lib.hid (own_below HO.out hb2); clear HO
          have hz1 := hb2.size
          obtain ⟨zk, za, zn, zc, rfl, HY⟩ := ty_parts ht
          clear ht
          have p0 : ∃ u, w'.cell? ⟨w.heap.size + 1 + 1, k * 2, none⟩ = some u := by
            rw [HO1.out.cellAt (k * 2) (by omega)]
            exact ⟨_, List.getElem?_eq_getElem (by rw [HO1.out.1]; omega)⟩
          have p1 : ∃ u, w'.cell? ⟨w.heap.size + 1 + 1, k * 2 + 1, none⟩ = some u := by
            rw [HO1.out.cellAt (k * 2 + 1) (by omega)]
            exact ⟨_, List.getElem?_eq_getElem (by rw [HO1.out.1]; omega)⟩
          obtain ⟨u0, p0⟩ := p0
          obtain ⟨u1, p1⟩ := p1
          have f0 := HO1.out.frozenAt (k * 2)
          have f1 := HO1.out.frozenAt (k * 2 + 1)
          have HB1 := Lib.hid hb2; clear hb1 hb2
          go_wp2_with fail
          have hcs : cs.length = n * 2 := HO1.out.1
          have hs1 := HO1.out.stored (k * 2) (.int .i64 zk)
          have hs2 := hs1.1.stored (k * 2 + 1) (.slice za zn zc)
          have hkeep : ∀ b, w.heap.size + 1 + 1 + 1 ≤ b → b < w'.heap.size → ((w'.setCell ⟨w.heap.size + 1 + 1, k * 2, none⟩ (.int .i64 zk)).setCell ⟨w.heap.size + 1 + 1, k * 2 + 1, none⟩ (.slice za zn zc)).heap[b]? = w'.heap[b]? := fun b h1 h2 => by
            rw [heap_setCell_other _ _ _ _ (by simp; omega), heap_setCell_other _ _ _ _ (by simp; omega)]
          have hF := HF.out
          have hF1 := HF1.out
          have hL := HL.out
          have hz2 : ((w'.setCell ⟨w.heap.size + 1 + 1, k * 2, none⟩ (.int .i64 zk)).setCell ⟨w.heap.size + 1 + 1, k * 2 + 1, none⟩ (.slice za zn zc)).heap.size = w'.heap.size := by simp
          refine ⟨⟨k + 1, _, fps ++ [fp], by omega, by go_num, hs2.1, by simp [hL], ?_, ?_, ((HB.out.trans (HB1.out.mono (by omega))).setCell (Nat.le_refl _) _).setCell (Nat.le_refl _) _⟩, by simp [intOf]; omega⟩
          · rw [hz2, List.flatten_append, List.flatten_cons, List.flatten_nil, List.append_nil]
            exact hF.join hF1 (by omega) hz1
          · intro j hj hjk
            by_cases hjk2 : j = k
            · subst hjk2
              refine ⟨_, _, fp, ?_, ?_, ?_, HY.out.kept (by simp) fun b hb => hkeep b ?_ (hF1.2 b hb).2⟩
              · rw [List.getElem?_set_ne (by omega), List.getElem?_set_self (by omega)]
              · rw [List.getElem?_set_self (by simp; omega)]
              · rw [List.getElem?_append_right (by omega), hL]; simp
              · have := (hF1.2 b hb).1; omega
            · obtain ⟨c0, c1, f, hc0, hc1, hfj, hty⟩ := HD.out j hj (by omega)
              have hsub : ∀ b, b ∈ f → b ∈ fps.flatten := fun b hb => List.mem_flatten.2 ⟨f, List.mem_of_getElem? hfj, hb⟩
              refine ⟨c0, c1, f, ?_, ?_, ?_, hty.kept (by simp; omega) fun b hb => ?_⟩
              · rw [List.getElem?_set_ne (by omega), List.getElem?_set_ne (by omega)]; exact hc0
              · rw [List.getElem?_set_ne (by omega), List.getElem?_set_ne (by omega)]; exact hc1
              · rw [List.getElem?_append_left (by omega)]; exact hfj
              · have hb2 := hF.2 b (hsub b hb)
                rw [hkeep b hb2.1 (by omega)]; exact HB1.out.block b hb2.2
        · obtain rfl : k = n := by omega
          have p00 := two_first HB.out 0
          have p01 := two_first HB.out 1
          have p10 := two_next HB.out 0
          have p11 := two_next HB.out 1
          have q10 := two_frozen HB.out 0
          have q11 := two_frozen HB.out 1
          go_wp2_with fail
          have hkeep : ∀ b, b ≠ w.heap.size + 1 → ((wr.setCell ⟨w.heap.size + 1, 0, none⟩ (.int .i64 kd)).setCell ⟨w.heap.size + 1, 1, none⟩ (.slice (some ⟨w.heap.size + 1 + 1, 0, none⟩) k k)).heap[b]? = wr.heap[b]? := fun b hb => by
            rw [heap_setCell_other _ _ _ _ hb, heap_setCell_other _ _ _ _ hb]
          have hz2 : ((wr.setCell ⟨w.heap.size + 1, 0, none⟩ (.int .i64 kd)).setCell ⟨w.heap.size + 1, 1, none⟩ (.slice (some ⟨w.heap.size + 1 + 1, 0, none⟩) k k)).heap.size = wr.heap.size := by simp
          have g0 : ((wr.setCell ⟨w.heap.size + 1, 0, none⟩ (.int .i64 kd)).setCell ⟨w.heap.size + 1, 1, none⟩ (.slice (some ⟨w.heap.size + 1 + 1, 0, none⟩) k k)).cell? ⟨w.heap.size + 1, 0, none⟩ = some (.int .i64 kd) := by simp [go_sem, p10]
          have g1 : ((wr.setCell ⟨w.heap.size + 1, 0, none⟩ (.int .i64 kd)).setCell ⟨w.heap.size + 1, 1, none⟩ (.slice (some ⟨w.heap.size + 1 + 1, 0, none⟩) k k)).cell? ⟨w.heap.size + 1, 1, none⟩ = some (.slice (some ⟨w.heap.size + 1 + 1, 0, none⟩) k k) := by simp [go_sem, p11]
          refine bodyPost_ret (v := .agg #[.int .i64 kd, .slice (some ⟨w.heap.size + 1 + 1, 0, none⟩) k k]) (by simp [results, Try.results86, go_sem, g0, g1]) rfl ?_
          refine ⟨_, [w.heap.size + 1 + 1] ++ fps.flatten, rfl, ⟨_, rfl, hk0, hk1, some ⟨w.heap.size + 1 + 1, 0, none⟩, k, [w.heap.size + 1 + 1], fps, by rw [HN.out], by rw [← HN.out]; exact Nat.le_refl _, by omega, by rw [HL.out, HN.out], rfl, fun b hb => by cases List.mem_singleton.1 hb; rw [hz2]; exact hgl, fun j hj => ?_⟩, ?_, (HBW.out.setCell (by simp) _).setCell (by simp) _⟩
          · obtain ⟨c0, c1, f, hc0, hc1, hfj, hty⟩ := HD.out j hj (by have := HN.out; omega)
            have hjk : j < k := by have := HN.out; omega
            refine ⟨w.heap.size + 1 + 1, 0, c0, c1, f, rfl, rfl, by rw [hz2]; exact hgl, ?_, ?_, ?_, hfj, hty.kept (by rw [hz2]; exact Nat.le_refl _) fun b hb => hkeep b ?_⟩
            · rw [World.cell?_of_block (hkeep _ (show w.heap.size + 1 + 1 ≠ w.heap.size + 1 by omega)), Nat.zero_add, HO.out.cellAt (j * 2) (by omega)]; exact hc0
            · rw [World.frozen?_of_block (hkeep _ (show w.heap.size + 1 + 1 ≠ w.heap.size + 1 by omega))]; exact HO.out.frozenAt _
            · rw [World.cell?_of_block (hkeep _ (show w.heap.size + 1 + 1 ≠ w.heap.size + 1 by omega)), Nat.zero_add, HO.out.cellAt (j * 2 + 1) (by omega)]; exact hc1
            · have := (HF.out.2 b (List.mem_flatten.2 ⟨f, List.mem_of_getElem? hfj, hb⟩)).1; omega
          · rw [hz2]
            exact (Fp.one (Nat.le_refl _) (Nat.lt_succ_self _)).join HF.out (by omega) (by omega) |>.mono (by omega) (Nat.le_refl _)
end Go.Proofs.Yteeojgefnoaajaa
/-
  Proved: impl.detach gives a node memory of its own, in place: its type, its parts and theirs; all other memory stays as it was.
-/
namespace Go.Proofs.Yteeojgefnoaajaa
open Go.RowKit

/-- All old memory but three cells of block b (a node's type and parts, from off on) is as it was. -/
def KeptAt (b off : Nat) (w w' : World) : Prop :=
  Below b w w' ∧ (∀ x, x < w.heap.size → x ≠ b → w'.heap[x]? = w.heap[x]?) ∧ (∀ o, (o < off + 3 ∨ off + 5 < o) → w'.cell? ⟨b, o, none⟩ = w.cell? ⟨b, o, none⟩) ∧ (∀ o, w'.frozen? ⟨b, o, none⟩ = w.frozen? ⟨b, o, none⟩)
def DetSaid (d : Nat) : Prop := ∀ (b off : Nat) (c0 c1 c2 c3 c4 c5 : Value) (t : Ex) (w0 w : World), t.bulk ≤ 1048576 → ExAt w0 d (.agg #[c0, c1, c2, c3, c4, c5]) t → Below w0.heap.size w0 w → w0.heap.size ≤ b → b < w.heap.size →
  w.cell? ⟨b, off, none⟩ = some c0 → w.cell? ⟨b, off + 1, none⟩ = some c1 → w.cell? ⟨b, off + 2, none⟩ = some c2 → w.cell? ⟨b, off + 3, none⟩ = some c3 → w.cell? ⟨b, off + 4, none⟩ = some c4 → w.cell? ⟨b, off + 5, none⟩ = some c5 → (∀ o, w.frozen? ⟨b, o, none⟩ = false) →
  Calls Try.prog 114 #[.pointer (some ⟨b, off, none⟩)] w fun e w' => ∃ d3 d4 d5 fp, e = .returned (.tuple #[]) ∧
    w'.cell? ⟨b, off, none⟩ = some c0 ∧ w'.cell? ⟨b, off + 1, none⟩ = some c1 ∧ w'.cell? ⟨b, off + 2, none⟩ = some c2 ∧ w'.cell? ⟨b, off + 3, none⟩ = some d3 ∧ w'.cell? ⟨b, off + 4, none⟩ = some d4 ∧ w'.cell? ⟨b, off + 5, none⟩ = some d5 ∧ ExOwn w' d (.agg #[c0, c1, c2, d3, d4, d5]) t fp ∧ Fp w.heap.size w'.heap.size fp ∧ KeptAt b off w w'

theorem set_far {w : World} {b o p : Nat} {u : Value} (h : o ≠ p) : (w.setCell ⟨b, p, none⟩ u).cell? ⟨b, o, none⟩ = w.cell? ⟨b, o, none⟩ := World.cell?_setCell_other _ _ _ _ (by first | (simp; omega) | simp)
/-- The loop over the parts is done: the node owns its memory. -/
theorem det_done {wr : World} {d g cap : Nat} {es : List Ex} {fps : List (List Nat)} (hc : es.length ≤ cap) (hm : cap ≤ 9223372036854775807) (hg : g < wr.heap.size) (hf : ∀ o, wr.frozen? ⟨g, o, none⟩ = false) (hl : fps.length = es.length)
    (h : ∀ j (h : j < es.length), ∃ x0 x1 x2 x3 x4 x5 f, wr.cell? ⟨g, j * 6, none⟩ = some x0 ∧ wr.cell? ⟨g, j * 6 + 1, none⟩ = some x1 ∧ wr.cell? ⟨g, j * 6 + 2, none⟩ = some x2 ∧ wr.cell? ⟨g, j * 6 + 3, none⟩ = some x3 ∧ wr.cell? ⟨g, j * 6 + 4, none⟩ = some x4 ∧ wr.cell? ⟨g, j * 6 + 5, none⟩ = some x5 ∧ fps[j]? = some f ∧ ExOwn wr d (.agg #[x0, x1, x2, x3, x4, x5]) es[j] f) :
    ExsOwn wr d (.slice (some ⟨g, 0, none⟩) es.length cap) es ([g] ++ fps.flatten) := by
  refine ⟨_, _, [g], fps, rfl, hc, hm, hl, rfl, fun b hb => by cases List.mem_singleton.1 hb; exact hg, fun j hj => ?_⟩
  obtain ⟨x0, x1, x2, x3, x4, x5, f, h0, h1, h2, h3, h4, h5, h6, h7⟩ := h j hj
  exact ⟨g, 0, x0, x1, x2, x3, x4, x5, f, rfl, rfl, hg, by rw [Nat.zero_add]; exact h0, by rw [Nat.zero_add]; exact h1, by rw [Nat.zero_add]; exact h2, by rw [Nat.zero_add]; exact h3, by rw [Nat.zero_add]; exact h4, by rw [Nat.zero_add]; exact h5, hf, h6, h7⟩
theorem det_none (wr : World) (d : Nat) (a : Option Addr) (cap : Nat) (hm : cap ≤ 9223372036854775807) : ExsOwn wr d (.slice a 0 cap) [] [] :=
  ⟨_, _, [], [], rfl, Nat.zero_le _, hm, rfl, rfl, (fun b hb => by cases hb), fun j hj => by simp at hj⟩

set_option maxRecDepth 100000 in
set_option maxHeartbeats 4000000 in
theorem detach_step (d : Nat) (ih : DetSaid d) : DetSaid (d + 1) := by
  intro b off c0 c1 c2 c3 c4 c5 t w0 w hsz hat hb0 hwb hbw h0 h1 h2 h3 h4 h5 hfr
  have IH := Lib.hid ih; clear ih
  obtain ⟨k', nm', n', tk, ta, tn, tc, sa, sn, sc, rfl, rfl, rfl, rfl, rfl, rfl⟩ := ex_cells hat
  cases t with
  | node kd nm n ty es =>
    obtain ⟨c3, c4, sl, hv, hk0, hk1, hn0, hn1, hnm, hty, hes⟩ := hat
    injection hv with hv
    injection hv with hv
    simp at hv
    obtain ⟨rfl, rfl, rfl, rfl, rfl, rfl⟩ := hv
    have hbk : (Ex.node k' nm' n' ty es).bulk = nm'.size + (ty.size - 1) + Ex.bulks es := rfl
    have hsz1 : ty.size ≤ 1048577 := by omega
    have HSZ : Hid (Ex.bulks es ≤ 1048576) := by show _ ≤ _; omega
    have hlen : es.length ≤ 1048576 := by have := Ex.length_le es; have := HSZ.out; omega
    clear hsz hbk
    have HB0 := Lib.hid hb0; clear hb0
    have HTY := Lib.hid (hty.below HB0.out); clear hty
    have HES : Hid (ExsAt w0 d (.slice sa sn sc) es) := hes
    have HFR := Lib.hid hfr
    have E0 := Lib.hid h0
    have E1 := Lib.hid h1
    have E2 := Lib.hid h2
    have E3 := Lib.hid h3
    have E4 := Lib.hid h4
    have E5 := Lib.hid h5
    clear h0 h1 h2 h3 h4 h5
    have u3 := hfr (off + 3)
    have u4 := hfr (off + 4)
    clear hfr hes
    go_enter Try.func114, Try.ntmps114
    have e3 := E3.out
    have e4 := E4.out
    go_wp2_with fail
    clear e3 e4 u3 u4
    refine (implCopy d _ ty _ hsz1 HTY.out).mono ?_
    rintro e w1 ⟨v1, f1, rfl, ht, hf1, hb1⟩
    obtain ⟨gk, ga, gn, gc, rfl, HG⟩ := ty_parts ht
    have F1 := Lib.hid hf1
    have B1 := Lib.hid hb1
    have hz1 := hb1.size
    clear ht hf1 hb1 HTY
    have kc1 : ∀ o, w1.cell? ⟨b, o, none⟩ = w.cell? ⟨b, o, none⟩ := fun o => B1.out.cell (p := ⟨b, o, none⟩) hbw
    have kf1 : ∀ o, w1.frozen? ⟨b, o, none⟩ = false := fun o => (B1.out.frozen (p := ⟨b, o, none⟩) hbw).trans (HFR.out o)
    have KC1 := Lib.hid kc1
    have KF1 := Lib.hid kf1
    have e3 := (kc1 (off + 3)).trans E3.out
    have e4 := (kc1 (off + 4)).trans E4.out
    have e5 := (kc1 (off + 5)).trans E5.out
    have u3 := kf1 (off + 3)
    have u4 := kf1 (off + 4)
    have e5s : ((w1.setCell ⟨b, off + 3, none⟩ (.int .i64 gk)).setCell ⟨b, off + 4, none⟩ (.slice ga gn gc)).cell? ⟨b, off + 5, none⟩ = some (.slice sa sn sc) := by rw [set_far (by omega), set_far (by omega)]; exact e5
    have E5S := Lib.hid e5s
    have BB1 : Hid (Below w0.heap.size w0 ((w1.setCell ⟨b, off + 3, none⟩ (.int .i64 gk)).setCell ⟨b, off + 4, none⟩ (.slice ga gn gc))) := ((HB0.out.trans (B1.out.mono HB0.out.size)).setCell hwb _).setCell hwb _
    have hs1 : ((w1.setCell ⟨b, off + 3, none⟩ (.int .i64 gk)).setCell ⟨b, off + 4, none⟩ (.slice ga gn gc)).heap.size = w1.heap.size := by simp
    clear kc1 kf1
    go_wp2_with fail
    clear e3 e4 e5 u3 u4 e5s
    refine (cloneEx d _ es w0 _ HES.out BB1.out hlen).mono ?_
    rintro e w2 ⟨a2, cap2, rfl, hc2, hm2, hb2, hrow⟩
    have B2 := Lib.hid hb2; clear hb2
    have HROW := Lib.hid hrow; clear hrow
    have hz2 := B2.out.size
    rw [hs1] at hz2
    have hbS : b < ((w1.setCell ⟨b, off + 3, none⟩ (.int .i64 gk)).setCell ⟨b, off + 4, none⟩ (.slice ga gn gc)).heap.size := by rw [hs1]; omega
    have hb2' : b < w2.heap.size := by omega
    have kc2 : ∀ o, o ≠ off + 3 → o ≠ off + 4 → w2.cell? ⟨b, o, none⟩ = w.cell? ⟨b, o, none⟩ := fun o h1 h2 => by
      rw [B2.out.cell (p := ⟨b, o, none⟩) hbS, set_far h2, set_far h1]; exact KC1.out o
    have kf2 : ∀ o, w2.frozen? ⟨b, o, none⟩ = false := fun o => by
      rw [B2.out.frozen (p := ⟨b, o, none⟩) hbS, World.frozen?_setCell, World.frozen?_setCell]; exact KF1.out o
    have k23 : w2.cell? ⟨b, off + 3, none⟩ = some (.int .i64 gk) := by
      rw [B2.out.cell (p := ⟨b, off + 3, none⟩) hbS, set_far (by omega)]
      exact World.cell?_setCell_same _ _ _ ((KC1.out _).trans E3.out)
    have k24 : w2.cell? ⟨b, off + 4, none⟩ = some (.slice ga gn gc) := by
      rw [B2.out.cell (p := ⟨b, off + 4, none⟩) hbS]
      exact World.cell?_setCell_same _ _ _ (by rw [set_far (by omega)]; exact (KC1.out _).trans E4.out)
    have KC2 := Lib.hid kc2
    have KF2 := Lib.hid kf2
    have K23 := Lib.hid k23
    have K24 := Lib.hid k24
    have e5 := (kc2 (off + 5) (by omega) (by omega)).trans E5.out
    have u5 := kf2 (off + 5)
    have e5s : (w2.setCell ⟨b, off + 5, none⟩ (.slice a2 es.length cap2)).cell? ⟨b, off + 5, none⟩ = some (.slice a2 es.length cap2) := World.cell?_setCell_same _ _ _ e5
    have E5T := Lib.hid e5s
    clear kc2 kf2 k23 k24
    go_wp2_with fail
    clear e5 u5 e5s
    -- what the rest is shown from: the node's cells, the type's copy, and what was kept, at the world behind the stores
    obtain ⟨W, hW⟩ : ∃ W, W = (w2.setCell ⟨b, off + 5, none⟩ (.slice a2 es.length cap2)) := ⟨_, rfl⟩
    have hzW : W.heap.size = w2.heap.size := by rw [hW]; simp
    have CB : Hid (∀ o, o ≠ off + 3 → o ≠ off + 4 → o ≠ off + 5 → W.cell? ⟨b, o, none⟩ = w.cell? ⟨b, o, none⟩) := fun o h1 h2 h3 => by
      rw [hW, set_far h3]; exact KC2.out o h1 h2
    have C3 : Hid (W.cell? ⟨b, off + 3, none⟩ = some (.int .i64 gk)) := by show _ = _; rw [hW, set_far (by omega)]; exact K23.out
    have C4 : Hid (W.cell? ⟨b, off + 4, none⟩ = some (.slice ga gn gc)) := by show _ = _; rw [hW, set_far (by omega)]; exact K24.out
    have C5 : Hid (W.cell? ⟨b, off + 5, none⟩ = some (.slice a2 es.length cap2)) := by show _ = _; rw [hW]; exact E5T.out
    have CF : Hid (∀ o, W.frozen? ⟨b, o, none⟩ = false) := fun o => by rw [hW, World.frozen?_setCell]; exact KF2.out o
    have KX : Hid (∀ x, x < w1.heap.size → x ≠ b → W.heap[x]? = w1.heap[x]?) := fun x h1 h2 => by
      rw [hW, heap_setCell_other _ _ _ _ h2, B2.out.block x (by rw [hs1]; exact h1), heap_setCell_other _ _ _ _ h2, heap_setCell_other _ _ _ _ h2]
    have BB : Hid (Below b w W) := by
      show Below _ _ _
      rw [hW]
      have q1 : Below b w w1 := B1.out.mono (by omega)
      have q2 : Below b w ((w1.setCell ⟨b, off + 3, none⟩ (.int .i64 gk)).setCell ⟨b, off + 4, none⟩ (.slice ga gn gc)) := (q1.setCell (Nat.le_refl _) _).setCell (Nat.le_refl _) _
      have q3 : Below b w w2 := q2.trans (B2.out.mono (by rw [hs1]; omega))
      exact q3.setCell (Nat.le_refl _) _
    have BW0 : Hid (Below w0.heap.size w0 W) := HB0.out.trans (BB.out.mono hwb)
    have HGW : Hid (TyOwn W d (.agg #[.int .i64 gk, .slice ga gn gc]) ty f1) := HG.kept (by rw [hzW]; omega) fun x hx => KX.out x (F1.out.2 x hx).2 (by have := (F1.out.2 x hx).1; omega)
    have HROWW : Hid (0 < es.length → ∃ g, a2 = some ⟨g, 0, none⟩ ∧ w1.heap.size ≤ g ∧ g < W.heap.size ∧ (∀ o, W.frozen? ⟨g, o, none⟩ = false) ∧
        ∀ j (h : j < es.length), ∃ x0 x1 x2 x3 x4 x5, W.cell? ⟨g, j * 6, none⟩ = some x0 ∧ W.cell? ⟨g, j * 6 + 1, none⟩ = some x1 ∧ W.cell? ⟨g, j * 6 + 2, none⟩ = some x2 ∧ W.cell? ⟨g, j * 6 + 3, none⟩ = some x3 ∧ W.cell? ⟨g, j * 6 + 4, none⟩ = some x4 ∧ W.cell? ⟨g, j * 6 + 5, none⟩ = some x5 ∧ ExAt w0 d (.agg #[x0, x1, x2, x3, x4, x5]) es[j]) := by
      show _ → _
      intro hp
      obtain ⟨g, hg, hg1, hg2, hgf, hgc⟩ := HROW.out hp
      rw [hs1] at hg1
      have hgb : g ≠ b := by omega
      have hgc2 : ∀ o, W.cell? ⟨g, o, none⟩ = w2.cell? ⟨g, o, none⟩ := fun o => by rw [hW]; exact World.cell?_of_block (a := ⟨g, o, none⟩) (heap_setCell_other _ _ _ _ hgb)
      refine ⟨g, hg, hg1, by rw [hzW]; exact hg2, fun o => by rw [hW, World.frozen?_setCell]; exact hgf o, fun j hj => ?_⟩
      obtain ⟨x0, x1, x2, x3, x4, x5, h0, h1, h2, h3, h4, h5, ht⟩ := hgc j hj
      exact ⟨x0, x1, x2, x3, x4, x5, (hgc2 _).trans h0, (hgc2 _).trans h1, (hgc2 _).trans h2, (hgc2 _).trans h3, (hgc2 _).trans h4, (hgc2 _).trans h5, ht⟩
    clear KC2 KF2 K23 K24 E5T B2 HROW KC1 KF1
    rw [← hW]
    clear hW
    have c5 := C5.out
    by_cases hp : 0 < es.length
    · obtain ⟨g, rfl, hg1, hg2, hgf, hgc⟩ := HROWW.out hp
      have HGC := Lib.hid hgc
      have HGF := Lib.hid hgf
      clear hgc hgf HROWW
      have hgb : b < g := by omega
      go_wp2_with fail
      clear c5
      go_loopw [24] (fun i wr => ∃ (k : Nat) (fps : List (List Nat)), k ≤ es.length ∧ i = .int .i64 k ∧ fps.length = k ∧ Fp W.heap.size wr.heap.size (List.flatten fps) ∧ Below g W wr ∧ (∀ o, wr.frozen? ⟨g, o, none⟩ = false) ∧
        (∀ j (h : j < es.length), ∃ x0 x1 x2 x3 x4 x5, wr.cell? ⟨g, j * 6, none⟩ = some x0 ∧ wr.cell? ⟨g, j * 6 + 1, none⟩ = some x1 ∧ wr.cell? ⟨g, j * 6 + 2, none⟩ = some x2 ∧ wr.cell? ⟨g, j * 6 + 3, none⟩ = some x3 ∧ wr.cell? ⟨g, j * 6 + 4, none⟩ = some x4 ∧ wr.cell? ⟨g, j * 6 + 5, none⟩ = some x5 ∧ (j < k → ∃ f, fps[j]? = some f ∧ ExOwn wr d (.agg #[x0, x1, x2, x3, x4, x5]) es[j] f) ∧ (k ≤ j → ExAt w0 d (.agg #[x0, x1, x2, x3, x4, x5]) es[j]))) (fun i _ => es.length - (intOf i).toNat)
      case atStart =>
        refine ⟨0, [], by omega, rfl, rfl, Fp.nil _ _, Below.refl _ _, HGF.out, fun j hj => ?_⟩
        obtain ⟨x0, x1, x2, x3, x4, x5, h0, h1, h2, h3, h4, h5, ht⟩ := HGC.out j hj
        exact ⟨x0, x1, x2, x3, x4, x5, h0, h1, h2, h3, h4, h5, fun h => by omega, fun _ => ht⟩
      case round =>
        obtain ⟨k, fps, hk, rfl, hfl, hfp, hb, hgfr, hrow⟩ := hrel
        have FP := Lib.hid hfp; clear hfp
        have FL := Lib.hid hfl; clear hfl
        have HB := Lib.hid hb; clear hb
        have GF := Lib.hid hgfr; clear hgfr
        have RW := Lib.hid hrow; clear hrow
        have hzr := HB.out.size
        have z5 : wr.cell? ⟨b, off + 5, none⟩ = some (.slice (some ⟨g, 0, none⟩) es.length cap2) := (HB.out.cell (p := ⟨b, off + 5, none⟩) hgb).trans C5.out
        by_cases hlt : k < es.length
        · have hgz : es[k].bulk ≤ 1048576 := by have := Ex.bulk_get es k hlt; have := HSZ.out; omega
          obtain ⟨x0, x1, x2, x3, x4, x5, h0, h1, h2, h3, h4, h5, _, ht⟩ := RW.out k hlt
          have BR : Hid (Below w0.heap.size w0 wr) := BW0.out.trans (HB.out.mono (by omega))
          have HT := Lib.hid (ht (Nat.le_refl _))
          have H0 := Lib.hid h0
          have H1 := Lib.hid h1
          have H2 := Lib.hid h2
          have H3 := Lib.hid h3
          have H4 := Lib.hid h4
          have H5 := Lib.hid h5
          clear ht h0 h1 h2 h3 h4 h5
          go_wp2_with fail
          refine (IH.out g (k * 6) x0 x1 x2 x3 x4 x5 es[k] w0 wr hgz HT.out BR.out (by omega) (by omega) H0.out H1.out H2.out H3.out H4.out H5.out GF.out).mono ?_
          rintro e w' ⟨d3, d4, d5, fp, rfl, q0, q1, q2, q3, q4, q5, hown, hfp, hkb, hkx, hkc, hkf⟩
          have OWN := Lib.hid hown
          have FQ := Lib.hid hfp
          have KB := Lib.hid hkb
          have KHX := Lib.hid hkx
          have KCC := Lib.hid hkc
          have KFF := Lib.hid hkf
          have Q0 := Lib.hid q0
          have Q1 := Lib.hid q1
          have Q2 := Lib.hid q2
          have Q3 := Lib.hid q3
          have Q4 := Lib.hid q4
          have Q5 := Lib.hid q5
          clear hown hfp hkb hkx hkc hkf q0 q1 q2 q3 q4 q5 z5
          have z5' : w'.cell? ⟨b, off + 5, none⟩ = some (.slice (some ⟨g, 0, none⟩) es.length cap2) := (KB.out.cell (p := ⟨b, off + 5, none⟩) hgb).trans ((HB.out.cell (p := ⟨b, off + 5, none⟩) hgb).trans C5.out)
          go_wp2_with fail
          clear z5'
          have hzw := KB.out.size
          have hF := FP.out
          have hQ := FQ.out
          have hL := FL.out
          refine ⟨⟨k + 1, fps ++ [fp], by omega, by go_num, by simp [hL], ?_, HB.out.trans KB.out, fun o => (KFF.out o).trans (GF.out o), fun j hj => ?_⟩, by simp [intOf]; omega⟩
          · rw [List.flatten_append, List.flatten_cons, List.flatten_nil, List.append_nil]
            exact hF.join hQ (by omega) (by omega)
          · by_cases hjk : j = k
            · subst hjk
              exact ⟨x0, x1, x2, d3, d4, d5, Q0.out, Q1.out, Q2.out, Q3.out, Q4.out, Q5.out, fun _ => ⟨fp, by rw [List.getElem?_append_right (by omega), hL]; simp, OWN.out⟩, fun h => by omega⟩
            · obtain ⟨x0, x1, x2, x3, x4, x5, h0, h1, h2, h3, h4, h5, hdone, hto⟩ := RW.out j hj
              refine ⟨x0, x1, x2, x3, x4, x5, (by rw [KCC.out (j * 6) (by omega)]; exact h0), (by rw [KCC.out (j * 6 + 1) (by omega)]; exact h1), (by rw [KCC.out (j * 6 + 2) (by omega)]; exact h2), (by rw [KCC.out (j * 6 + 3) (by omega)]; exact h3), (by rw [KCC.out (j * 6 + 4) (by omega)]; exact h4), (by rw [KCC.out (j * 6 + 5) (by omega)]; exact h5), fun h => ?_, fun h => hto (by omega)⟩
              obtain ⟨f, hf, ho⟩ := hdone (by omega)
              refine ⟨f, by rw [List.getElem?_append_left (by omega)]; exact hf, ho.kept (by omega) fun x hx => ?_⟩
              have hx2 := hF.2 x (List.mem_flatten.2 ⟨f, List.mem_of_getElem? hf, hx⟩)
              exact KHX.out x hx2.2 (by omega)
        · obtain rfl : k = es.length := by omega
          go_wp2_with fail
          refine bodyPost_end (results_none (by kernel_rfl) _ _ _) rfl ?_
          have hall : ∀ j (h : j < es.length), ∃ x0 x1 x2 x3 x4 x5 f, wr.cell? ⟨g, j * 6, none⟩ = some x0 ∧ wr.cell? ⟨g, j * 6 + 1, none⟩ = some x1 ∧ wr.cell? ⟨g, j * 6 + 2, none⟩ = some x2 ∧ wr.cell? ⟨g, j * 6 + 3, none⟩ = some x3 ∧ wr.cell? ⟨g, j * 6 + 4, none⟩ = some x4 ∧ wr.cell? ⟨g, j * 6 + 5, none⟩ = some x5 ∧ fps[j]? = some f ∧ ExOwn wr d (.agg #[x0, x1, x2, x3, x4, x5]) es[j] f := fun j hj => by
            obtain ⟨x0, x1, x2, x3, x4, x5, h0, h1, h2, h3, h4, h5, hdone, _⟩ := RW.out j hj
            obtain ⟨f, hf, ho⟩ := hdone hj
            exact ⟨x0, x1, x2, x3, x4, x5, f, h0, h1, h2, h3, h4, h5, hf, ho⟩
          have hso := det_done hc2 hm2 (by omega) GF.out FL.out hall
          have kb : ∀ o, wr.cell? ⟨b, o, none⟩ = W.cell? ⟨b, o, none⟩ := fun o => HB.out.cell (p := ⟨b, o, none⟩) hgb
          have hty : TyOwn wr d (.agg #[.int .i64 gk, .slice ga gn gc]) ty f1 := HGW.out.kept hzr fun x hx => HB.out.block x (by have := (F1.out.2 x hx).2; omega)
          refine ⟨.int .i64 gk, .slice ga gn gc, .slice (some ⟨g, 0, none⟩) es.length cap2, f1 ++ ([g] ++ fps.flatten), rfl, (kb _).trans ((CB.out _ (by omega) (by omega) (by omega)).trans E0.out), (kb _).trans ((CB.out _ (by omega) (by omega) (by omega)).trans E1.out), (kb _).trans ((CB.out _ (by omega) (by omega) (by omega)).trans E2.out), (kb _).trans C3.out, (kb _).trans C4.out, (kb _).trans C5.out,
            ⟨_, _, _, f1, _, rfl, hk0, hk1, hn0, hn1, hnm, rfl, hty, hso⟩, ?_, BB.out.trans (HB.out.mono (by omega)), fun x h1 h2 => ?_, fun o ho => ?_, fun o => ?_⟩
          · have hj1 := (Fp.one (g := g) (lo := w1.heap.size) (hi := W.heap.size) hg1 hg2).join FP.out (by omega) hzr
            exact (F1.out.join hj1 hz1 (by omega)).mono (Nat.le_refl _) (Nat.le_refl _)
          · rw [HB.out.block x (by omega), KX.out x (by omega) h2]
            exact B1.out.block x h1
          · rw [kb, CB.out o (by omega) (by omega) (by omega)]
          · rw [HB.out.frozen (p := ⟨b, o, none⟩) hgb, CF.out o, HFR.out o]
    · have hl0 : es.length = 0 := by omega
      obtain rfl : es = [] := List.eq_nil_of_length_eq_zero hl0
      go_wp2_with fail
      go_loopw [24] (fun i wr => i = .int .i64 0 ∧ wr = W) (fun _ _ => 0)
      case atStart => exact ⟨rfl, rfl⟩
      case round =>
        obtain ⟨rfl, rfl⟩ := hrel
        go_wp2_with fail
        refine bodyPost_end (results_none (by kernel_rfl) _ _ _) rfl ?_
        refine ⟨.int .i64 gk, .slice ga gn gc, .slice a2 0 cap2, f1 ++ [], rfl, (CB.out _ (by omega) (by omega) (by omega)).trans E0.out, (CB.out _ (by omega) (by omega) (by omega)).trans E1.out, (CB.out _ (by omega) (by omega) (by omega)).trans E2.out, C3.out, C4.out, C5.out,
          ⟨_, _, _, f1, _, rfl, hk0, hk1, hn0, hn1, hnm, rfl, HGW.out, det_none _ _ _ _ hm2⟩, ?_, BB.out, fun x h1 h2 => ?_, fun o ho => ?_, fun o => ?_⟩
        · rw [List.append_nil]
          exact F1.out.mono (Nat.le_refl _) (by omega)
        · rw [KX.out x (by omega) h2]
          exact B1.out.block x h1
        · exact CB.out o (by omega) (by omega) (by omega)
        · rw [CF.out o, HFR.out o]
theorem detach_all : ∀ d, DetSaid d
  | 0 => fun _ _ _ _ _ _ _ _ _ _ _ _ h => h.elim
  | d + 1 => detach_step d (detach_all d)
end Go.Proofs.Yteeojgefnoaajaa
/-
  Proved: impl.copyExpr copies an expression into new memory; the memory that was there stays as it was.
-/
namespace Go.Proofs.Yteeojgefnoaajaa
open Go.RowKit

set_option maxRecDepth 100000 in
set_option maxHeartbeats 4000000 in
theorem implExCopy (d : Nat) (v : Value) (t : Ex) (w : World) (hsz : t.bulk ≤ 1048576) (h : ExAt w d v t) :
    Calls Try.prog 110 #[v] w (ToExEnd d t w) := by
  obtain ⟨k, nm, n, tk, ta, tn, tc, sa, sn, sc, rfl⟩ := ex_parts h
  have B : Hid (Below w.heap.size w ((w.alloc (.cells #[.int .i64 k, .string nm, .int .i64 n, .int .i64 tk, .slice ta tn tc, .slice sa sn sc] 55)).alloc (.cells #[.int .i64 0, .string ⟨#[]⟩, .int .i64 0, .int .i64 0, .slice none 0 0, .slice none 0 0] 55))) := ((Below.refl _ _).alloc (Nat.le_refl _) _).alloc (by simp) _
  have XA : Hid (BoxAt ((w.alloc (.cells #[.int .i64 k, .string nm, .int .i64 n, .int .i64 tk, .slice ta tn tc, .slice sa sn sc] 55)).alloc (.cells #[.int .i64 0, .string ⟨#[]⟩, .int .i64 0, .int .i64 0, .slice none 0 0, .slice none 0 0] 55)) w.heap.size #[.int .i64 k, .string nm, .int .i64 n, .int .i64 tk, .slice ta tn tc, .slice sa sn sc]) := (BoxAt.new _ _ _).below (below_alloc _ _)
  have FA : Hid (FreeAt ((w.alloc (.cells #[.int .i64 k, .string nm, .int .i64 n, .int .i64 tk, .slice ta tn tc, .slice sa sn sc] 55)).alloc (.cells #[.int .i64 0, .string ⟨#[]⟩, .int .i64 0, .int .i64 0, .slice none 0 0, .slice none 0 0] 55)) w.heap.size) := (FreeAt.new _ _ _).below (below_alloc _ _)
  have XR : Hid (BoxAt ((w.alloc (.cells #[.int .i64 k, .string nm, .int .i64 n, .int .i64 tk, .slice ta tn tc, .slice sa sn sc] 55)).alloc (.cells #[.int .i64 0, .string ⟨#[]⟩, .int .i64 0, .int .i64 0, .slice none 0 0, .slice none 0 0] 55)) (w.heap.size + 1) #[.int .i64 0, .string ⟨#[]⟩, .int .i64 0, .int .i64 0, .slice none 0 0, .slice none 0 0]) := box_at (BoxAt.new _ _ _) (by simp)
  have FR : Hid (FreeAt ((w.alloc (.cells #[.int .i64 k, .string nm, .int .i64 n, .int .i64 tk, .slice ta tn tc, .slice sa sn sc] 55)).alloc (.cells #[.int .i64 0, .string ⟨#[]⟩, .int .i64 0, .int .i64 0, .slice none 0 0, .slice none 0 0] 55)) (w.heap.size + 1)) := free_at (FreeAt.new _ _ _) (by simp)
  have hz : ((w.alloc (.cells #[.int .i64 k, .string nm, .int .i64 n, .int .i64 tk, .slice ta tn tc, .slice sa sn sc] 55)).alloc (.cells #[.int .i64 0, .string ⟨#[]⟩, .int .i64 0, .int .i64 0, .slice none 0 0, .slice none 0 0] 55)).heap.size = w.heap.size + 2 := by simp
  have H := Lib.hid h; clear h
  go_enter Try.func110, Try.ntmps110
  go_wp2_with fail
  refine (detach_all d w.heap.size 0 _ _ _ _ _ _ t w _ hsz H.out B.out (Nat.le_refl _) XA.out.1 (XA.out.2 0) (XA.out.2 1) (XA.out.2 2) (XA.out.2 3) (XA.out.2 4) (XA.out.2 5) FA.out.2).mono ?_
  rintro e w1 ⟨d3, d4, d5, fp, rfl, q0, q1, q2, q3, q4, q5, hown, hfp, hkb, hkx, hkc, hkf⟩
  obtain ⟨_, _, _, zk, za, zn, zc, ya, ym, yc, e0, e1, e2, rfl, rfl, rfl⟩ := ex_cells hown.at_
  injection e0 with _ e0
  injection e1 with e1
  injection e2 with _ e2
  subst e0 e1 e2
  have HO := Lib.hid hown
  have HF := Lib.hid hfp
  have KX := Lib.hid hkx
  have Q0 := Lib.hid q0
  have Q1 := Lib.hid q1
  have Q2 := Lib.hid q2
  have Q3 := Lib.hid q3
  have Q4 := Lib.hid q4
  have Q5 := Lib.hid q5
  have hz1 := hkb.size
  rw [hz] at hz1
  have B1 : Hid (Below w.heap.size w w1) := B.out.trans hkb
  have XR1 : Hid (BoxAt w1 (w.heap.size + 1) #[.int .i64 0, .string ⟨#[]⟩, .int .i64 0, .int .i64 0, .slice none 0 0, .slice none 0 0]) := XR.out.kept hkb.size (hkx _ XR.out.1 (by omega))
  have FR1 : Hid (FreeAt w1 (w.heap.size + 1)) := ⟨by omega, fun j => (World.frozen?_of_block (a := ⟨w.heap.size + 1, j, none⟩) (hkx (w.heap.size + 1) XR.out.1 (by omega))).trans (FR.out.2 j)⟩
  clear hown hfp hkb hkx hkc hkf q0 q1 q2 q3 q4 q5 XA FA XR FR B H
  have p0 := Q0.out
  have p1 := Q1.out
  have p2 := Q2.out
  have p3 := Q3.out
  have p4 := Q4.out
  have p5 := Q5.out
  have r0 := XR1.out.2 0
  have s0 := FR1.out.2 0
  have r1 := XR1.out.2 1
  have s1 := FR1.out.2 1
  have r2 := XR1.out.2 2
  have s2 := FR1.out.2 2
  have r3 := XR1.out.2 3
  have s3 := FR1.out.2 3
  have r4 := XR1.out.2 4
  have s4 := FR1.out.2 4
  have r5 := XR1.out.2 5
  have s5 := FR1.out.2 5
  go_wp2_with fail
  have XRF : BoxAt ((((((w1.setCell ⟨w.heap.size + 1, 0, none⟩ (.int .i64 k)).setCell ⟨w.heap.size + 1, 1, none⟩ (.string nm)).setCell ⟨w.heap.size + 1, 2, none⟩ (.int .i64 n)).setCell ⟨w.heap.size + 1, 3, none⟩ (.int .i64 zk)).setCell ⟨w.heap.size + 1, 4, none⟩ (.slice za zn zc)).setCell ⟨w.heap.size + 1, 5, none⟩ (.slice ya ym yc)) (w.heap.size + 1) #[.int .i64 k, .string nm, .int .i64 n, .int .i64 zk, .slice za zn zc, .slice ya ym yc] := by
    have := ((((((XR1.out.put (j := 0) (u := .int .i64 k) (by simp)).put (j := 1) (u := .string nm) (by simp)).put (j := 2) (u := .int .i64 n) (by simp)).put (j := 3) (u := .int .i64 zk) (by simp)).put (j := 4) (u := .slice za zn zc) (by simp)).put (j := 5) (u := .slice ya ym yc) (by simp))
    exact this
  have K1 : ∀ b, b ≠ w.heap.size + 1 → ((((((w1.setCell ⟨w.heap.size + 1, 0, none⟩ (.int .i64 k)).setCell ⟨w.heap.size + 1, 1, none⟩ (.string nm)).setCell ⟨w.heap.size + 1, 2, none⟩ (.int .i64 n)).setCell ⟨w.heap.size + 1, 3, none⟩ (.int .i64 zk)).setCell ⟨w.heap.size + 1, 4, none⟩ (.slice za zn zc)).setCell ⟨w.heap.size + 1, 5, none⟩ (.slice ya ym yc)).heap[b]? = w1.heap[b]? := fun b hb => by rw [heap_setCell_other _ _ _ _ (by simpa using hb), heap_setCell_other _ _ _ _ (by simpa using hb), heap_setCell_other _ _ _ _ (by simpa using hb), heap_setCell_other _ _ _ _ (by simpa using hb), heap_setCell_other _ _ _ _ (by simpa using hb), heap_setCell_other _ _ _ _ (by simpa using hb)]
  have hzf : ((((((w1.setCell ⟨w.heap.size + 1, 0, none⟩ (.int .i64 k)).setCell ⟨w.heap.size + 1, 1, none⟩ (.string nm)).setCell ⟨w.heap.size + 1, 2, none⟩ (.int .i64 n)).setCell ⟨w.heap.size + 1, 3, none⟩ (.int .i64 zk)).setCell ⟨w.heap.size + 1, 4, none⟩ (.slice za zn zc)).setCell ⟨w.heap.size + 1, 5, none⟩ (.slice ya ym yc)).heap.size = w1.heap.size := by simp
  have hbF : Below w.heap.size w ((((((w1.setCell ⟨w.heap.size + 1, 0, none⟩ (.int .i64 k)).setCell ⟨w.heap.size + 1, 1, none⟩ (.string nm)).setCell ⟨w.heap.size + 1, 2, none⟩ (.int .i64 n)).setCell ⟨w.heap.size + 1, 3, none⟩ (.int .i64 zk)).setCell ⟨w.heap.size + 1, 4, none⟩ (.slice za zn zc)).setCell ⟨w.heap.size + 1, 5, none⟩ (.slice ya ym yc)) := ((((((B1.out.setCell (by simp) _).setCell (by simp) _).setCell (by simp) _).setCell (by simp) _).setCell (by simp) _).setCell (by simp) _)
  have g0 := XRF.2 0
  have g1 := XRF.2 1
  have g2 := XRF.2 2
  have g3 := XRF.2 3
  have g4 := XRF.2 4
  have g5 := XRF.2 5
  clear XRF
  have HOF : ExOwn ((((((w1.setCell ⟨w.heap.size + 1, 0, none⟩ (.int .i64 k)).setCell ⟨w.heap.size + 1, 1, none⟩ (.string nm)).setCell ⟨w.heap.size + 1, 2, none⟩ (.int .i64 n)).setCell ⟨w.heap.size + 1, 3, none⟩ (.int .i64 zk)).setCell ⟨w.heap.size + 1, 4, none⟩ (.slice za zn zc)).setCell ⟨w.heap.size + 1, 5, none⟩ (.slice ya ym yc)) d (.agg #[.int .i64 k, .string nm, .int .i64 n, .int .i64 zk, .slice za zn zc, .slice ya ym yc]) t fp := HO.out.kept (by rw [hzf]; omega) fun b hb => K1 b (by have := (HF.out.2 b hb).1; rw [hz] at this; omega)
  have hfpF : Fp w.heap.size ((((((w1.setCell ⟨w.heap.size + 1, 0, none⟩ (.int .i64 k)).setCell ⟨w.heap.size + 1, 1, none⟩ (.string nm)).setCell ⟨w.heap.size + 1, 2, none⟩ (.int .i64 n)).setCell ⟨w.heap.size + 1, 3, none⟩ (.int .i64 zk)).setCell ⟨w.heap.size + 1, 4, none⟩ (.slice za zn zc)).setCell ⟨w.heap.size + 1, 5, none⟩ (.slice ya ym yc)).heap.size fp := by rw [hzf]; exact HF.out.mono (by rw [hz]; omega) (Nat.le_refl _)
  generalize ((((((w1.setCell ⟨w.heap.size + 1, 0, none⟩ (.int .i64 k)).setCell ⟨w.heap.size + 1, 1, none⟩ (.string nm)).setCell ⟨w.heap.size + 1, 2, none⟩ (.int .i64 n)).setCell ⟨w.heap.size + 1, 3, none⟩ (.int .i64 zk)).setCell ⟨w.heap.size + 1, 4, none⟩ (.slice za zn zc)).setCell ⟨w.heap.size + 1, 5, none⟩ (.slice ya ym yc)) = WX at g0 g1 g2 g3 g4 g5 HOF hfpF hbF ⊢
  refine bodyPost_ret (v := .agg #[.int .i64 k, .string nm, .int .i64 n, .int .i64 zk, .slice za zn zc, .slice ya ym yc]) (by simp [results, Try.results110, go_sem, g0, g1, g2, g3, g4, g5]) rfl ?_
  exact ⟨_, fp, rfl, HOF, hfpF, hbF⟩
end Go.Proofs.Yteeojgefnoaajaa
/-
  Proved: plain facts on the node at a path; no program.
-/
namespace Go.Proofs.Yteeojgefnoaajaa
open Go.RowKit

/-- The parts of an expression's root. -/
def Ex.parts : Ex → List Ex
  | .node _ _ _ _ es => es
/-- The node at a path. -/
def Ex.sub : Ex → List Int → Option Ex
  | e, [] => some e
  | e, p :: r => if 0 ≤ p then (match e.parts[p.toNat]? with | some x => x.sub r | none => none) else none
theorem sub_nil (e : Ex) : e.sub [] = some e := by unfold Ex.sub; rfl
theorem sub_step {e : Ex} {p : Int} {r : List Int} (h0 : 0 ≤ p) (h1 : p.toNat < e.parts.length) : e.sub (p :: r) = (e.parts[p.toNat]).sub r := by
  conv => lhs; unfold Ex.sub
  rw [if_pos h0, List.getElem?_eq_getElem h1]
theorem sub_low {e : Ex} {p : Int} {r : List Int} (h : p < 0) : e.sub (p :: r) = none := by
  unfold Ex.sub
  rw [if_neg (by omega)]
theorem sub_high {e : Ex} {p : Int} {r : List Int} (h : (e.parts.length : Int) ≤ p) : e.sub (p :: r) = none := by
  unfold Ex.sub
  rw [if_pos (by omega), List.getElem?_eq_none (by omega)]
theorem drop_at (ps : List Int) (k : Nat) (h : k < ps.length) : ps.drop k = ps[k] :: ps.drop (k + 1) := List.drop_eq_getElem_cons h
theorem part_bulk {e : Ex} {k : Nat} (h : k < e.parts.length) : (e.parts[k]).bulk ≤ e.bulk := by
  cases e with
  | node kd nm n ty es =>
    have h1 : k < es.length := h
    have := Ex.bulk_get es k h1
    show es[k].bulk ≤ nm.size + (ty.size - 1) + Ex.bulks es
    omega
/-- The parts of an expression in memory, one by one. -/
theorem ex_row {w : World} {d : Nat} {c0 c1 c2 c3 c4 : Value} {a : Option Addr} {m c : Nat} {e : Ex} (h : ExAt w d (.agg #[c0, c1, c2, c3, c4, .slice a m c]) e) :
    m = e.parts.length ∧ m ≤ c ∧ c ≤ 9223372036854775807 ∧ ∀ j (h : j < e.parts.length), ∃ b off x0 x1 x2 x3 x4 x5, a = some ⟨b, off, none⟩ ∧ b < w.heap.size ∧ w.cell? ⟨b, off + j * 6, none⟩ = some x0 ∧ w.cell? ⟨b, off + j * 6 + 1, none⟩ = some x1 ∧ w.cell? ⟨b, off + j * 6 + 2, none⟩ = some x2 ∧
      w.cell? ⟨b, off + j * 6 + 3, none⟩ = some x3 ∧ w.cell? ⟨b, off + j * 6 + 4, none⟩ = some x4 ∧ w.cell? ⟨b, off + j * 6 + 5, none⟩ = some x5 ∧ ExAt w d (.agg #[x0, x1, x2, x3, x4, x5]) e.parts[j] := by
  cases d with
  | zero => exact h.elim
  | succ d =>
    cases e with
    | node kd nm n ty es =>
      obtain ⟨z3, z4, sl, hv, _, _, _, _, _, _, a', cap', hs, hc, hc2, hat⟩ := h
      injection hv with hv
      injection hv with hv
      simp at hv
      obtain ⟨_, _, _, _, _, hsl⟩ := hv
      rw [hs] at hsl
      injection hsl with e1 e2 e3
      subst e1 e2 e3
      refine ⟨rfl, hc, hc2, fun j hj => ?_⟩
      obtain ⟨b, off, x0, x1, x2, x3, x4, x5, ha, hb, h0, h1, h2, h3, h4, h5, hr⟩ := hat j hj
      exact ⟨b, off, x0, x1, x2, x3, x4, x5, ha, hb, h0, h1, h2, h3, h4, h5, hr.succ⟩
end Go.Proofs.Yteeojgefnoaajaa
/-
  Proved: plain facts on a row of expressions that a call builds by append: each has blocks of its own, apart from the row's.
-/
namespace Go.Proofs.Yteeojgefnoaajaa
open Go.RowKit

def ExRow (w : World) (base d : Nat) (v : Value) (ts : List Ex) : Prop :=
  ∃ cs fps, w.ownsRow base 55 6 v ts.length cs ∧ fps.length = ts.length ∧ Fp base w.heap.size (List.flatten fps) ∧ (∀ g, v.ownBlock = some g → g ∉ List.flatten fps) ∧
    ∀ j (h : j < ts.length), ∃ c0 c1 c2 c3 c4 c5 f, cs[j * 6]? = some c0 ∧ cs[j * 6 + 1]? = some c1 ∧ cs[j * 6 + 2]? = some c2 ∧ cs[j * 6 + 3]? = some c3 ∧ cs[j * 6 + 4]? = some c4 ∧ cs[j * 6 + 5]? = some c5 ∧ fps[j]? = some f ∧ ExOwn w d (.agg #[c0, c1, c2, c3, c4, c5]) ts[j] f
theorem ExRow.nil (w : World) (base d : Nat) : ExRow w base d (.slice none 0 0) [] :=
  ⟨[], [], World.ownsRow_nil _ _ _ _, rfl, Fp.nil _ _, fun g hg => by simp, fun j hj => by simp at hj⟩
theorem flat_mem {fps : List (List Nat)} {j b : Nat} {f : List Nat} (h : fps[j]? = some f) (hb : b ∈ f) : b ∈ fps.flatten := List.mem_flatten.2 ⟨f, List.mem_of_getElem? h, hb⟩
theorem ExRow.kept {w w' : World} {base d : Nat} {v : Value} {ts : List Ex} (h : ExRow w base d v ts) (hz : w.heap.size ≤ w'.heap.size) (hk : ∀ b, base ≤ b → b < w.heap.size → w'.heap[b]? = w.heap[b]?) : ExRow w' base d v ts := by
  obtain ⟨cs, fps, hown, hl, hf, hg, hat⟩ := h
  have hlt := hown.lt
  refine ⟨cs, fps, ⟨hown.1, ?_⟩, hl, hf.mono (Nat.le_refl _) hz, hg, fun j hj => ?_⟩
  · rcases hown.2 with h | ⟨g, cap, cur, rfl, r1, r2, r3⟩
    · exact Or.inl h
    · exact Or.inr ⟨g, cap, cur, rfl, r1, by rw [hk g (hlt g rfl).1 (hlt g rfl).2]; exact r2, r3⟩
  · obtain ⟨c0, c1, c2, c3, c4, c5, f, g0, g1, g2, g3, g4, g5, h2, h3⟩ := hat j hj
    exact ⟨c0, c1, c2, c3, c4, c5, f, g0, g1, g2, g3, g4, g5, h2, h3.kept hz fun b hb => by have := hf.2 b (flat_mem h2 hb); exact hk b this.1 this.2⟩
theorem ExRow.below {w w' : World} {base d : Nat} {v : Value} {ts : List Ex} (h : ExRow w base d v ts) (hb : Below w.heap.size w w') : ExRow w' base d v ts :=
  h.kept hb.size fun b _ hlt => hb.block b hlt
theorem ExRow.stored {w : World} {base d : Nat} {v : Value} {ts : List Ex} (h : ExRow w base d v ts) {p o : Nat} (hp : p < base) (u : Value) : ExRow (w.setCell ⟨p, o, none⟩ u) base d v ts :=
  h.kept (by simp) fun b hb _ => heap_setCell_other _ _ _ _ (by simp; omega)
theorem ExRow.form {w : World} {base d : Nat} {v : Value} {ts : List Ex} (h : ExRow w base d v ts) : ∃ a c, v = .slice a ts.length c := by
  obtain ⟨cs, fps, hown, _⟩ := h
  rcases hown.2 with ⟨h1, h2⟩ | ⟨g, cap, cur, h1, _⟩
  · exact ⟨none, 0, by rw [h1, h2]⟩
  · exact ⟨_, cap, h1⟩
/-- An element is appended: wr is the world ahead of the element, w' the one behind it, w1 the one behind the append. -/
theorem ExRow.append {wr w' : World} {base d : Nat} {v z0 z1 z2 z3 z4 z5 : Value} {ts : List Ex} {t : Ex} {f : List Nat} (h : ExRow wr base d v ts) (hb : Below wr.heap.size wr w') (hbase : base ≤ wr.heap.size)
    (ht : ExOwn w' d (.agg #[z0, z1, z2, z3, z4, z5]) t f) (hft : Fp wr.heap.size w'.heap.size f) :
    ∃ cs, w'.ownsRow base 55 6 v ts.length cs ∧ ∀ (o : Obj) (g cap : Nat) (w1 : World), w1.ownsRow base 55 6 (.slice (some ⟨g, 0, none⟩) (ts.length + 1) cap) (ts.length + 1) (cs ++ [z0, z1, z2, z3, z4, z5]) →
      (w'.alloc o).grownBy w1 v.ownBlock → (v.ownBlock = some g ∨ g = w'.heap.size + 1) → ExRow w1 base d (.slice (some ⟨g, 0, none⟩) (ts.length + 1) cap) (ts ++ [t]) := by
  obtain ⟨cs, fps, hown, hl, hf, hg, hat⟩ := h
  have hlt := hown.lt
  have hcs : cs.length = ts.length * 6 := hown.1
  have hz := hb.size
  refine ⟨cs, own_below hown hb, fun o g cap w1 hown1 hgrow hnew => ?_⟩
  have hza : (w'.alloc o).heap.size = w'.heap.size + 1 := by simp
  have hz1 := hgrow.size
  rw [hza] at hz1
  have hkeep : ∀ b, b < w'.heap.size → v.ownBlock ≠ some b → w1.heap[b]? = w'.heap[b]? := fun b h1 h2 => by
    rw [hgrow.block b (by rw [hza]; omega) (fun e => h2 e.symm), heap_alloc_old _ _ h1]
  refine ⟨_, fps ++ [f], by simpa using hown1, by simp [hl], ?_, ?_, fun j hj => ?_⟩
  · rw [List.flatten_append, List.flatten_cons, List.flatten_nil, List.append_nil]
    exact (hf.join hft hbase hz).mono (Nat.le_refl _) (by omega)
  · intro g' hg'
    simp only [Value.ownBlock, Option.some.injEq] at hg'
    subst hg'
    rw [List.flatten_append, List.flatten_cons, List.flatten_nil, List.append_nil]
    intro hm
    rcases List.mem_append.1 hm with hm | hm
    · rcases hnew with h | h
      · exact hg _ h hm
      · have := (hf.2 _ hm).2; omega
    · rcases hnew with h | h
      · have := (hlt _ h).2; have := (hft.2 _ hm).1; omega
      · have := (hft.2 _ hm).2; omega
  · by_cases hjn : j = ts.length
    · subst hjn
      refine ⟨z0, z1, z2, z3, z4, z5, f, ?_, ?_, ?_, ?_, ?_, ?_, ?_, ?_⟩
      · rw [List.getElem?_append_right (by omega), hcs]; simp
      · rw [List.getElem?_append_right (by omega), hcs]; simp
      · rw [List.getElem?_append_right (by omega), hcs]; simp
      · rw [List.getElem?_append_right (by omega), hcs]; simp
      · rw [List.getElem?_append_right (by omega), hcs]; simp
      · rw [List.getElem?_append_right (by omega), hcs]; simp
      · rw [List.getElem?_append_right (by omega), hl]; simp
      · rw [List.getElem_append_right (by omega)]
        simp only [Nat.sub_self, List.getElem_cons_zero]
        exact ht.kept (by omega) fun b hbf => hkeep b (hft.2 b hbf).2 (fun e => by have := (hlt b e).2; have := (hft.2 b hbf).1; omega)
    · have hj2 : j < ts.length := by simp at hj; omega
      obtain ⟨c0, c1, c2, c3, c4, c5, f', g0, g1, g2, g3, g4, g5, h2, h3⟩ := hat j hj2
      refine ⟨c0, c1, c2, c3, c4, c5, f', ?_, ?_, ?_, ?_, ?_, ?_, ?_, ?_⟩
      · rw [List.getElem?_append_left (by omega)]; exact g0
      · rw [List.getElem?_append_left (by omega)]; exact g1
      · rw [List.getElem?_append_left (by omega)]; exact g2
      · rw [List.getElem?_append_left (by omega)]; exact g3
      · rw [List.getElem?_append_left (by omega)]; exact g4
      · rw [List.getElem?_append_left (by omega)]; exact g5
      · rw [List.getElem?_append_left (by omega)]; exact h2
      · rw [List.getElem_append_left hj2]
        exact (h3.kept hb.size fun b hb3 => hb.block b (hf.2 b (flat_mem h2 hb3)).2).kept (by omega) fun b hbf => hkeep b (by have := (hf.2 b (flat_mem h2 hbf)).2; omega) (fun e => hg b e (flat_mem h2 hbf))
/-- The row is whole: the expression with this row has blocks of its own. -/
theorem ExRow.tree {w : World} {base mid d : Nat} {v c3 c4 : Value} {ts : List Ex} (h : ExRow w mid d v ts) (k : Int) (nm : ByteArray) (n : Int) (ty : Ty) (f1 : List Nat) (h0 : -9223372036854775808 ≤ k) (h1 : k ≤ 9223372036854775807) (h2 : -9223372036854775808 ≤ n) (h3 : n ≤ 9223372036854775807) (h4 : nm.size ≤ 9223372036854775807)
    (hty : TyOwn w d (.agg #[c3, c4]) ty f1) (hf1 : Fp base mid f1) (hbm : base ≤ mid) (hmw : mid ≤ w.heap.size) :
    ∃ fp, ExOwn w (d + 1) (.agg #[.int .i64 k, .string nm, .int .i64 n, c3, c4, v]) (.node k nm n ty ts) fp ∧ Fp base w.heap.size fp := by
  obtain ⟨cs, fps, hown, hl, hf, hg, hat⟩ := h
  have hcs : cs.length = ts.length * 6 := hown.1
  rcases hown.2 with ⟨rfl, hn⟩ | ⟨g, cap, cur, rfl, hbg, hgc, hnc, hm, hcur, htake⟩
  · have hts : ts = [] := List.eq_nil_of_length_eq_zero hn
    subst hts
    exact ⟨f1 ++ [], ⟨c3, c4, _, f1, [], rfl, h0, h1, h2, h3, h4, rfl, hty, none, 0, [], [], rfl, Nat.le_refl _, by omega, rfl, rfl, (fun b hb => by cases hb), fun j hj => by simp at hj⟩, by rw [List.append_nil]; exact hf1.mono (Nat.le_refl _) hmw⟩
  · have hlt := (hown.lt g rfl).2
    refine ⟨f1 ++ ([g] ++ fps.flatten), ⟨c3, c4, _, f1, [g] ++ fps.flatten, rfl, h0, h1, h2, h3, h4, rfl, hty, some ⟨g, 0, none⟩, cap, [g], fps, rfl, hnc, by unfold maxLen at hm; omega, hl, rfl, fun b hb => by cases List.mem_singleton.1 hb; exact hlt, fun j hj => ?_⟩, hf1.join ?_ hbm hmw⟩
    · obtain ⟨c0, c1, c2, c3, c4, c5, f, e0, e1, e2, e3, e4, e5, e6, e7⟩ := hat j hj
      exact ⟨g, 0, c0, c1, c2, c3, c4, c5, f, rfl, rfl, hlt, by rw [Nat.zero_add, hown.cellAt (j * 6) (by omega)]; exact e0, by rw [Nat.zero_add, hown.cellAt (j * 6 + 1) (by omega)]; exact e1, by rw [Nat.zero_add, hown.cellAt (j * 6 + 2) (by omega)]; exact e2,
        by rw [Nat.zero_add, hown.cellAt (j * 6 + 3) (by omega)]; exact e3, by rw [Nat.zero_add, hown.cellAt (j * 6 + 4) (by omega)]; exact e4, by rw [Nat.zero_add, hown.cellAt (j * 6 + 5) (by omega)]; exact e5, fun o => hown.frozenAt o, e6, e7⟩
    · refine ⟨?_, fun b hb => ?_⟩
      · rw [List.singleton_append, List.nodup_cons]
        exact ⟨hg g rfl, hf.1⟩
      · rcases List.mem_append.1 hb with hb | hb
        · cases List.mem_singleton.1 hb; exact ⟨hbg, hlt⟩
        · exact hf.2 b hb
end Go.Proofs.Yteeojgefnoaajaa
/-
  Proved: spec.SubtermAt copies the node at a path; the memory that was there stays as it was.
-/
namespace Go.Proofs.Yteeojgefnoaajaa
open Go.RowKit

def exNil : Ex := .node 0 ⟨#[]⟩ 0 (.node 0 []) []
/-- What the search for a node at a path gives: a copy of it, or an empty expression, and whether it is there. -/
def SubEnd (d : Nat) (r : Option Ex) (w : World) (e : Ending) (w' : World) : Prop :=
  ∃ s, e = .returned (.tuple #[s, .bool r.isSome]) ∧ ExIn w' d s (r.getD exNil) w.heap.size w'.heap.size ∧ Below w.heap.size w w'
theorem nil_own (w : World) (d : Nat) : ExOwn w (d + 2) (.agg #[.int .i64 0, .string ⟨#[]⟩, .int .i64 0, .int .i64 0, .slice none 0 0, .slice none 0 0]) exNil [] := by
  refine ⟨.int .i64 0, .slice none 0 0, .slice none 0 0, [], [], rfl, by omega, by omega, by omega, by omega, by decide, rfl, ?_, ?_⟩
  · exact ⟨_, rfl, by omega, by omega, none, 0, [], [], rfl, Nat.le_refl _, by omega, rfl, rfl, (fun b hb => by cases hb), fun j hj => by simp at hj⟩
  · exact ⟨none, 0, [], [], rfl, Nat.le_refl _, by omega, rfl, rfl, (fun b hb => by cases hb), fun j hj => by simp at hj⟩
theorem ex_deep {w : World} {d : Nat} {v : Value} {e : Ex} (h : ExAt w d v e) : ∃ c, d = c + 2 := by
  cases d with
  | zero => exact h.elim
  | succ d =>
    cases e with
    | node kd nm n ty es =>
      obtain ⟨c3, c4, sl, _, _, _, _, _, _, ht, _⟩ := h
      cases d with
      | zero => exact ht.elim
      | succ d => exact ⟨d, rfl⟩
theorem ExIn.stored {w : World} {d : Nat} {v : Value} {t : Ex} {lo hi q j : Nat} {u : Value} (h : ExIn w d v t lo hi) (hq : q < lo) : ExIn (w.setCell ⟨q, j, none⟩ u) d v t lo hi := by
  obtain ⟨fp, h, hf, hz⟩ := h
  refine ⟨fp, h.kept (by simp) fun b hb => ?_, hf, by simpa using hz⟩
  have := (hf.2 b hb).1
  exact heap_setCell_other _ _ _ _ (by simp; omega)
theorem ExIn.wide {w : World} {d : Nat} {v : Value} {t : Ex} {lo hi lo2 hi2 : Nat} (h : ExIn w d v t lo hi) (h1 : lo2 ≤ lo) (h2 : hi ≤ hi2) (h3 : hi2 ≤ w.heap.size) : ExIn w d v t lo2 hi2 := by
  obtain ⟨fp, h, hf, hz⟩ := h
  exact ⟨fp, h, hf.mono h1 h2, h3⟩
end Go.Proofs.Yteeojgefnoaajaa
/-
  Proved: plain facts on cells that are written one after another.
-/
namespace Go.Proofs.Yteeojgefnoaajaa
open Go.RowKit

/-- Cells written one after another into block p, from cell j on. -/
def putAll (p : Nat) : Nat → List Value → World → World
  | _, [], w => w
  | j, u :: r, w => putAll p (j + 1) r (w.setCell ⟨p, j, none⟩ u)
theorem BoxAt.puts {p : Nat} : ∀ (us old pre : List Value) (w : World), BoxAt w p (pre ++ old).toArray → us.length = old.length → BoxAt (putAll p pre.length us w) p (pre ++ us).toArray
  | [], [], pre, w, h, _ => h
  | [], _ :: _, _, _, _, h => by simp at h
  | _ :: _, [], _, _, _, h => by simp at h
  | u :: r, o :: s, pre, w, h, hl => by
    have h1 := h.put (j := pre.length) (u := u) (by simp)
    have e1 : (pre ++ o :: s).toArray.setIfInBounds pre.length u = ((pre ++ [u]) ++ s).toArray := by simp
    rw [e1] at h1
    have h2 := BoxAt.puts r s (pre ++ [u]) _ h1 (by simpa using hl)
    rw [List.append_assoc, List.length_append] at h2
    exact h2
end Go.Proofs.Yteeojgefnoaajaa
/-
  Proved: impl.editAt and copyEdit copy an edit into new memory of its own; the memory that was there stays as it was.
-/
namespace Go.Proofs.Yteeojgefnoaajaa
open Go.RowKit

theorem IntsIn.stored {w : World} {v : Value} {ns : List Int} {lo hi q j : Nat} {u : Value} (h : IntsIn w v ns lo hi) (hq : q < lo) : IntsIn (w.setCell ⟨q, j, none⟩ u) v ns lo hi :=
  ⟨own_keeps h.1 fun k hk => heap_setCell_other _ _ _ _ (by have := (h.1.lt k hk).1; simp; omega), h.2.1, by simpa using h.2.2⟩
theorem IntsIn.wide {w : World} {v : Value} {ns : List Int} {lo hi hi2 : Nat} (h : IntsIn w v ns lo hi) (h2 : hi ≤ hi2) (h3 : hi2 ≤ w.heap.size) : IntsIn w v ns lo hi2 :=
  ⟨h.1, fun k hk => Nat.lt_of_lt_of_le (h.2.1 k hk) h2, h3⟩
set_option maxRecDepth 100000 in
set_option maxHeartbeats 4000000 in
theorem implEditAt (d : Nat) (v1 v2 : Value) (t : Ex) (ps : List Int) (w : World) (h : ExAt w d v1 t) (hp : Ints w v2 ps) (hsz : t.bulk ≤ 1048576) (hn : ps.length ≤ 1048576) :
    Calls Try.prog 99 #[v1, v2] w fun e w' => ∃ v', e = .returned v' ∧ EditIn w' d v' ⟨t, ps⟩ w.heap.size w'.heap.size ∧ Below w.heap.size w w' := by
  obtain ⟨k, nm, n, tk, ta, tn, tc, sa, sn, sc, rfl⟩ := ex_parts h
  have B : Hid (Below w.heap.size w ((w.alloc (.cells #[.int .i64 k, .string nm, .int .i64 n, .int .i64 tk, .slice ta tn tc, .slice sa sn sc] 55)).alloc (.cells #[.int .i64 0, .string ⟨#[]⟩, .int .i64 0, .int .i64 0, .slice none 0 0, .slice none 0 0, .slice none 0 0] 57))) := ((Below.refl _ _).alloc (Nat.le_refl _) _).alloc (by simp) _
  have XR : Hid (BoxAt ((w.alloc (.cells #[.int .i64 k, .string nm, .int .i64 n, .int .i64 tk, .slice ta tn tc, .slice sa sn sc] 55)).alloc (.cells #[.int .i64 0, .string ⟨#[]⟩, .int .i64 0, .int .i64 0, .slice none 0 0, .slice none 0 0, .slice none 0 0] 57)) (w.heap.size + 1) #[.int .i64 0, .string ⟨#[]⟩, .int .i64 0, .int .i64 0, .slice none 0 0, .slice none 0 0, .slice none 0 0]) := box_at (BoxAt.new _ _ _) (by simp)
  have FR : Hid (FreeAt ((w.alloc (.cells #[.int .i64 k, .string nm, .int .i64 n, .int .i64 tk, .slice ta tn tc, .slice sa sn sc] 55)).alloc (.cells #[.int .i64 0, .string ⟨#[]⟩, .int .i64 0, .int .i64 0, .slice none 0 0, .slice none 0 0, .slice none 0 0] 57)) (w.heap.size + 1)) := free_at (FreeAt.new _ _ _) (by simp)
  have hz0 : ((w.alloc (.cells #[.int .i64 k, .string nm, .int .i64 n, .int .i64 tk, .slice ta tn tc, .slice sa sn sc] 55)).alloc (.cells #[.int .i64 0, .string ⟨#[]⟩, .int .i64 0, .int .i64 0, .slice none 0 0, .slice none 0 0, .slice none 0 0] 57)).heap.size = w.heap.size + 2 := by simp
  have HE := Lib.hid (h.below B.out)
  have HP := Lib.hid (hp.below B.out)
  obtain ⟨pa, pc, rfl, _, _⟩ := hp
  clear h
  go_enter Try.func99, Try.ntmps99
  go_wp2_with fail
  refine (implExCopy d _ t _ hsz HE.out).mono ?_
  rintro e1 w1 ⟨v1, fp, rfl, ht, hf, hb⟩
  obtain ⟨zk, znm, zn, ztk, zta, ztn, ztc, zsa, zsn, zsc, rfl⟩ := ex_parts ht.at_
  have hz1 := hb.size
  rw [hz0] at hz1 hf
  have HO : Hid (ExIn w1 d (.agg #[.int .i64 zk, .string znm, .int .i64 zn, .int .i64 ztk, .slice zta ztn ztc, .slice zsa zsn zsc]) t (w.heap.size + 2) w1.heap.size) := ⟨fp, ht, hf, Nat.le_refl _⟩
  replace B := Lib.hid (below_thru B.out (Nat.le_refl _) hb)
  replace HP := Lib.hid (HP.out.below hb)
  replace XR := Lib.hid (XR.out.below hb)
  replace FR := Lib.hid (FR.out.below hb)
  clear ht hf hb HE hz0
  go_wp2_with fail
  refine (cloneInts _ ps _ HP.out hn).mono ?_
  rintro e2 w2 ⟨qa, qc, rfl, hi, hb⟩
  have hz2 := hb.size
  have HI := Lib.hid hi
  replace HO := Lib.hid (HO.out.below hb)
  replace B := Lib.hid (below_thru B.out (Nat.le_refl _) hb)
  replace XR := Lib.hid (XR.out.below hb)
  replace FR := Lib.hid (FR.out.below hb)
  clear hi hb HP
  have r0 := XR.out.2 0
  have s0 := FR.out.2 0
  have r1 := XR.out.2 1
  have s1 := FR.out.2 1
  have r2 := XR.out.2 2
  have s2 := FR.out.2 2
  have r3 := XR.out.2 3
  have s3 := FR.out.2 3
  have r4 := XR.out.2 4
  have s4 := FR.out.2 4
  have r5 := XR.out.2 5
  have s5 := FR.out.2 5
  have r6 := XR.out.2 6
  have s6 := FR.out.2 6
  go_wp2_with fail
  have XRF : BoxAt (((((((w2.setCell ⟨w.heap.size + 1, 0, none⟩ (.int .i64 zk)).setCell ⟨w.heap.size + 1, 1, none⟩ (.string znm)).setCell ⟨w.heap.size + 1, 2, none⟩ (.int .i64 zn)).setCell ⟨w.heap.size + 1, 3, none⟩ (.int .i64 ztk)).setCell ⟨w.heap.size + 1, 4, none⟩ (.slice zta ztn ztc)).setCell ⟨w.heap.size + 1, 5, none⟩ (.slice zsa zsn zsc)).setCell ⟨w.heap.size + 1, 6, none⟩ (.slice qa ps.length qc)) (w.heap.size + 1) #[.int .i64 zk, .string znm, .int .i64 zn, .int .i64 ztk, .slice zta ztn ztc, .slice zsa zsn zsc, .slice qa ps.length qc] := by
    have := BoxAt.puts [.int .i64 zk, .string znm, .int .i64 zn, .int .i64 ztk, .slice zta ztn ztc, .slice zsa zsn zsc, .slice qa ps.length qc] [.int .i64 0, .string ⟨#[]⟩, .int .i64 0, .int .i64 0, .slice none 0 0, .slice none 0 0, .slice none 0 0] [] _ XR.out rfl
    exact this
  have hBF : Below w.heap.size w (((((((w2.setCell ⟨w.heap.size + 1, 0, none⟩ (.int .i64 zk)).setCell ⟨w.heap.size + 1, 1, none⟩ (.string znm)).setCell ⟨w.heap.size + 1, 2, none⟩ (.int .i64 zn)).setCell ⟨w.heap.size + 1, 3, none⟩ (.int .i64 ztk)).setCell ⟨w.heap.size + 1, 4, none⟩ (.slice zta ztn ztc)).setCell ⟨w.heap.size + 1, 5, none⟩ (.slice zsa zsn zsc)).setCell ⟨w.heap.size + 1, 6, none⟩ (.slice qa ps.length qc)) := (((((((B.out.setCell (by simp) _).setCell (by simp) _).setCell (by simp) _).setCell (by simp) _).setCell (by simp) _).setCell (by simp) _).setCell (by simp) _)
  have HOF : ExIn (((((((w2.setCell ⟨w.heap.size + 1, 0, none⟩ (.int .i64 zk)).setCell ⟨w.heap.size + 1, 1, none⟩ (.string znm)).setCell ⟨w.heap.size + 1, 2, none⟩ (.int .i64 zn)).setCell ⟨w.heap.size + 1, 3, none⟩ (.int .i64 ztk)).setCell ⟨w.heap.size + 1, 4, none⟩ (.slice zta ztn ztc)).setCell ⟨w.heap.size + 1, 5, none⟩ (.slice zsa zsn zsc)).setCell ⟨w.heap.size + 1, 6, none⟩ (.slice qa ps.length qc)) d (.agg #[.int .i64 zk, .string znm, .int .i64 zn, .int .i64 ztk, .slice zta ztn ztc, .slice zsa zsn zsc]) t (w.heap.size + 2) w1.heap.size := (((((((HO.out.stored (by omega)).stored (by omega)).stored (by omega)).stored (by omega)).stored (by omega)).stored (by omega)).stored (by omega))
  have HIF : IntsIn (((((((w2.setCell ⟨w.heap.size + 1, 0, none⟩ (.int .i64 zk)).setCell ⟨w.heap.size + 1, 1, none⟩ (.string znm)).setCell ⟨w.heap.size + 1, 2, none⟩ (.int .i64 zn)).setCell ⟨w.heap.size + 1, 3, none⟩ (.int .i64 ztk)).setCell ⟨w.heap.size + 1, 4, none⟩ (.slice zta ztn ztc)).setCell ⟨w.heap.size + 1, 5, none⟩ (.slice zsa zsn zsc)).setCell ⟨w.heap.size + 1, 6, none⟩ (.slice qa ps.length qc)) (.slice qa ps.length qc) ps w1.heap.size w2.heap.size := (((((((HI.out.stored (by omega)).stored (by omega)).stored (by omega)).stored (by omega)).stored (by omega)).stored (by omega)).stored (by omega))
  have hzF : (((((((w2.setCell ⟨w.heap.size + 1, 0, none⟩ (.int .i64 zk)).setCell ⟨w.heap.size + 1, 1, none⟩ (.string znm)).setCell ⟨w.heap.size + 1, 2, none⟩ (.int .i64 zn)).setCell ⟨w.heap.size + 1, 3, none⟩ (.int .i64 ztk)).setCell ⟨w.heap.size + 1, 4, none⟩ (.slice zta ztn ztc)).setCell ⟨w.heap.size + 1, 5, none⟩ (.slice zsa zsn zsc)).setCell ⟨w.heap.size + 1, 6, none⟩ (.slice qa ps.length qc)).heap.size = w2.heap.size := by simp
  have g0 := XRF.2 0
  have g1 := XRF.2 1
  have g2 := XRF.2 2
  have g3 := XRF.2 3
  have g4 := XRF.2 4
  have g5 := XRF.2 5
  have g6 := XRF.2 6
  clear XRF
  generalize (((((((w2.setCell ⟨w.heap.size + 1, 0, none⟩ (.int .i64 zk)).setCell ⟨w.heap.size + 1, 1, none⟩ (.string znm)).setCell ⟨w.heap.size + 1, 2, none⟩ (.int .i64 zn)).setCell ⟨w.heap.size + 1, 3, none⟩ (.int .i64 ztk)).setCell ⟨w.heap.size + 1, 4, none⟩ (.slice zta ztn ztc)).setCell ⟨w.heap.size + 1, 5, none⟩ (.slice zsa zsn zsc)).setCell ⟨w.heap.size + 1, 6, none⟩ (.slice qa ps.length qc)) = WX at g0 g1 g2 g3 g4 g5 g6 hBF HOF HIF hzF ⊢
  refine bodyPost_ret (v := .agg #[.int .i64 zk, .string znm, .int .i64 zn, .int .i64 ztk, .slice zta ztn ztc, .slice zsa zsn zsc, .slice qa ps.length qc]) (by simp [results, Try.results99, go_sem, g0, g1, g2, g3, g4, g5, g6]) rfl ?_
  exact ⟨_, rfl, ⟨_, _, _, _, _, _, _, _, _, _, _, _, _, w1.heap.size, rfl, HOF.wide (by omega) (Nat.le_refl _) (by omega), HIF.wide (by omega) (Nat.le_refl _), by omega, by omega, by show ps.length ≤ _; omega⟩, hBF⟩
set_option maxRecDepth 100000 in
set_option maxHeartbeats 4000000 in
theorem implCopyEdit (d : Nat) (v : Value) (t : Edi) (w : World) (h : EditAt w d v t) (hsz : t.bulk ≤ 1048576) :
    Calls Try.prog 67 #[v] w fun e w' => ∃ v', e = .returned v' ∧ EditIn w' d v' t w.heap.size w'.heap.size ∧ Below w.heap.size w w' := by
  cases t with
  | mk ex ps =>
    obtain ⟨k, nm, n, tk, ta, tn, tc, sa, sn, sc, pa, pn, pc, rfl, he, hp, hl⟩ := h
    dsimp only at he hp hl
    have hbk : (Edi.mk ex ps).bulk = ex.bulk + ps.length := rfl
    have hn1 : ex.bulk ≤ 1048576 := by omega
    have hn2 : ps.length ≤ 1048576 := by omega
    have B : Hid (Below w.heap.size w ((w.alloc (.cells #[.int .i64 k, .string nm, .int .i64 n, .int .i64 tk, .slice ta tn tc, .slice sa sn sc, .slice pa pn pc] 57)).alloc (.cells #[.int .i64 0, .string ⟨#[]⟩, .int .i64 0, .int .i64 0, .slice none 0 0, .slice none 0 0, .slice none 0 0] 57))) := ((Below.refl _ _).alloc (Nat.le_refl _) _).alloc (by simp) _
    have XR : Hid (BoxAt ((w.alloc (.cells #[.int .i64 k, .string nm, .int .i64 n, .int .i64 tk, .slice ta tn tc, .slice sa sn sc, .slice pa pn pc] 57)).alloc (.cells #[.int .i64 0, .string ⟨#[]⟩, .int .i64 0, .int .i64 0, .slice none 0 0, .slice none 0 0, .slice none 0 0] 57)) (w.heap.size + 1) #[.int .i64 0, .string ⟨#[]⟩, .int .i64 0, .int .i64 0, .slice none 0 0, .slice none 0 0, .slice none 0 0]) := box_at (BoxAt.new _ _ _) (by simp)
    have FR : Hid (FreeAt ((w.alloc (.cells #[.int .i64 k, .string nm, .int .i64 n, .int .i64 tk, .slice ta tn tc, .slice sa sn sc, .slice pa pn pc] 57)).alloc (.cells #[.int .i64 0, .string ⟨#[]⟩, .int .i64 0, .int .i64 0, .slice none 0 0, .slice none 0 0, .slice none 0 0] 57)) (w.heap.size + 1)) := free_at (FreeAt.new _ _ _) (by simp)
    have hz0 : ((w.alloc (.cells #[.int .i64 k, .string nm, .int .i64 n, .int .i64 tk, .slice ta tn tc, .slice sa sn sc, .slice pa pn pc] 57)).alloc (.cells #[.int .i64 0, .string ⟨#[]⟩, .int .i64 0, .int .i64 0, .slice none 0 0, .slice none 0 0, .slice none 0 0] 57)).heap.size = w.heap.size + 2 := by simp
    have HE := Lib.hid (he.below B.out)
    have HP := Lib.hid (hp.below B.out)
    clear he hp hbk hsz
    go_enter Try.func67, Try.ntmps67
    go_wp2_with fail
    refine (implEditAt d _ _ ex ps _ HE.out HP.out hn1 hn2).mono ?_
    rintro e1 w1 ⟨v1, rfl, hi, hb⟩
    have hz1 := hb.size
    rw [hz0] at hz1
    obtain ⟨zk, znm, zn, ztk, zta, ztn, ztc, zsa, zsn, zsc, zpa, zpn, zpc, mid, rfl, ho, hq, h1, h2, h3⟩ := hi
    rw [hz0] at h1 ho
    have HO := Lib.hid ho
    have HI := Lib.hid hq
    replace B := Lib.hid (below_thru B.out (Nat.le_refl _) hb)
    replace XR := Lib.hid (XR.out.below hb)
    replace FR := Lib.hid (FR.out.below hb)
    clear ho hq hb HE HP hz0
    have r0 := XR.out.2 0
    have s0 := FR.out.2 0
    have r1 := XR.out.2 1
    have s1 := FR.out.2 1
    have r2 := XR.out.2 2
    have s2 := FR.out.2 2
    have r3 := XR.out.2 3
    have s3 := FR.out.2 3
    have r4 := XR.out.2 4
    have s4 := FR.out.2 4
    have r5 := XR.out.2 5
    have s5 := FR.out.2 5
    have r6 := XR.out.2 6
    have s6 := FR.out.2 6
    go_wp2_with fail
    have XRF : BoxAt (((((((w1.setCell ⟨w.heap.size + 1, 0, none⟩ (.int .i64 zk)).setCell ⟨w.heap.size + 1, 1, none⟩ (.string znm)).setCell ⟨w.heap.size + 1, 2, none⟩ (.int .i64 zn)).setCell ⟨w.heap.size + 1, 3, none⟩ (.int .i64 ztk)).setCell ⟨w.heap.size + 1, 4, none⟩ (.slice zta ztn ztc)).setCell ⟨w.heap.size + 1, 5, none⟩ (.slice zsa zsn zsc)).setCell ⟨w.heap.size + 1, 6, none⟩ (.slice zpa zpn zpc)) (w.heap.size + 1) #[.int .i64 zk, .string znm, .int .i64 zn, .int .i64 ztk, .slice zta ztn ztc, .slice zsa zsn zsc, .slice zpa zpn zpc] := by
      have := BoxAt.puts [.int .i64 zk, .string znm, .int .i64 zn, .int .i64 ztk, .slice zta ztn ztc, .slice zsa zsn zsc, .slice zpa zpn zpc] [.int .i64 0, .string ⟨#[]⟩, .int .i64 0, .int .i64 0, .slice none 0 0, .slice none 0 0, .slice none 0 0] [] _ XR.out rfl
      exact this
    have hBF : Below w.heap.size w (((((((w1.setCell ⟨w.heap.size + 1, 0, none⟩ (.int .i64 zk)).setCell ⟨w.heap.size + 1, 1, none⟩ (.string znm)).setCell ⟨w.heap.size + 1, 2, none⟩ (.int .i64 zn)).setCell ⟨w.heap.size + 1, 3, none⟩ (.int .i64 ztk)).setCell ⟨w.heap.size + 1, 4, none⟩ (.slice zta ztn ztc)).setCell ⟨w.heap.size + 1, 5, none⟩ (.slice zsa zsn zsc)).setCell ⟨w.heap.size + 1, 6, none⟩ (.slice zpa zpn zpc)) := (((((((B.out.setCell (by simp) _).setCell (by simp) _).setCell (by simp) _).setCell (by simp) _).setCell (by simp) _).setCell (by simp) _).setCell (by simp) _)
    have HOF : ExIn (((((((w1.setCell ⟨w.heap.size + 1, 0, none⟩ (.int .i64 zk)).setCell ⟨w.heap.size + 1, 1, none⟩ (.string znm)).setCell ⟨w.heap.size + 1, 2, none⟩ (.int .i64 zn)).setCell ⟨w.heap.size + 1, 3, none⟩ (.int .i64 ztk)).setCell ⟨w.heap.size + 1, 4, none⟩ (.slice zta ztn ztc)).setCell ⟨w.heap.size + 1, 5, none⟩ (.slice zsa zsn zsc)).setCell ⟨w.heap.size + 1, 6, none⟩ (.slice zpa zpn zpc)) d (.agg #[.int .i64 zk, .string znm, .int .i64 zn, .int .i64 ztk, .slice zta ztn ztc, .slice zsa zsn zsc]) ex (w.heap.size + 2) mid := (((((((HO.out.stored (by omega)).stored (by omega)).stored (by omega)).stored (by omega)).stored (by omega)).stored (by omega)).stored (by omega))
    have HIF : IntsIn (((((((w1.setCell ⟨w.heap.size + 1, 0, none⟩ (.int .i64 zk)).setCell ⟨w.heap.size + 1, 1, none⟩ (.string znm)).setCell ⟨w.heap.size + 1, 2, none⟩ (.int .i64 zn)).setCell ⟨w.heap.size + 1, 3, none⟩ (.int .i64 ztk)).setCell ⟨w.heap.size + 1, 4, none⟩ (.slice zta ztn ztc)).setCell ⟨w.heap.size + 1, 5, none⟩ (.slice zsa zsn zsc)).setCell ⟨w.heap.size + 1, 6, none⟩ (.slice zpa zpn zpc)) (.slice zpa zpn zpc) ps mid w1.heap.size := (((((((HI.out.stored (by omega)).stored (by omega)).stored (by omega)).stored (by omega)).stored (by omega)).stored (by omega)).stored (by omega))
    have hzF : (((((((w1.setCell ⟨w.heap.size + 1, 0, none⟩ (.int .i64 zk)).setCell ⟨w.heap.size + 1, 1, none⟩ (.string znm)).setCell ⟨w.heap.size + 1, 2, none⟩ (.int .i64 zn)).setCell ⟨w.heap.size + 1, 3, none⟩ (.int .i64 ztk)).setCell ⟨w.heap.size + 1, 4, none⟩ (.slice zta ztn ztc)).setCell ⟨w.heap.size + 1, 5, none⟩ (.slice zsa zsn zsc)).setCell ⟨w.heap.size + 1, 6, none⟩ (.slice zpa zpn zpc)).heap.size = w1.heap.size := by simp
    have g0 := XRF.2 0
    have g1 := XRF.2 1
    have g2 := XRF.2 2
    have g3 := XRF.2 3
    have g4 := XRF.2 4
    have g5 := XRF.2 5
    have g6 := XRF.2 6
    clear XRF
    generalize (((((((w1.setCell ⟨w.heap.size + 1, 0, none⟩ (.int .i64 zk)).setCell ⟨w.heap.size + 1, 1, none⟩ (.string znm)).setCell ⟨w.heap.size + 1, 2, none⟩ (.int .i64 zn)).setCell ⟨w.heap.size + 1, 3, none⟩ (.int .i64 ztk)).setCell ⟨w.heap.size + 1, 4, none⟩ (.slice zta ztn ztc)).setCell ⟨w.heap.size + 1, 5, none⟩ (.slice zsa zsn zsc)).setCell ⟨w.heap.size + 1, 6, none⟩ (.slice zpa zpn zpc)) = WX at g0 g1 g2 g3 g4 g5 g6 hBF HOF HIF hzF ⊢
    refine bodyPost_ret (v := .agg #[.int .i64 zk, .string znm, .int .i64 zn, .int .i64 ztk, .slice zta ztn ztc, .slice zsa zsn zsc, .slice zpa zpn zpc]) (by simp [results, Try.results67, go_sem, g0, g1, g2, g3, g4, g5, g6]) rfl ?_
    exact ⟨_, rfl, ⟨_, _, _, _, _, _, _, _, _, _, _, _, _, mid, rfl, HOF.wide (by omega) (Nat.le_refl _) (by omega), HIF.wide (by omega) (Nat.le_refl _), by omega, by omega, hl⟩, hBF⟩
end Go.Proofs.Yteeojgefnoaajaa
/-
  Proved: an edit that lies in blocks of its own, also after cells of older memory are set.
-/
namespace Go.Proofs.Yteeojgefnoaajaa
open Go.RowKit

/-- In each later world that keeps the blocks from B to the size of w, the value v reads as the edit a. -/
def EditUp (B : Nat) (w : World) (d : Nat) (v : Value) (a : Edi) : Prop :=
  ∀ w2 : World, w.heap.size ≤ w2.heap.size → (∀ b, B ≤ b → b < w.heap.size → w2.heap[b]? = w.heap[b]?) → EditAt w2 d v a
theorem EditUp.at_ {B : Nat} {w : World} {d : Nat} {v : Value} {a : Edi} (h : EditUp B w d v a) : EditAt w d v a := h w (Nat.le_refl _) fun _ _ _ => rfl
theorem EditUp.kept {B : Nat} {w w' : World} {d : Nat} {v : Value} {a : Edi} (h : EditUp B w d v a) (hs : w.heap.size ≤ w'.heap.size) (hk : ∀ b, B ≤ b → b < w.heap.size → w'.heap[b]? = w.heap[b]?) : EditUp B w' d v a :=
  fun w2 h1 h2 => h w2 (Nat.le_trans hs h1) fun b hb hl => by rw [h2 b hb (Nat.lt_of_lt_of_le hl hs), hk b hb hl]
theorem EditUp.below {B : Nat} {w w' : World} {d : Nat} {v : Value} {a : Edi} (h : EditUp B w d v a) (hb : Below w.heap.size w w') : EditUp B w' d v a :=
  h.kept hb.size fun b _ hl => hb.block b hl
theorem EditUp.cell {B : Nat} {w : World} {d : Nat} {v : Value} {a : Edi} (h : EditUp B w d v a) (c : Addr) (hc : c.block < B) (u : Value) : EditUp B (w.setCell c u) d v a :=
  h.kept (by simp) fun b hb _ => heap_setCell_other _ _ _ _ (by omega)
theorem EditUp.parts {B : Nat} {w : World} {d : Nat} {v : Value} {a : Edi} (h : EditUp B w d v a) : ∃ k nm n tk ta tn tc sa sn sc pa pn pc, v = .agg #[.int .i64 k, .string nm, .int .i64 n, .int .i64 tk, .slice ta tn tc, .slice sa sn sc, .slice pa pn pc] := edit_parts h.at_
end Go.Proofs.Yteeojgefnoaajaa
/-
  Proved: plain facts on a row of trees that a call builds by append: each tree has blocks of its own, apart from the row's.
-/
namespace Go.Proofs.Yteeojgefnoaajaa
open Go.RowKit

def CopyRow (w : World) (base d : Nat) (v : Value) (ts : List Ty) : Prop :=
  ∃ cs fps, w.ownsRow base 34 2 v ts.length cs ∧ fps.length = ts.length ∧ Fp base w.heap.size (List.flatten fps) ∧ (∀ g, v.ownBlock = some g → g ∉ List.flatten fps) ∧
    ∀ j (h : j < ts.length), ∃ c0 c1 f, cs[j * 2]? = some c0 ∧ cs[j * 2 + 1]? = some c1 ∧ fps[j]? = some f ∧ TyOwn w d (.agg #[c0, c1]) ts[j] f
theorem CopyRow.nil (w : World) (base d : Nat) : CopyRow w base d (.slice none 0 0) [] :=
  ⟨[], [], World.ownsRow_nil _ _ _ _, rfl, Fp.nil _ _, fun g hg => by simp, fun j hj => by simp at hj⟩
theorem CopyRow.kept {w w' : World} {base d : Nat} {v : Value} {ts : List Ty} (h : CopyRow w base d v ts) (hz : w.heap.size ≤ w'.heap.size) (hk : ∀ b, base ≤ b → b < w.heap.size → w'.heap[b]? = w.heap[b]?) : CopyRow w' base d v ts := by
  obtain ⟨cs, fps, hown, hl, hf, hg, hat⟩ := h
  have hlt := hown.lt
  refine ⟨cs, fps, ⟨hown.1, ?_⟩, hl, hf.mono (Nat.le_refl _) hz, hg, fun j hj => ?_⟩
  · rcases hown.2 with h | ⟨g, cap, cur, rfl, r1, r2, r3⟩
    · exact Or.inl h
    · exact Or.inr ⟨g, cap, cur, rfl, r1, by rw [hk g (hlt g rfl).1 (hlt g rfl).2]; exact r2, r3⟩
  · obtain ⟨c0, c1, f, h0, h1, h2, h3⟩ := hat j hj
    exact ⟨c0, c1, f, h0, h1, h2, h3.kept hz fun b hb => by have := hf.2 b (flat_mem h2 hb); exact hk b this.1 this.2⟩
theorem CopyRow.below {w w' : World} {base d : Nat} {v : Value} {ts : List Ty} (h : CopyRow w base d v ts) (hb : Below w.heap.size w w') : CopyRow w' base d v ts :=
  h.kept hb.size fun b _ hlt => hb.block b hlt
theorem CopyRow.stored {w : World} {base d : Nat} {v : Value} {ts : List Ty} (h : CopyRow w base d v ts) {p o : Nat} (hp : p < base) (u : Value) : CopyRow (w.setCell ⟨p, o, none⟩ u) base d v ts :=
  h.kept (by simp) fun b hb _ => heap_setCell_other _ _ _ _ (by simp; omega)
theorem CopyRow.form {w : World} {base d : Nat} {v : Value} {ts : List Ty} (h : CopyRow w base d v ts) : ∃ a c, v = .slice a ts.length c := by
  obtain ⟨cs, fps, hown, _⟩ := h
  rcases hown.2 with ⟨h1, h2⟩ | ⟨g, cap, cur, h1, _⟩
  · exact ⟨none, 0, by rw [h1, h2]⟩
  · exact ⟨_, cap, h1⟩
/-- An element is appended: wr is the world ahead of the element, w' the one behind it, w1 the one behind the append. -/
theorem CopyRow.append {wr w' : World} {base d : Nat} {v z0 z1 : Value} {ts : List Ty} {t : Ty} {f : List Nat} (h : CopyRow wr base d v ts) (hb : Below wr.heap.size wr w') (hbase : base ≤ wr.heap.size)
    (ht : TyOwn w' d (.agg #[z0, z1]) t f) (hft : Fp wr.heap.size w'.heap.size f) :
    ∃ cs, w'.ownsRow base 34 2 v ts.length cs ∧ ∀ (o : Obj) (g cap : Nat) (w1 : World), w1.ownsRow base 34 2 (.slice (some ⟨g, 0, none⟩) (ts.length + 1) cap) (ts.length + 1) (cs ++ [z0, z1]) →
      (w'.alloc o).grownBy w1 v.ownBlock → (v.ownBlock = some g ∨ g = w'.heap.size + 1) → CopyRow w1 base d (.slice (some ⟨g, 0, none⟩) (ts.length + 1) cap) (ts ++ [t]) := by
  obtain ⟨cs, fps, hown, hl, hf, hg, hat⟩ := h
  have hlt := hown.lt
  have hcs : cs.length = ts.length * 2 := hown.1
  have hz := hb.size
  refine ⟨cs, own_below hown hb, fun o g cap w1 hown1 hgrow hnew => ?_⟩
  have hza : (w'.alloc o).heap.size = w'.heap.size + 1 := by simp
  have hz1 := hgrow.size
  rw [hza] at hz1
  have hkeep : ∀ b, b < w'.heap.size → v.ownBlock ≠ some b → w1.heap[b]? = w'.heap[b]? := fun b h1 h2 => by
    rw [hgrow.block b (by rw [hza]; omega) (fun e => h2 e.symm), heap_alloc_old _ _ h1]
  refine ⟨_, fps ++ [f], by simpa using hown1, by simp [hl], ?_, ?_, fun j hj => ?_⟩
  · rw [List.flatten_append, List.flatten_cons, List.flatten_nil, List.append_nil]
    exact (hf.join hft hbase hz).mono (Nat.le_refl _) (by omega)
  · intro g' hg'
    simp only [Value.ownBlock, Option.some.injEq] at hg'
    subst hg'
    rw [List.flatten_append, List.flatten_cons, List.flatten_nil, List.append_nil]
    intro hm
    rcases List.mem_append.1 hm with hm | hm
    · rcases hnew with h | h
      · exact hg _ h hm
      · have := (hf.2 _ hm).2; omega
    · rcases hnew with h | h
      · have := (hlt _ h).2; have := (hft.2 _ hm).1; omega
      · have := (hft.2 _ hm).2; omega
  · by_cases hjn : j = ts.length
    · subst hjn
      refine ⟨z0, z1, f, ?_, ?_, ?_, ?_⟩
      · rw [List.getElem?_append_right (by omega), hcs]; simp
      · rw [List.getElem?_append_right (by omega), hcs]; simp
      · rw [List.getElem?_append_right (by omega), hl]; simp
      · rw [List.getElem_append_right (by omega)]
        simp only [Nat.sub_self, List.getElem_cons_zero]
        exact ht.kept (by omega) fun b hbf => hkeep b (hft.2 b hbf).2 (fun e => by have := (hlt b e).2; have := (hft.2 b hbf).1; omega)
    · have hj2 : j < ts.length := by simp at hj; omega
      obtain ⟨c0, c1, f', h0, h1, h2, h3⟩ := hat j hj2
      refine ⟨c0, c1, f', ?_, ?_, ?_, ?_⟩
      · rw [List.getElem?_append_left (by omega)]; exact h0
      · rw [List.getElem?_append_left (by omega)]; exact h1
      · rw [List.getElem?_append_left (by omega)]; exact h2
      · rw [List.getElem_append_left hj2]
        exact (h3.below hb).kept (by omega) fun b hbf => hkeep b (by have := (hf.2 b (flat_mem h2 hbf)).2; omega) (fun e => hg b e (flat_mem h2 hbf))
/-- The row is whole: the tree with this row has blocks of its own. -/
theorem CopyRow.tree {w : World} {base d : Nat} {v : Value} {ts : List Ty} (h : CopyRow w base d v ts) (k : Int) (h0 : -9223372036854775808 ≤ k) (h1 : k ≤ 9223372036854775807) :
    ∃ fp, TyOwn w (d + 1) (.agg #[.int .i64 k, v]) (.node k ts) fp ∧ Fp base w.heap.size fp := by
  obtain ⟨cs, fps, hown, hl, hf, hg, hat⟩ := h
  have hcs : cs.length = ts.length * 2 := hown.1
  rcases hown.2 with ⟨rfl, hn⟩ | ⟨g, cap, cur, rfl, hbg, hgc, hnc, hm, hcur, htake⟩
  · have hts : ts = [] := List.eq_nil_of_length_eq_zero hn
    subst hts
    exact ⟨[], ⟨_, rfl, h0, h1, none, 0, [], [], rfl, Nat.le_refl _, by omega, rfl, rfl, (fun b hb => by cases hb), fun j hj => by simp at hj⟩, Fp.nil _ _⟩
  · have hlt := (hown.lt g rfl).2
    refine ⟨[g] ++ fps.flatten, ⟨_, rfl, h0, h1, some ⟨g, 0, none⟩, cap, [g], fps, rfl, hnc, by unfold maxLen at hm; omega, hl, rfl, fun b hb => by cases List.mem_singleton.1 hb; exact hlt, fun j hj => ?_⟩, ?_⟩
    · obtain ⟨c0, c1, f, e0, e1, e2, e3⟩ := hat j hj
      exact ⟨g, 0, c0, c1, f, rfl, rfl, hlt, by rw [Nat.zero_add, hown.cellAt (j * 2) (by omega)]; exact e0, hown.frozenAt _, by rw [Nat.zero_add, hown.cellAt (j * 2 + 1) (by omega)]; exact e1, e2, e3⟩
    · refine ⟨?_, fun b hb => ?_⟩
      · rw [List.singleton_append, List.nodup_cons]
        exact ⟨hg g rfl, hf.1⟩
      · rcases List.mem_append.1 hb with hb | hb
        · cases List.mem_singleton.1 hb; exact ⟨hbg, hlt⟩
        · exact hf.2 b hb
end Go.Proofs.Yteeojgefnoaajaa
/-
  Proved: spec.l3Copy copies a tree of at most 2^20 nodes into new memory; it leaves the memory that was there as it was.
-/
namespace Go.Proofs.Yteeojgefnoaajaa
open Go.RowKit

/-- Three boxes were laid; below the third one nothing has changed since. -/
theorem three_below {w wr : World} {o q r : Obj} (h : Below (w.heap.size + 2) (((w.alloc o).alloc q).alloc r) wr) : Below w.heap.size w wr :=
  ((((Below.refl _ _).alloc (Nat.le_refl _) _).alloc (by simp) _).alloc (by simp; omega) _).trans (h.mono (by omega))
theorem three_first {w wr : World} {cs : Array Value} {T : TypeId} {q r : Obj} (h : Below (w.heap.size + 2) (((w.alloc (.cells cs T)).alloc q).alloc r) wr) (j : Nat) : wr.cell? ⟨w.heap.size, j, none⟩ = cs[j]? := by
  rw [h.cell (p := ⟨w.heap.size, j, none⟩) (Nat.lt_of_lt_of_le (Nat.lt_succ_self _) (Nat.le_succ _)), World.cell?_alloc_lt _ _ _ (by simp; omega), World.cell?_alloc_lt _ _ _ (by simp)]
  exact World.cell?_alloc_mark w cs T (0, 0) j
theorem three_next {w wr : World} {ds : Array Value} {U : TypeId} {o r : Obj} (h : Below (w.heap.size + 2) (((w.alloc o).alloc (.cells ds U)).alloc r) wr) (j : Nat) : wr.cell? ⟨w.heap.size + 1, j, none⟩ = ds[j]? := by
  rw [h.cell (p := ⟨w.heap.size + 1, j, none⟩) (Nat.lt_succ_self _), World.cell?_alloc_lt _ _ _ (by simp)]
  have := World.cell?_alloc_mark (w.alloc o) ds U (0, 0) j
  rw [show (w.alloc o).heap.size = w.heap.size + 1 from by simp] at this
  exact this
theorem three_frozen {w wr : World} {ds : Array Value} {U : TypeId} {o r : Obj} (h : Below (w.heap.size + 2) (((w.alloc o).alloc (.cells ds U)).alloc r) wr) (j : Nat) : wr.frozen? ⟨w.heap.size + 1, j, none⟩ = false := by
  rw [h.frozen (p := ⟨w.heap.size + 1, j, none⟩) (Nat.lt_succ_self _)]
  simp [go_sem]

set_option maxRecDepth 100000 in
set_option maxHeartbeats 4000000 in
theorem specCopy : ∀ (d : Nat) (v : Value) (t : Ty) (w : World), t.size ≤ 1048577 → TyAt w d v t →
    Calls Try.prog 80 #[v] w (ToTyEnd d t w)
  | 0, _, _, _, _, h => h.elim
  | d + 1, v, .node kd ts, w, hsz, h => by
    have IH : Hid (∀ (v : Value) (t : Ty) (w : World), t.size ≤ 1048577 → TyAt w d v t → Calls Try.prog 80 #[v] w (ToTyEnd d t w)) := specCopy d
    obtain ⟨i0, hi, hz0, hz1, hz2⟩ := info_parts info_ty
    have HI := Lib.hid hi
    have HZ0 := Lib.hid hz0
    have HZ1 := Lib.hid hz1
    have HZ2 := Lib.hid hz2
    have hlen := Ty.length_le ts
    have HSZ : Hid (1 + Ty.sizes ts ≤ 1048577) := by simp [Ty.size] at hsz; show _ ≤ _; omega
    have hn2 : ts.length ≤ 1048577 := by have := HSZ.out; omega
    clear hsz hlen hi hz0 hz1 hz2
    obtain ⟨sl, rfl, hk0, hk1, a, cap, rfl, hcap, hcap2, hat⟩ := h
    have HAT := Lib.hid hat; clear hat
    go_enter Try.func80, Try.ntmps80
    go_wp2_with fail
    go_loopw [4] (fun i wr => ∃ (k : Nat) (vo : Value), k ≤ ts.length ∧ i = .int .i64 k ∧ wr.cell? ⟨w.heap.size + 1 + 1, 0, none⟩ = some (.int .i64 kd) ∧ wr.cell? ⟨w.heap.size + 1 + 1, 1, none⟩ = some vo ∧ wr.frozen? ⟨w.heap.size + 1 + 1, 1, none⟩ = false ∧
        CopyRow wr (w.heap.size + 1 + 1 + 1) d vo (ts.take k) ∧ Below (w.heap.size + 2) (((w.alloc (.cells #[.int .i64 kd, .slice a ts.length cap] 34)).alloc (.cells #[.int .i64 0, .slice none 0 0] 34)).alloc (.cells #[.int .i64 kd, .slice none 0 0] 34)) wr) (fun i _ => ts.length - (intOf i).toNat)
    case atStart => exact ⟨0, _, by omega, rfl, by simp [go_sem], by simp [go_sem], by simp [go_sem], CopyRow.nil _ _ _, Below.refl _ _⟩
    case round =>
      obtain ⟨k, vo, hk, rfl, o0, o1, o2, hrow, hb⟩ := hrel
      obtain ⟨oa, oc, hvo⟩ := hrow.form
      rw [List.length_take, Nat.min_eq_left hk] at hvo
      subst hvo
      have HROW := Lib.hid hrow; clear hrow
      have hz := hb.size
      simp only [World.size_alloc] at hz
      have b0 := three_first hb 0
      have b1 := three_first hb 1
      have HB := Lib.hid hb
      have HBW := Lib.hid (three_below hb); clear hb
      by_cases hlt : k < ts.length
      · obtain ⟨b, off, x0, x1, rfl, hbl, hc0, hc1, ht⟩ := HAT.out k hlt
        have hg := Ty.size_get ts k hlt
        have e0 : wr.cell? ⟨b, off + k * 2, none⟩ = some x0 := by rw [HBW.out.cell (p := ⟨b, off + k * 2, none⟩) hbl]; exact hc0
        have e1 : wr.cell? ⟨b, off + k * 2 + 1, none⟩ = some x1 := by rw [HBW.out.cell (p := ⟨b, off + k * 2 + 1, none⟩) hbl]; exact hc1
        have HT := Lib.hid ((ht.below HBW.out).below (below_drew wr))
        have hzk : ts[k].size ≤ 1048577 := by have := HSZ.out; omega
        clear ht hc0 hc1 hg
        go_wp2_with fail
        go_region_law (first
          | (refine step_append_lies _ (by rfl) (.tmp 16) (.tmp 23) 32 (by rfl) (w.heap.size + 1 + 1 + 1) 34 i0 (.agg #[.int .i64 0, .slice none 0 0]) 2 32 Try.underlying32 HI.out HZ0.out HZ1.out HZ2.out rfl (by omega) (.slice oa k oc) k cs (by simp [Act.eval]) (HOWN.out.alloc _) ⟨w'.heap.size, 0, none⟩ 1 1 [.int .i64 zk, .slice za zn zc] (by simp [Act.eval]) rfl (World.news_of_block (cs := #[.int .i64 zk, .slice za zn zc]) (t := 34) (fr := (0, 0)) (heap_alloc_new w' _)) (by simp [Value.oneCell']) (by omega) (by unfold maxLen; omega) (by omega) (by simp; omega) (w'.heap.size + 1) (by simp) ?_
             intro g gc w1 hown1 hgrow hat1 hlt1
             have hne : some (w.heap.size + 1 + 1) ≠ (Value.slice oa k oc).ownBlock := fun e => by have := (HOWN.out.lt _ e.symm).1; omega
             have hlw : w.heap.size + 1 + 1 < w'.heap.size := by omega
             have k1 : w1.cell? ⟨w.heap.size + 1 + 1, 1, none⟩ = some (.slice oa k oc) := by
               rw [hgrow.cell_far _ (by simp; omega) hne, World.cell?_of_block (heap_alloc_old _ _ hlw)]; exact o1'
             have k0 : w1.cell? ⟨w.heap.size + 1 + 1, 0, none⟩ = some (.int .i64 kd) := by
               rw [hgrow.cell_far _ (by simp; omega) hne, World.cell?_of_block (heap_alloc_old _ _ hlw)]; exact o0'
             have k2 : w1.frozen? ⟨w.heap.size + 1 + 1, 1, none⟩ = false := by
               rw [hgrow.frozen_far _ (by simp; omega) hne, World.frozen?_of_block (heap_alloc_old _ _ hlw)]; exact o2'
             have HR1 := Lib.hid (HAPP.out _ g gc w1 hown1 hgrow hat1)
             have hz2 := hgrow.size
             have HB3 : Hid (Below (w.heap.size + 2) (((w.alloc (.cells #[.int .i64 kd, .slice (some ⟨b, off, none⟩) ts.length cap] 34)).alloc (.cells #[.int .i64 0, .slice none 0 0] 34)).alloc (.cells #[.int .i64 kd, .slice none 0 0] 34)) w1) :=
               (((HB.out.trans (HB2.out.mono (by omega))).alloc (by omega) _).grown hgrow (by simp; omega) (fun k hk => by have := (HOWN.out.lt _ hk).1; omega))
             clear hown1 hgrow hat1 hlt1 hne hlw)
          | (go_simp
             go_at_call 80
             refine (IH.out _ _ _ hzk HT.out).mono ?_
             rintro e w' ⟨v2, fp, rfl, ht, hfp, hb1⟩
             obtain ⟨zk, za, zn, zc, rfl, HY⟩ := ty_parts ht
             clear ht
             have hb2 := below_thru (below_drew wr) (Nat.le_refl _) hb1
             have hz1 := hb2.size
             obtain ⟨cs, hown, happ⟩ := HROW.out.append hb2 (by omega) HY.out hfp
             rw [List.length_take, Nat.min_eq_left hk] at hown happ
             have HOWN := Lib.hid hown
             have HAPP := Lib.hid happ
             have HB2 := Lib.hid hb2
             have o1' := (hb2.cell (p := ⟨w.heap.size + 1 + 1, 1, none⟩) (by show w.heap.size + 1 + 1 < _; omega)).trans o1
             have o1'' : (w'.alloc (.cells #[.int .i64 zk, .slice za zn zc] 34)).cell? ⟨w.heap.size + 1 + 1, 1, none⟩ = some (.slice oa k oc) := (World.cell?_of_block (heap_alloc_old _ _ (by show w.heap.size + 1 + 1 < _; omega))).trans o1'
             have o0' := (hb2.cell (p := ⟨w.heap.size + 1 + 1, 0, none⟩) (by show w.heap.size + 1 + 1 < _; omega)).trans o0
             have o2' := (hb2.frozen (p := ⟨w.heap.size + 1 + 1, 1, none⟩) (by show w.heap.size + 1 + 1 < _; omega)).trans o2
             have b1' := (hb2.cell (p := ⟨w.heap.size, 1, none⟩) (by show w.heap.size < _; omega)).trans b1
             clear hown happ hb1 hb2 HY))
        all_goals go_wp2_with fail
        all_goals
          exact ⟨⟨k + 1, .slice (some ⟨g, 0, none⟩) (k + 1) gc, by omega, by go_num, by simp [go_sem, k0], by simp [go_sem, k1], by simp [go_sem, k2], by rw [List.take_succ_eq_append_getElem hlt]; exact HR1.out.stored (by omega) _, HB3.out.setCell (by simp) _⟩, by simp [intOf]; omega⟩
      · obtain rfl : k = ts.length := by omega
        have p10 := three_next HB.out 0
        have p11 := three_next HB.out 1
        have q10 := three_frozen HB.out 0
        have q11 := three_frozen HB.out 1
        go_wp2_with fail
        have HR2 := (HROW.out.stored (p := w.heap.size + 1) (o := 0) (by omega) (.int .i64 kd)).stored (p := w.heap.size + 1) (o := 1) (by omega) (.slice oa ts.length oc)
        rw [List.take_length] at HR2
        obtain ⟨fp, hown, hfp⟩ := HR2.tree kd hk0 hk1
        have g0 : ((wr.setCell ⟨w.heap.size + 1, 0, none⟩ (.int .i64 kd)).setCell ⟨w.heap.size + 1, 1, none⟩ (.slice oa ts.length oc)).cell? ⟨w.heap.size + 1, 0, none⟩ = some (.int .i64 kd) := by simp [go_sem, p10]
        have g1 : ((wr.setCell ⟨w.heap.size + 1, 0, none⟩ (.int .i64 kd)).setCell ⟨w.heap.size + 1, 1, none⟩ (.slice oa ts.length oc)).cell? ⟨w.heap.size + 1, 1, none⟩ = some (.slice oa ts.length oc) := by simp [go_sem, p11]
        refine bodyPost_ret (v := .agg #[.int .i64 kd, .slice oa ts.length oc]) (by simp [results, Try.results80, go_sem, g0, g1]) rfl ?_
        exact ⟨_, fp, rfl, hown, hfp.mono (by omega) (Nat.le_refl _), (HBW.out.setCell (by simp) _).setCell (by simp) _⟩
end Go.Proofs.Yteeojgefnoaajaa
/-
  Proved: spec.l6Copy copies an expression into new memory; it leaves the memory that was there as it was.
-/
namespace Go.Proofs.Yteeojgefnoaajaa
open Go.RowKit

theorem box_five {w : World} {p : Nat} {c0 c1 c2 c3 c4 c5 : Value} (h : BoxAt w p #[c0, c1, c2, c3, c4, c5]) : w.cell? ⟨p, 0, none⟩ = some c0 ∧ w.cell? ⟨p, 1, none⟩ = some c1 ∧ w.cell? ⟨p, 2, none⟩ = some c2 ∧ w.cell? ⟨p, 3, none⟩ = some c3 ∧ w.cell? ⟨p, 4, none⟩ = some c4 := ⟨h.2 0, h.2 1, h.2 2, h.2 3, h.2 4⟩
theorem box_six {w : World} {p : Nat} {c0 c1 c2 c3 c4 c5 : Value} (h : BoxAt w p #[c0, c1, c2, c3, c4, c5]) : w.cell? ⟨p, 0, none⟩ = some c0 ∧ w.cell? ⟨p, 1, none⟩ = some c1 ∧ w.cell? ⟨p, 2, none⟩ = some c2 ∧ w.cell? ⟨p, 3, none⟩ = some c3 ∧ w.cell? ⟨p, 4, none⟩ = some c4 ∧ w.cell? ⟨p, 5, none⟩ = some c5 := ⟨h.2 0, h.2 1, h.2 2, h.2 3, h.2 4, h.2 5⟩
theorem free_six {w : World} {p : Nat} (h : FreeAt w p) : w.frozen? ⟨p, 0, none⟩ = false ∧ w.frozen? ⟨p, 1, none⟩ = false ∧ w.frozen? ⟨p, 2, none⟩ = false ∧ w.frozen? ⟨p, 3, none⟩ = false ∧ w.frozen? ⟨p, 4, none⟩ = false ∧ w.frozen? ⟨p, 5, none⟩ = false := ⟨h.2 0, h.2 1, h.2 2, h.2 3, h.2 4, h.2 5⟩
/-- The new node, without its parts, all of it made since W. -/
def OutAt (W : World) (d : Nat) (kd : Int) (nm : ByteArray) (n : Int) (ty : Ty) (s : Value) (wx : World) : Prop :=
  ∃ p zk za zn zc f1, s = .pointer (some ⟨p, 0, none⟩) ∧ W.heap.size ≤ p ∧ BoxAt wx p #[.int .i64 kd, .string nm, .int .i64 n, .int .i64 zk, .slice za zn zc, .slice none 0 0] ∧ FreeAt wx p ∧ TyOwn wx d (.agg #[.int .i64 zk, .slice za zn zc]) ty f1 ∧ Fp W.heap.size wx.heap.size f1 ∧ p ∉ f1 ∧ Below W.heap.size W wx
theorem out_new {W w8 : World} {d : Nat} {kd : Int} {nm : ByteArray} {n : Int} {ty : Ty} {zk : Int} {za : Option Addr} {zn zc lo : Nat} {f1 : List Nat} {T : TypeId} (G : Below W.heap.size W w8) (Ht : TyOwn w8 d (.agg #[.int .i64 zk, .slice za zn zc]) ty f1) (Hf : Fp lo w8.heap.size f1) (hlo : W.heap.size ≤ lo) :
    OutAt W d kd nm n ty (.pointer (some ⟨w8.heap.size, 0, none⟩)) (w8.alloc (.cells #[.int .i64 kd, .string nm, .int .i64 n, .int .i64 zk, .slice za zn zc, .slice none 0 0] T)) :=
  ⟨w8.heap.size, zk, za, zn, zc, f1, rfl, G.size, BoxAt.new _ _ _, FreeAt.new _ _ _, Ht.below (below_alloc _ _), Hf.mono hlo (by simp), fun h => Nat.lt_irrefl _ (Hf.2 _ h).2, G.alloc G.size _⟩
theorem out_old {W w8 : World} {d : Nat} {kd : Int} {nm : ByteArray} {n : Int} {ty : Ty} {zk : Int} {za : Option Addr} {zn zc lo p : Nat} {f1 : List Nat} (G : Below W.heap.size W w8) (Ht : TyOwn w8 d (.agg #[.int .i64 zk, .slice za zn zc]) ty f1) (Hf : Fp lo w8.heap.size f1) (hlo : W.heap.size ≤ lo)
    (hP : W.heap.size ≤ p) (hp : p < lo) (X : BoxAt w8 p #[.int .i64 0, .string ⟨#[]⟩, .int .i64 0, .int .i64 0, .slice none 0 0, .slice none 0 0]) (F : FreeAt w8 p) :
    OutAt W d kd nm n ty (.pointer (some ⟨p, 0, none⟩)) ((((((w8.setCell ⟨p, 0, none⟩ (.int .i64 kd)).setCell ⟨p, 1, none⟩ (.string nm)).setCell ⟨p, 2, none⟩ (.int .i64 n)).setCell ⟨p, 3, none⟩ (.int .i64 zk)).setCell ⟨p, 4, none⟩ (.slice za zn zc)).setCell ⟨p, 5, none⟩ (.slice none 0 0)) := by
  refine ⟨p, zk, za, zn, zc, f1, rfl, hP, ?_, F.put.put.put.put.put.put, ?_, Hf.mono hlo (by simp), fun h => by have := (Hf.2 _ h).1; omega, (((((G.setCell hP _).setCell hP _).setCell hP _).setCell hP _).setCell hP _).setCell hP _⟩
  · have h1 := X.put (j := 0) (u := .int .i64 kd) (by simp)
    have h2 := h1.put (j := 1) (u := .string nm) (by simp)
    have h3 := h2.put (j := 2) (u := .int .i64 n) (by simp)
    have h4 := h3.put (j := 3) (u := .int .i64 zk) (by simp)
    have h5 := h4.put (j := 4) (u := .slice za zn zc) (by simp)
    have h6 := h5.put (j := 5) (u := .slice none 0 0) (by simp)
    simpa using h6
  · exact Ht.kept (by simp) fun b hb => by
      have := (Hf.2 b hb).1
      rw [heap_setCell_other _ _ _ _ (by simp; omega), heap_setCell_other _ _ _ _ (by simp; omega), heap_setCell_other _ _ _ _ (by simp; omega), heap_setCell_other _ _ _ _ (by simp; omega), heap_setCell_other _ _ _ _ (by simp; omega), heap_setCell_other _ _ _ _ (by simp; omega)]

set_option maxRecDepth 100000 in
set_option maxHeartbeats 4000000 in
theorem specExCopy : ∀ (d : Nat) (v : Value) (t : Ex) (w : World), t.bulk ≤ 1048576 → ExAt w d v t →
    Calls Try.prog 97 #[v] w (ToExEnd d t w)
  | 0, _, _, _, _, h => h.elim
  | d + 1, v, .node kd nm n ty es, w, hsz, h => by
    have IH : Hid (∀ (v : Value) (t : Ex) (w : World), t.bulk ≤ 1048576 → ExAt w d v t → Calls Try.prog 97 #[v] w (ToExEnd d t w)) := specExCopy d
    obtain ⟨i0, hi, hz0, hz1, hz2⟩ := info_parts info_ex
    have HI := Lib.hid hi
    have HZ0 := Lib.hid hz0
    have HZ1 := Lib.hid hz1
    have HZ2 := Lib.hid hz2
    clear hi hz0 hz1 hz2
    have HV := ex_parts h
    obtain ⟨c3, c4, sl, rfl, hk0, hk1, hn0, hn1, hnm, hty, a, cap, rfl, hcap, hcap2, hat⟩ := h
    obtain ⟨k', nm', n', tk, ta, tn, tc, sa, sn, sc, hv⟩ := HV
    injection hv with hv
    injection hv with hv
    simp at hv
    obtain ⟨rfl, rfl, rfl, rfl, rfl, rfl, rfl, rfl⟩ := hv
    have HAT := Lib.hid hat; clear hat
    have HTY := Lib.hid hty; clear hty
    have hbk : (Ex.node kd nm n ty es).bulk = nm.size + (ty.size - 1) + Ex.bulks es := rfl
    have HSZ : Hid (Ex.bulks es ≤ 1048576) := by show _ ≤ _; omega
    have HTZ : Hid (ty.size ≤ 1048577) := by show _ ≤ _; omega
    have hn2 : es.length ≤ 1048576 := by have := Ex.length_le es; omega
    clear hsz hbk
    obtain ⟨W, hW⟩ : ∃ W, W = (w.alloc (.cells #[.int .i64 kd, .string nm, .int .i64 n, .int .i64 tk, .slice ta tn tc, .slice a es.length cap] 55)).alloc (.cells #[.int .i64 0, .string ⟨#[]⟩, .int .i64 0, .int .i64 0, .slice none 0 0, .slice none 0 0] 55) := ⟨_, rfl⟩
    have XB : Hid (BoxAt W w.heap.size #[.int .i64 kd, .string nm, .int .i64 n, .int .i64 tk, .slice ta tn tc, .slice a es.length cap]) := by
      rw [hW]; exact (BoxAt.new _ _ _).below (below_alloc _ _)
    have BW : Hid (Below w.heap.size w W) := by
      rw [hW]; exact ((Below.refl _ _).alloc (Nat.le_refl _) _).alloc (by simp) _
    have HTW := Lib.hid (HTY.out.below BW.out)
    have hWs : W.heap.size = w.heap.size + 1 + 1 := by rw [hW]; simp
    go_enter Try.func97, Try.ntmps97
    go_upto_region 1 with fail
    go_cut [3] (fun s wx => OutAt W d kd nm n ty s wx)
    case first =>
      rw [← hW]
      have HWS := Lib.hid hWs
      clear hW hWs
      have G := Lib.hid (below_drew W)
      go_region_held3 (fun w' => w'.cell? ⟨w.heap.size, 0, none⟩ = some (.int .i64 kd) ∧ w'.cell? ⟨w.heap.size, 1, none⟩ = some (.string nm) ∧ w'.cell? ⟨w.heap.size, 2, none⟩ = some (.int .i64 n) ∧ w'.cell? ⟨w.heap.size, 3, none⟩ = some (.int .i64 tk) ∧ w'.cell? ⟨w.heap.size, 4, none⟩ = some (.slice ta tn tc)) (refine ⟨(by (repeat (rw [World.cell?_setCell_other _ _ _ _ (by first | (simp; have hws := HWS.out; omega) | simp)])); first | with_reducible exact (box_five (XB.out.below G.out)).1 | with_reducible exact (box_five (XB.out.below (G.out.alloc G.out.size _))).1 | with_reducible exact (box_five (XB.out.below (below_alloc _ _).drew)).1), (by (repeat (rw [World.cell?_setCell_other _ _ _ _ (by first | (simp; have hws := HWS.out; omega) | simp)])); first | with_reducible exact (box_five (XB.out.below G.out)).2.1 | with_reducible exact (box_five (XB.out.below (G.out.alloc G.out.size _))).2.1 | with_reducible exact (box_five (XB.out.below (below_alloc _ _).drew)).2.1), (by (repeat (rw [World.cell?_setCell_other _ _ _ _ (by first | (simp; have hws := HWS.out; omega) | simp)])); first | with_reducible exact (box_five (XB.out.below G.out)).2.2.1 | with_reducible exact (box_five (XB.out.below (G.out.alloc G.out.size _))).2.2.1 | with_reducible exact (box_five (XB.out.below (below_alloc _ _).drew)).2.2.1), (by (repeat (rw [World.cell?_setCell_other _ _ _ _ (by first | (simp; have hws := HWS.out; omega) | simp)])); first | with_reducible exact (box_five (XB.out.below G.out)).2.2.2.1 | with_reducible exact (box_five (XB.out.below (G.out.alloc G.out.size _))).2.2.2.1 | with_reducible exact (box_five (XB.out.below (below_alloc _ _).drew)).2.2.2.1), (by (repeat (rw [World.cell?_setCell_other _ _ _ _ (by first | (simp; have hws := HWS.out; omega) | simp)])); first | with_reducible exact (box_five (XB.out.below G.out)).2.2.2.2 | with_reducible exact (box_five (XB.out.below (G.out.alloc G.out.size _))).2.2.2.2 | with_reducible exact (box_five (XB.out.below (below_alloc _ _).drew)).2.2.2.2)⟩)
        (first
         | (go_at_call 80
            refine (specCopy d _ ty _ HTZ.out ?_).mono ?_
            · first | exact HTW.out.below G.out | exact HTW.out.below (G.out.alloc G.out.size _) | exact HTW.out.below (below_alloc _ _).drew
            rintro e wo ⟨o, fp, rfl, ht, hf, hb⟩
            obtain ⟨zk, za, zn, zc, rfl, HY⟩ := ty_parts ht
            have HF := Lib.hid hf
            clear ht hf
            have hzo := hb.size
            try simp only [World.size_drew] at hzo
            try simp only [World.size_alloc] at hzo
            try simp only [World.size_drew] at hzo
            first
              | (have XO : Hid (BoxAt wo W.heap.size #[.int .i64 0, .string ⟨#[]⟩, .int .i64 0, .int .i64 0, .slice none 0 0, .slice none 0 0]) := Lib.hid ((BoxAt.new _ _ _).below hb)
                 have XF : Hid (FreeAt wo W.heap.size) := Lib.hid ((FreeAt.new _ #[.int .i64 0, .string ⟨#[]⟩, .int .i64 0, .int .i64 0, .slice none 0 0, .slice none 0 0] _).below hb)
                 have G2 := Lib.hid (below_on (G.out.alloc G.out.size _) hb (G.out.alloc G.out.size _).size)
                 clear G
                 have G := G2
                 clear G2
                 obtain ⟨r0, r1, r2, r3, r4, r5⟩ := box_six XO.out
                 obtain ⟨q0, q1, q2, q3, q4, q5⟩ := free_six XF.out)
              | (have XO : Hid (BoxAt wo W.heap.size #[.int .i64 0, .string ⟨#[]⟩, .int .i64 0, .int .i64 0, .slice none 0 0, .slice none 0 0]) := Lib.hid (((BoxAt.new _ _ _).below (below_drew _)).below hb)
                 have XF : Hid (FreeAt wo W.heap.size) := Lib.hid (((FreeAt.new _ #[.int .i64 0, .string ⟨#[]⟩, .int .i64 0, .int .i64 0, .slice none 0 0, .slice none 0 0] _).below (below_drew _)).below hb)
                 have G2 := Lib.hid (below_on (below_alloc W _).drew hb (below_alloc W _).drew.size)
                 clear G
                 have G := G2
                 clear G2
                 obtain ⟨r0, r1, r2, r3, r4, r5⟩ := box_six XO.out
                 obtain ⟨q0, q1, q2, q3, q4, q5⟩ := free_six XF.out)
              | (replace G := Lib.hid (below_on G.out hb G.out.size))
            clear hb))
      all_goals go_wp2_with fail
      all_goals go_meet
      all_goals first | with_reducible refine out_new G.out HY.out HF.out ?_ | with_reducible refine out_old G.out HY.out HF.out ?_ ?_ ?_ XO.out XF.out | trace_state
      all_goals ((try simp only [World.size_drew]); (try simp only [World.size_alloc]); (try simp only [World.size_drew]); omega)
    case rest =>
      obtain ⟨w3, hwc⟩ : ∃ u, u = wc := ⟨_, rfl⟩
      subst hwc
      obtain ⟨p, zk, za, zn, zc, f1, rfl, hp, hX, hF, hT, hFp, hpf, hb⟩ := hcut
      have XR0 : Hid (BoxAt W (w.heap.size + 1) #[.int .i64 0, .string ⟨#[]⟩, .int .i64 0, .int .i64 0, .slice none 0 0, .slice none 0 0]) := by rw [hW]; exact box_at (BoxAt.new _ _ _) (by simp)
      have FR0 : Hid (FreeAt W (w.heap.size + 1)) := by rw [hW]; exact free_at (FreeAt.new _ _ _) (by simp)
      have HFP := Lib.hid hFp
      have HPF := Lib.hid hpf
      have HX3 := Lib.hid hX
      have HF3 := Lib.hid hF
      have HT3 := Lib.hid hT
      have HB3 := Lib.hid hb
      have HWS := Lib.hid hWs
      have HPW := Lib.hid hp
      have HP3 : Hid (p < w3.heap.size) := hX.1
      have HW3 : Hid (W.heap.size ≤ w3.heap.size) := hb.size
      clear hX hF hT hFp hpf hb hW hWs hp
      go_wp2_with fail
      go_loopw [4] (fun i wr => ∃ (k : Nat) (vo : Value), k ≤ es.length ∧ i = .int .i64 k ∧ BoxAt wr p #[.int .i64 kd, .string nm, .int .i64 n, .int .i64 zk, .slice za zn zc, vo] ∧ FreeAt wr p ∧ ExRow wr w3.heap.size d vo (es.take k) ∧ TyOwn wr d (.agg #[.int .i64 zk, .slice za zn zc]) ty f1 ∧ w3.heap.size ≤ wr.heap.size ∧ Below W.heap.size W wr) (fun i _ => es.length - (intOf i).toNat)
      case atStart => exact ⟨0, _, by omega, rfl, HX3.out, HF3.out, ExRow.nil _ _ _, HT3.out, Nat.le_refl _, HB3.out⟩
      case round =>
        obtain ⟨k, vo, hk, rfl, hxp, hfp, hrow, hty, hz3, hb⟩ := hrel
        obtain ⟨oa, oc, hvo⟩ := hrow.form
        rw [List.length_take, Nat.min_eq_left hk] at hvo
        subst hvo
        have HROW := Lib.hid hrow; clear hrow
        have XP := Lib.hid hxp; clear hxp
        have XF := Lib.hid hfp; clear hfp
        have HT := Lib.hid hty; clear hty
        have HBW := Lib.hid hb
        have HBB := Lib.hid (below_thru BW.out (Nat.le_refl _) hb); clear hb
        have HZ3 := Lib.hid hz3; clear hz3
        have b5 := (XB.out.below HBW.out).2 5
        by_cases hlt : k < es.length
        · obtain ⟨b, off, x0, x1, x2, x3, x4, x5, rfl, hbl, hc0, hc1, hc2, hc3, hc4, hc5, ht⟩ := HAT.out k hlt
          have hg := Ex.bulk_get es k hlt
          have hzk : es[k].bulk ≤ 1048576 := by have := HSZ.out; omega
          have e0 : wr.cell? ⟨b, off + k * 6, none⟩ = some x0 := by rw [HBB.out.cell (p := ⟨b, off + k * 6, none⟩) hbl]; exact hc0
          have e1 : wr.cell? ⟨b, off + k * 6 + 1, none⟩ = some x1 := by rw [HBB.out.cell (p := ⟨b, off + k * 6 + 1, none⟩) hbl]; exact hc1
          have e2 : wr.cell? ⟨b, off + k * 6 + 2, none⟩ = some x2 := by rw [HBB.out.cell (p := ⟨b, off + k * 6 + 2, none⟩) hbl]; exact hc2
          have e3 : wr.cell? ⟨b, off + k * 6 + 3, none⟩ = some x3 := by rw [HBB.out.cell (p := ⟨b, off + k * 6 + 3, none⟩) hbl]; exact hc3
          have e4 : wr.cell? ⟨b, off + k * 6 + 4, none⟩ = some x4 := by rw [HBB.out.cell (p := ⟨b, off + k * 6 + 4, none⟩) hbl]; exact hc4
          have e5 : wr.cell? ⟨b, off + k * 6 + 5, none⟩ = some x5 := by rw [HBB.out.cell (p := ⟨b, off + k * 6 + 5, none⟩) hbl]; exact hc5
          have HTE := Lib.hid ((ht.below HBB.out).below (below_drew wr))
          have o5 := XP.out.2 5
          have z5 := XF.out.2 5
          clear ht hc0 hc1 hc2 hc3 hc4 hc5 hg
          go_wp2_with fail
          go_region_law (first
            | (refine step_append_lies _ (by rfl) (.tmp 23) (.tmp 30) 53 (by rfl) w3.heap.size 55 i0 (.agg #[.int .i64 0, .string ⟨#[]⟩, .int .i64 0, .int .i64 0, .slice none 0 0, .slice none 0 0]) 6 88 Try.underlying53 HI.out HZ0.out HZ1.out HZ2.out rfl (by omega) (.slice oa k oc) k cs (by simp [Act.eval]) (HOWN.out.alloc _) ⟨w'.heap.size, 0, none⟩ 1 1 [.int .i64 yk, .string ynm, .int .i64 yn, .int .i64 ytk, .slice yta ytn ytc, .slice ya ym yc] (by simp [Act.eval]) rfl (World.news_of_block (cs := #[.int .i64 yk, .string ynm, .int .i64 yn, .int .i64 ytk, .slice yta ytn ytc, .slice ya ym yc]) (t := 55) (fr := (0, 0)) (heap_alloc_new w' _)) (by simp [Value.oneCell']) (by omega) (by unfold maxLen; omega) (by omega) (by simp; have h1 := HZ3.out; omega) (w'.heap.size + 1) (by simp) ?_
               intro g gc w1 hown1 hgrow hat1 hlt1
               have hz2 := hgrow.size
               have hz3 := HZ3.out
               have hp3 := HP3.out
               simp only [World.size_alloc] at hz2
               have KP : Hid (∀ b, b < w3.heap.size → w1.heap[b]? = w'.heap[b]?) := fun b hb => by
                 rw [hgrow.block b (by simp; omega) (fun e => by have := (HOWN.out.lt _ e.symm).1; omega), heap_alloc_old _ _ (by omega)]
               have XP1 : Hid (BoxAt w1 p #[.int .i64 kd, .string nm, .int .i64 n, .int .i64 zk, .slice za zn zc, .slice oa k oc]) := XP2.out.kept (by omega) (KP.out p hp3)
               have XF1 : Hid (FreeAt w1 p) := ⟨by omega, fun j => (World.frozen?_of_block (a := ⟨p, j, none⟩) (KP.out p hp3)).trans (XF2.out.2 j)⟩
               have HT1 : Hid (TyOwn w1 d (.agg #[.int .i64 zk, .slice za zn zc]) ty f1) := HT2.out.kept (by omega) fun b hb => KP.out b (HFP.out.2 b hb).2
               have HR1 := Lib.hid (HAPP.out _ g gc w1 hown1 hgrow hat1)
               have HB4 : Hid (Below W.heap.size W w1) := ((HBW.out.trans (HB2.out.mono (by have := HBW.out.size; omega))).alloc (by have := HW3.out; omega) _).grown hgrow (by simp; have := HW3.out; omega) (fun k hk => by have := (HOWN.out.lt _ hk).1; have := HW3.out; omega)
               have k5 := XP1.out.2 5
               have f5 := XF1.out.2 5
               have hz4 : w3.heap.size ≤ w1.heap.size := by omega
               clear hown1 hgrow hat1 hlt1 hz2)
            | (go_simp
               go_at_call 97
               refine (IH.out _ _ _ hzk HTE.out).mono ?_
               rintro e w' ⟨v2, fp, rfl, ht, hfp, hb1⟩
               obtain ⟨yk, ynm, yn, ytk, yta, ytn, ytc, ya, ym, yc, rfl⟩ := ex_parts ht.at_
               have hb2 := below_thru (below_drew wr) (Nat.le_refl _) hb1
               have hz1 := hb2.size
               obtain ⟨cs, hown, happ⟩ := HROW.out.append hb2 HZ3.out ht hfp
               rw [List.length_take, Nat.min_eq_left hk] at hown happ
               have HOWN := Lib.hid hown
               have HAPP := Lib.hid happ
               have HB2 := Lib.hid hb2
               have XP2 := Lib.hid (XP.out.below hb2)
               have XF2 := Lib.hid (XF.out.below hb2)
               have HT2 : Hid (TyOwn w' d (.agg #[.int .i64 zk, .slice za zn zc]) ty f1) := HT.out.kept hz1 fun b hb => hb2.block b (Nat.lt_of_lt_of_le (HFP.out.2 b hb).2 HZ3.out)
               have o5' := XP2.out.2 5
               have o5'' := (XP2.out.below (below_alloc w' (.cells #[.int .i64 yk, .string ynm, .int .i64 yn, .int .i64 ytk, .slice yta ytn ytc, .slice ya ym yc] 55))).2 5
               have z5' := XF2.out.2 5
               have b5' := ((XB.out.below HBW.out).below hb2).2 5
               clear hown happ hb1 hb2 ht hfp))
          all_goals go_wp2_with fail
          all_goals
            exact ⟨⟨k + 1, .slice (some ⟨g, 0, none⟩) (k + 1) gc, by omega, by go_num, XP1.out.put (j := 5) (u := .slice (some ⟨g, 0, none⟩) (k + 1) gc) (by simp), XF1.out.put, by rw [List.take_succ_eq_append_getElem hlt]; exact HR1.out.stored HP3.out _, HT1.out.kept (by simp) (fun b hb => heap_setCell_other _ _ _ _ (fun e => HPF.out (by have e2 : b = p := e; rw [← e2]; exact hb))), by simpa using hz4, HB4.out.setCell HPW.out _⟩, by simp [intOf]; omega⟩
        · obtain rfl : k = es.length := by omega
          have hlw : w.heap.size + 1 < w3.heap.size := by have := HWS.out; have := HW3.out; omega
          have XR := Lib.hid (XR0.out.below HBW.out)
          have FR := Lib.hid (FR0.out.below HBW.out)
          have o0 := XP.out.2 0
          have r0 := XR.out.2 0
          have s0 := FR.out.2 0
          have o1 := XP.out.2 1
          have r1 := XR.out.2 1
          have s1 := FR.out.2 1
          have o2 := XP.out.2 2
          have r2 := XR.out.2 2
          have s2 := FR.out.2 2
          have o3 := XP.out.2 3
          have r3 := XR.out.2 3
          have s3 := FR.out.2 3
          have o4 := XP.out.2 4
          have r4 := XR.out.2 4
          have s4 := FR.out.2 4
          have o5 := XP.out.2 5
          have r5 := XR.out.2 5
          have s5 := FR.out.2 5
          go_wp2_with fail
          have hRF : BoxAt ((((((wr.setCell ⟨w.heap.size + 1, 0, none⟩ (.int .i64 kd)).setCell ⟨w.heap.size + 1, 1, none⟩ (.string nm)).setCell ⟨w.heap.size + 1, 2, none⟩ (.int .i64 n)).setCell ⟨w.heap.size + 1, 3, none⟩ (.int .i64 zk)).setCell ⟨w.heap.size + 1, 4, none⟩ (.slice za zn zc)).setCell ⟨w.heap.size + 1, 5, none⟩ (.slice oa es.length oc)) (w.heap.size + 1) #[.int .i64 kd, .string nm, .int .i64 n, .int .i64 zk, .slice za zn zc, .slice oa es.length oc] := by
            have := ((((((XR.out.put (j := 0) (u := .int .i64 kd) (by simp)).put (j := 1) (u := .string nm) (by simp)).put (j := 2) (u := .int .i64 n) (by simp)).put (j := 3) (u := .int .i64 zk) (by simp)).put (j := 4) (u := .slice za zn zc) (by simp)).put (j := 5) (u := .slice oa es.length oc) (by simp))
            exact this
          have HRW : ExRow ((((((wr.setCell ⟨w.heap.size + 1, 0, none⟩ (.int .i64 kd)).setCell ⟨w.heap.size + 1, 1, none⟩ (.string nm)).setCell ⟨w.heap.size + 1, 2, none⟩ (.int .i64 n)).setCell ⟨w.heap.size + 1, 3, none⟩ (.int .i64 zk)).setCell ⟨w.heap.size + 1, 4, none⟩ (.slice za zn zc)).setCell ⟨w.heap.size + 1, 5, none⟩ (.slice oa es.length oc)) w3.heap.size d (.slice oa es.length oc) es := by
            have := ((((((HROW.out.stored (p := w.heap.size + 1) (o := 0) hlw (.int .i64 kd)).stored (p := w.heap.size + 1) (o := 1) hlw (.string nm)).stored (p := w.heap.size + 1) (o := 2) hlw (.int .i64 n)).stored (p := w.heap.size + 1) (o := 3) hlw (.int .i64 zk)).stored (p := w.heap.size + 1) (o := 4) hlw (.slice za zn zc)).stored (p := w.heap.size + 1) (o := 5) hlw (.slice oa es.length oc))
            rw [List.take_length] at this
            exact this
          have hTF : TyOwn ((((((wr.setCell ⟨w.heap.size + 1, 0, none⟩ (.int .i64 kd)).setCell ⟨w.heap.size + 1, 1, none⟩ (.string nm)).setCell ⟨w.heap.size + 1, 2, none⟩ (.int .i64 n)).setCell ⟨w.heap.size + 1, 3, none⟩ (.int .i64 zk)).setCell ⟨w.heap.size + 1, 4, none⟩ (.slice za zn zc)).setCell ⟨w.heap.size + 1, 5, none⟩ (.slice oa es.length oc)) d (.agg #[.int .i64 zk, .slice za zn zc]) ty f1 := HT.out.kept (by simp) fun b hb => by
            have h1 := (HFP.out.2 b hb).1
            have h2 := HWS.out
            rw [heap_setCell_other _ _ _ _ (by simp; omega), heap_setCell_other _ _ _ _ (by simp; omega), heap_setCell_other _ _ _ _ (by simp; omega), heap_setCell_other _ _ _ _ (by simp; omega), heap_setCell_other _ _ _ _ (by simp; omega), heap_setCell_other _ _ _ _ (by simp; omega)]
          have hBF : Below w.heap.size w ((((((wr.setCell ⟨w.heap.size + 1, 0, none⟩ (.int .i64 kd)).setCell ⟨w.heap.size + 1, 1, none⟩ (.string nm)).setCell ⟨w.heap.size + 1, 2, none⟩ (.int .i64 n)).setCell ⟨w.heap.size + 1, 3, none⟩ (.int .i64 zk)).setCell ⟨w.heap.size + 1, 4, none⟩ (.slice za zn zc)).setCell ⟨w.heap.size + 1, 5, none⟩ (.slice oa es.length oc)) := ((((((HBB.out.setCell (by simp) _).setCell (by simp) _).setCell (by simp) _).setCell (by simp) _).setCell (by simp) _).setCell (by simp) _)
          have hzF : w3.heap.size ≤ ((((((wr.setCell ⟨w.heap.size + 1, 0, none⟩ (.int .i64 kd)).setCell ⟨w.heap.size + 1, 1, none⟩ (.string nm)).setCell ⟨w.heap.size + 1, 2, none⟩ (.int .i64 n)).setCell ⟨w.heap.size + 1, 3, none⟩ (.int .i64 zk)).setCell ⟨w.heap.size + 1, 4, none⟩ (.slice za zn zc)).setCell ⟨w.heap.size + 1, 5, none⟩ (.slice oa es.length oc)).heap.size := by simpa using HZ3.out
          obtain ⟨fp, hown, hfp⟩ := HRW.tree kd nm n ty f1 hk0 hk1 hn0 hn1 hnm hTF HFP.out HW3.out hzF
          have hwW : w.heap.size ≤ W.heap.size := by have := HWS.out; omega
          have g0 := hRF.2 0
          have g1 := hRF.2 1
          have g2 := hRF.2 2
          have g3 := hRF.2 3
          have g4 := hRF.2 4
          have g5 := hRF.2 5
          clear hRF HRW hTF
          generalize ((((((wr.setCell ⟨w.heap.size + 1, 0, none⟩ (.int .i64 kd)).setCell ⟨w.heap.size + 1, 1, none⟩ (.string nm)).setCell ⟨w.heap.size + 1, 2, none⟩ (.int .i64 n)).setCell ⟨w.heap.size + 1, 3, none⟩ (.int .i64 zk)).setCell ⟨w.heap.size + 1, 4, none⟩ (.slice za zn zc)).setCell ⟨w.heap.size + 1, 5, none⟩ (.slice oa es.length oc)) = WX at g0 g1 g2 g3 g4 g5 hown hfp hBF ⊢
          refine bodyPost_ret (v := .agg #[.int .i64 kd, .string nm, .int .i64 n, .int .i64 zk, .slice za zn zc, .slice oa es.length oc]) (by simp [results, Try.results97, go_sem, g0, g1, g2, g3, g4, g5]) rfl ?_
          exact ⟨_, fp, rfl, hown, hfp.mono hwW (Nat.le_refl _), hBF⟩
end Go.Proofs.Yteeojgefnoaajaa
/-
  Proved: spec.l14Copy copies an edit; the memory that was there stays as it was.
-/
namespace Go.Proofs.Yteeojgefnoaajaa
open Go.RowKit

/-- A path that is appended to an empty slice. -/
theorem path_append (ty : TypeId) (w : World) (b : Addr) (v : Value) (ps : List Int) (hv : Ints w v ps) (hn : ps.length ≤ 1048576) :
    ∃ v' w', (Builtin.append_ #[48, 48] ty #[.slice (some b) 0 0, v]).run Try.prog w = .ok v' w' ∧ (∃ a cap, v' = .slice a ps.length cap) ∧ (∀ W', (∀ b, w.heap.size ≤ b → b < w'.heap.size → W'.heap[b]? = w'.heap[b]?) → Ints W' v' ps) ∧ Below w.heap.size w w' := by
  obtain ⟨i0, hi, hz0, hz1, hz2⟩ := info_parts info_i
  obtain ⟨a, cap, rfl, hcap, hat⟩ := hv
  by_cases h0 : 0 < ps.length
  · obtain ⟨g, off, rfl, hg, _⟩ := hat 0 h0
    obtain ⟨v', w', hr, ho, hgr⟩ := run_append_arg_grows (P := Try.prog) (w := w) 48 ty 3 i0 (.int .i64 0) 1 8 Try.underlying48 hi hz0 hz1 hz2 rfl (by omega) b 0 0 [] rfl (fun j u h => by simp at h)
      ⟨g, off, none⟩ ps.length cap (ps.map (Value.int IntKind.i64)) (by simp) (fun j u h => by
        simp at h
        obtain ⟨x, hx, rfl⟩ := h
        obtain ⟨hj, rfl⟩ := List.getElem?_eq_some_iff.1 hx
        obtain ⟨g', off', e, _, hc⟩ := hat j hj
        cases e
        rw [addr_add]; exact hc) (by omega) (by unfold maxLen; omega) (by omega)
    rw [Nat.zero_add, List.nil_append] at ho
    have hi2 := Ints.of_own ho
    refine ⟨v', w', hr, ?_, fun W' hk => Ints.of_own (own_keeps ho fun k e => hk k (ho.lt k e).1 (ho.lt k e).2), (Below.refl _ w).grown hgr (Nat.le_refl _) (fun k e => by cases e)⟩
    obtain ⟨a', cap', hv', _⟩ := hi2
    exact ⟨a', cap', hv'⟩
  · have hp : ps = [] := List.length_eq_zero_iff.1 (by omega)
    subst hp
    refine ⟨_, w, run_append_nothing w 48 48 ty 3 i0 Try.underlying48 hi (some b) 0 0 (Nat.le_refl _) (.slice a 0 cap) ?_, ⟨some b, 0, rfl⟩, fun _ _ => Ints.nil _ _, Below.refl _ _⟩
    cases a with
    | none => exact Src.ofNil w Try.underlying48 cap
    | some a => exact Src.ofSlice w Try.underlying48 a 0 cap [] (by simp) (fun j u h => by simp at h) (by simp)
theorem below_low {B : Nat} {W cur w' : World} (h : Below B W cur) (_ : Below cur.heap.size cur w') : W.heap.size ≤ cur.heap.size := h.size
/-- An append at a step of a region that draws its order. -/
theorem step_append_any {P : Program} {w : World} {ops : Array Oper} {o : Oper} {a : Act} {K : Act → World → Prop} {Q : Exit → Act → World → Prop} {E : Prop} (hgd : o.guard = none) (s x : Operand) (t : TypeId)
    (ho : o.op = .call { callee := .builtin .append, args := #[s, x], argTypes := #[t, t] }) (v xv : Value) (hs : a.eval s = v) (hx : a.eval x = xv) {R : Value → World → Prop}
    (hr : ∃ v' w', (Builtin.append_ #[t, t] o.type #[v, xv]).run P w = .ok v' w' ∧ R v' w') (h : ∀ v' w', R v' w' → K (a.put o.dst v') w') :
    if Region.wanted o (yielded ops a.tmps) = true then Oper.wp P o a w K Q else E := by
  have hw : Region.wanted o (yielded ops a.tmps) = true := by simp [Region.wanted, hgd]
  rw [if_pos hw]
  obtain ⟨v', w', hr, hR⟩ := hr
  unfold Oper.wp execOp
  simp only [ho, resolve, invoke, builtin, Sem.run_bind, Sem.run_pure, Result.andThen_ok, List.map_toArray, List.map_cons, List.map_nil, hs, hx, hr]
  exact h v' w' hR
set_option maxRecDepth 100000 in
set_option maxHeartbeats 4000000 in
theorem specCopyEdit (d : Nat) (v : Value) (t : Edi) (w : World) (h : EditAt w d v t) (hsz : t.bulk ≤ 1048576) :
    Calls Try.prog 64 #[v] w fun e w' => ∃ v', e = .returned v' ∧ EditUp w.heap.size w' d v' t ∧ Below w.heap.size w w' := by
  cases t with
  | mk ex ps =>
    obtain ⟨k, nm, n, tk, ta, tn, tc, sa, sn, sc, pa, pn, pc, rfl, he, hp, hl⟩ := h
    dsimp only at he hp hl ⊢
    have hbk : (Edi.mk ex ps).bulk = ex.bulk + ps.length := rfl
    have hn1 : ex.bulk ≤ 1048576 := by omega
    have hn2 : ps.length ≤ 1048576 := by omega
    clear hsz hbk
    have e2 : Below w.heap.size w ((w.alloc (.cells #[.int .i64 k, .string nm, .int .i64 n, .int .i64 tk, .slice ta tn tc, .slice sa sn sc, .slice pa pn pc] 57)).alloc (.cells #[.int .i64 0, .string ⟨#[]⟩, .int .i64 0, .int .i64 0, .slice none 0 0, .slice none 0 0, .slice none 0 0] 57)) := ((Below.refl _ _).alloc (Nat.le_refl _) _).alloc (by simp) _
    have HE := Lib.hid (he.below e2)
    have HP := Lib.hid (hp.below e2)
    have XA : Hid (BoxAt ((w.alloc (.cells #[.int .i64 k, .string nm, .int .i64 n, .int .i64 tk, .slice ta tn tc, .slice sa sn sc, .slice pa pn pc] 57)).alloc (.cells #[.int .i64 0, .string ⟨#[]⟩, .int .i64 0, .int .i64 0, .slice none 0 0, .slice none 0 0, .slice none 0 0] 57)) w.heap.size #[.int .i64 k, .string nm, .int .i64 n, .int .i64 tk, .slice ta tn tc, .slice sa sn sc, .slice pa pn pc]) := (BoxAt.new _ _ _).below (below_alloc _ _)
    have XR : Hid (BoxAt ((w.alloc (.cells #[.int .i64 k, .string nm, .int .i64 n, .int .i64 tk, .slice ta tn tc, .slice sa sn sc, .slice pa pn pc] 57)).alloc (.cells #[.int .i64 0, .string ⟨#[]⟩, .int .i64 0, .int .i64 0, .slice none 0 0, .slice none 0 0, .slice none 0 0] 57)) (w.heap.size + 1) #[.int .i64 0, .string ⟨#[]⟩, .int .i64 0, .int .i64 0, .slice none 0 0, .slice none 0 0, .slice none 0 0]) := box_at (BoxAt.new _ _ _) (by simp)
    have FR : Hid (FreeAt ((w.alloc (.cells #[.int .i64 k, .string nm, .int .i64 n, .int .i64 tk, .slice ta tn tc, .slice sa sn sc, .slice pa pn pc] 57)).alloc (.cells #[.int .i64 0, .string ⟨#[]⟩, .int .i64 0, .int .i64 0, .slice none 0 0, .slice none 0 0, .slice none 0 0] 57)) (w.heap.size + 1)) := free_at (FreeAt.new _ _ _) (by simp)
    have E2 := Lib.hid e2
    clear e2 he hp
    go_enter Try.func64, Try.ntmps64
    go_wp2_with fail
    have hzw : ((w.alloc (.cells #[.int .i64 k, .string nm, .int .i64 n, .int .i64 tk, .slice ta tn tc, .slice sa sn sc, .slice pa pn pc] 57)).alloc (.cells #[.int .i64 0, .string ⟨#[]⟩, .int .i64 0, .int .i64 0, .slice none 0 0, .slice none 0 0, .slice none 0 0] 57)).heap.size = w.heap.size + 2 := by simp
    generalize ((w.alloc (.cells #[.int .i64 k, .string nm, .int .i64 n, .int .i64 tk, .slice ta tn tc, .slice sa sn sc, .slice pa pn pc] 57)).alloc (.cells #[.int .i64 0, .string ⟨#[]⟩, .int .i64 0, .int .i64 0, .slice none 0 0, .slice none 0 0, .slice none 0 0] 57)) = W2 at HE HP XA XR FR E2 hzw ⊢
    have a0 := XA.out.2 0
    have a1 := XA.out.2 1
    have a2 := XA.out.2 2
    have a3 := XA.out.2 3
    have a4 := XA.out.2 4
    have a5 := XA.out.2 5
    have a6 := XA.out.2 6
    have BC := Lib.hid (below_drew W2)
    have d6 := (XA.out.below (below_alloc W2 (.cells #[] 3))).2 6
    have d0 := (XA.out.below (below_alloc W2 (.cells #[] 3))).2 0
    have d1 := (XA.out.below (below_alloc W2 (.cells #[] 3))).2 1
    have d2 := (XA.out.below (below_alloc W2 (.cells #[] 3))).2 2
    have d3 := (XA.out.below (below_alloc W2 (.cells #[] 3))).2 3
    have d4 := (XA.out.below (below_alloc W2 (.cells #[] 3))).2 4
    have d5 := (XA.out.below (below_alloc W2 (.cells #[] 3))).2 5
    go_region_law (first
      | (refine step_append_any rfl (.tmp 6) (.tmp 8) 48 rfl (.slice (some ⟨_, 0, none⟩) 0 0) (.slice pa pn pc) rfl rfl (path_append _ _ _ _ ps (HP.out.below (by first | exact BC.out | exact BC.out.alloc BC.out.size _)) hn2) ?_
         rintro v' w' ⟨⟨ga, gc, rfl⟩, hgi, hgb⟩
         have hlow := below_low (by first | exact BC.out | exact BC.out.alloc BC.out.size _) hgb
         replace BC := Lib.hid (below_thru (by first | exact BC.out | exact BC.out.alloc BC.out.size _) (Nat.le_refl _) hgb)
         have HG := Lib.hid hgi
         have LG := Lib.hid hlow
         have KG := Lib.hid (Below.refl w'.heap.size w')
         try replace KT := Lib.hid (below_thru (by first | exact KT.out | exact KT.out.alloc KT.out.size _) (Nat.le_refl _) hgb)
         have gr0 := (XR.out.below BC.out).2 0
         have gf0 := (FR.out.below BC.out).2 0
         have gr1 := (XR.out.below BC.out).2 1
         have gf1 := (FR.out.below BC.out).2 1
         have gr2 := (XR.out.below BC.out).2 2
         have gf2 := (FR.out.below BC.out).2 2
         have gr3 := (XR.out.below BC.out).2 3
         have gf3 := (FR.out.below BC.out).2 3
         have gr4 := (XR.out.below BC.out).2 4
         have gf4 := (FR.out.below BC.out).2 4
         have gr5 := (XR.out.below BC.out).2 5
         have gf5 := (FR.out.below BC.out).2 5
         have gr6 := (XR.out.below BC.out).2 6
         have gf6 := (FR.out.below BC.out).2 6
         have ga0 := (XA.out.below BC.out).2 0
         have ga1 := (XA.out.below BC.out).2 1
         have ga2 := (XA.out.below BC.out).2 2
         have ga3 := (XA.out.below BC.out).2 3
         have ga4 := (XA.out.below BC.out).2 4
         have ga5 := (XA.out.below BC.out).2 5
         clear hgi hgb hlow)
      | (go_simp
         go_at_call 97
         refine (specExCopy d _ ex _ hn1 (HE.out.below (by first | exact BC.out | exact BC.out.alloc BC.out.size _))).mono ?_
         rintro e w' ⟨v2, fp, rfl, ht, hfp, hb1⟩
         have hlow := below_low (by first | exact BC.out | exact BC.out.alloc BC.out.size _) hb1
         replace BC := Lib.hid (below_thru (by first | exact BC.out | exact BC.out.alloc BC.out.size _) (Nat.le_refl _) hb1)
         obtain ⟨yk, ynm, yn, ytk, yta, ytn, ytc, ya, ym, yc, rfl⟩ := ex_parts ht.at_
         have HT := Lib.hid ht
         have HF := Lib.hid hfp
         have LT := Lib.hid hlow
         have KT := Lib.hid (Below.refl w'.heap.size w')
         try replace KG := Lib.hid (below_thru KG.out (Nat.le_refl _) hb1)
         have cr0 := (XR.out.below BC.out).2 0
         have cf0 := (FR.out.below BC.out).2 0
         have cr1 := (XR.out.below BC.out).2 1
         have cf1 := (FR.out.below BC.out).2 1
         have cr2 := (XR.out.below BC.out).2 2
         have cf2 := (FR.out.below BC.out).2 2
         have cr3 := (XR.out.below BC.out).2 3
         have cf3 := (FR.out.below BC.out).2 3
         have cr4 := (XR.out.below BC.out).2 4
         have cf4 := (FR.out.below BC.out).2 4
         have cr5 := (XR.out.below BC.out).2 5
         have cf5 := (FR.out.below BC.out).2 5
         have cr6 := (XR.out.below BC.out).2 6
         have cf6 := (FR.out.below BC.out).2 6
         have ca6 := (XA.out.below BC.out).2 6
         have cb6 := ((XA.out.below BC.out).below (below_alloc _ (.cells #[] 3))).2 6
         clear ht hfp hb1 hlow))
    all_goals go_wp2_with fail
    all_goals (
      have XF := XR.out.below BC.out
      have XRF := (((((((XF.put (j := 0) (u := .int .i64 yk) (by simp)).put (j := 1) (u := .string ynm) (by simp)).put (j := 2) (u := .int .i64 yn) (by simp)).put (j := 3) (u := .int .i64 ytk) (by simp)).put (j := 4) (u := .slice yta ytn ytc) (by simp)).put (j := 5) (u := .slice ya ym yc) (by simp)).put (j := 6) (u := .slice ga ps.length gc) (by simp))
      have KF : ∀ b, w.heap.size + 2 ≤ b → (((((((w'.setCell ⟨w.heap.size + 1, 0, none⟩ (.int .i64 yk)).setCell ⟨w.heap.size + 1, 1, none⟩ (.string ynm)).setCell ⟨w.heap.size + 1, 2, none⟩ (.int .i64 yn)).setCell ⟨w.heap.size + 1, 3, none⟩ (.int .i64 ytk)).setCell ⟨w.heap.size + 1, 4, none⟩ (.slice yta ytn ytc)).setCell ⟨w.heap.size + 1, 5, none⟩ (.slice ya ym yc)).setCell ⟨w.heap.size + 1, 6, none⟩ (.slice ga ps.length gc)).heap[b]? = w'.heap[b]? := fun b hb => by
        rw [heap_setCell_other _ _ _ _ (by simp; omega), heap_setCell_other _ _ _ _ (by simp; omega), heap_setCell_other _ _ _ _ (by simp; omega), heap_setCell_other _ _ _ _ (by simp; omega), heap_setCell_other _ _ _ _ (by simp; omega), heap_setCell_other _ _ _ _ (by simp; omega), heap_setCell_other _ _ _ _ (by simp; omega)]
      have hsz : (((((((w'.setCell ⟨w.heap.size + 1, 0, none⟩ (.int .i64 yk)).setCell ⟨w.heap.size + 1, 1, none⟩ (.string ynm)).setCell ⟨w.heap.size + 1, 2, none⟩ (.int .i64 yn)).setCell ⟨w.heap.size + 1, 3, none⟩ (.int .i64 ytk)).setCell ⟨w.heap.size + 1, 4, none⟩ (.slice yta ytn ytc)).setCell ⟨w.heap.size + 1, 5, none⟩ (.slice ya ym yc)).setCell ⟨w.heap.size + 1, 6, none⟩ (.slice ga ps.length gc)).heap.size = w'.heap.size := by simp
      have hbF : Below w.heap.size w (((((((w'.setCell ⟨w.heap.size + 1, 0, none⟩ (.int .i64 yk)).setCell ⟨w.heap.size + 1, 1, none⟩ (.string ynm)).setCell ⟨w.heap.size + 1, 2, none⟩ (.int .i64 yn)).setCell ⟨w.heap.size + 1, 3, none⟩ (.int .i64 ytk)).setCell ⟨w.heap.size + 1, 4, none⟩ (.slice yta ytn ytc)).setCell ⟨w.heap.size + 1, 5, none⟩ (.slice ya ym yc)).setCell ⟨w.heap.size + 1, 6, none⟩ (.slice ga ps.length gc)) := ((((((((E2.out.trans (BC.out.mono E2.out.size)).setCell (by simp) _).setCell (by simp) _).setCell (by simp) _).setCell (by simp) _).setCell (by simp) _).setCell (by simp) _).setCell (by simp) _)
      have HX : ∀ W2 : World, w'.heap.size ≤ W2.heap.size → (∀ b, w.heap.size + 2 ≤ b → b < w'.heap.size → W2.heap[b]? = w'.heap[b]?) → ExAt W2 d (.agg #[.int .i64 yk, .string ynm, .int .i64 yn, .int .i64 ytk, .slice yta ytn ytc, .slice ya ym yc]) ex := fun W2 hs hk => (HT.out.kept (Nat.le_trans KT.out.size hs) fun b hb => by
        have h1 := HF.out.2 b hb
        have h2 := LT.out
        have h3 := KT.out.size
        rw [hk b (by omega) (by omega), KT.out.block b h1.2]).at_
      have HI : ∀ W2 : World, w'.heap.size ≤ W2.heap.size → (∀ b, w.heap.size + 2 ≤ b → b < w'.heap.size → W2.heap[b]? = w'.heap[b]?) → Ints W2 (.slice ga ps.length gc) ps := fun W2 hs hk => HG.out _ fun b h1 h2 => by
        have h3 := LG.out
        have h4 := KG.out.size
        rw [hk b (by omega) (by omega), KG.out.block b h2]
      have g0 := XRF.2 0
      have g1 := XRF.2 1
      have g2 := XRF.2 2
      have g3 := XRF.2 3
      have g4 := XRF.2 4
      have g5 := XRF.2 5
      have g6 := XRF.2 6
      clear XRF
      generalize (((((((w'.setCell ⟨w.heap.size + 1, 0, none⟩ (.int .i64 yk)).setCell ⟨w.heap.size + 1, 1, none⟩ (.string ynm)).setCell ⟨w.heap.size + 1, 2, none⟩ (.int .i64 yn)).setCell ⟨w.heap.size + 1, 3, none⟩ (.int .i64 ytk)).setCell ⟨w.heap.size + 1, 4, none⟩ (.slice yta ytn ytc)).setCell ⟨w.heap.size + 1, 5, none⟩ (.slice ya ym yc)).setCell ⟨w.heap.size + 1, 6, none⟩ (.slice ga ps.length gc)) = WX at g0 g1 g2 g3 g4 g5 g6 KF hsz hbF ⊢
      refine bodyPost_ret (v := .agg #[.int .i64 yk, .string ynm, .int .i64 yn, .int .i64 ytk, .slice yta ytn ytc, .slice ya ym yc, .slice ga ps.length gc]) (by simp [results, Try.results64, go_sem, g0, g1, g2, g3, g4, g5, g6]) rfl ?_
      exact ⟨_, rfl, fun w2 hs2 hk2 => ⟨_, _, _, _, _, _, _, _, _, _, _, _, _, rfl, HX w2 (by rw [hsz] at hs2; exact hs2) (fun b hb hl2 => by rw [hk2 b (by omega) (by rw [hsz]; exact hl2), KF b hb]), HI w2 (by rw [hsz] at hs2; exact hs2) (fun b hb hl2 => by rw [hk2 b (by omega) (by rw [hsz]; exact hl2), KF b hb]), hl⟩, hbF⟩)
end Go.Proofs.Yteeojgefnoaajaa
/-
  Proved: spec.StartHistory and impl.StartHistory give a history of the one edit; laws.eqHistory, laws.markHistory and laws.heldHistory on such a history.
-/
namespace Go.Proofs.Yteeojgefnoaajaa
open Go.RowKit

theorem EditIn.wide {w : World} {d : Nat} {v : Value} {a : Edi} {lo hi lo2 hi2 : Nat} (h : EditIn w d v a lo hi) (h1 : lo2 ≤ lo) (h2 : hi ≤ hi2) (h3 : hi2 ≤ w.heap.size) : EditIn w d v a lo2 hi2 := by
  obtain ⟨k, nm, n, tk, ta, tn, tc, sa, sn, sc, pa, pn, pc, mid, hv, he, hp, g1, g2, g3⟩ := h
  exact ⟨k, nm, n, tk, ta, tn, tc, sa, sn, sc, pa, pn, pc, mid, hv, he.wide h1 (Nat.le_refl _) (by omega), hp.wide h2 h3, by omega, by omega, g3⟩
theorem EditIn.cell {w : World} {d : Nat} {v : Value} {a : Edi} {lo hi q j : Nat} {u : Value} (h : EditIn w d v a lo hi) (hq : q < lo) : EditIn (w.setCell ⟨q, j, none⟩ u) d v a lo hi :=
  h.beside (lo2 := q) (hi2 := q + 1) ⟨by simp, fun b _ hor => heap_setCell_other _ _ _ _ (by simp; omega)⟩ (by omega)
theorem EditIn.top {w : World} {d : Nat} {v : Value} {a : Edi} {lo hi : Nat} (h : EditIn w d v a lo hi) : hi ≤ w.heap.size := by
  obtain ⟨k, nm, n, tk, ta, tn, tc, sa, sn, sc, pa, pn, pc, mid, hv, he, hp, g1, g2, g3⟩ := h
  exact hp.2.2
theorem edt_of_edit {w : World} {d : Nat} {v : Value} {t : Edi} (h : EditAt w d v t) : EdtAt w d v ⟨t.ex, t.path⟩ := by
  obtain ⟨k, nm, n, tk, ta, tn, tc, sa, sn, sc, pa, pn, pc, hv, he, hp, hl⟩ := h
  exact ⟨k, nm, n, tk, ta, tn, tc, sa, sn, sc, pa, pn, pc, hv, he, hp, hl⟩
theorem edts_none (w : World) (d : Nat) : EdtsAt w d (.slice none 0 0) [] := ⟨none, 0, rfl, Nat.le_refl _, by omega, fun j h => absurd h (by simp)⟩
theorem eqHis0 (d : Nat) (t : Edi) (w : World) {xk xn xtk : Int} {xnm : ByteArray} {xta xsa xpa : Option Addr} {xtn xtc xsn xsc xpn xpc : Nat} {yk yn ytk : Int} {ynm : ByteArray} {yta ysa ypa : Option Addr} {ytn ytc ysn ysc ypn ypc : Nat} (h : EditAt w d (.agg #[.int .i64 xk, .string xnm, .int .i64 xn, .int .i64 xtk, .slice xta xtn xtc, .slice xsa xsn xsc, .slice xpa xpn xpc]) t) (h' : EditAt w d (.agg #[.int .i64 yk, .string ynm, .int .i64 yn, .int .i64 ytk, .slice yta ytn ytc, .slice ysa ysn ysc, .slice ypa ypn ypc]) t) :
    Calls Try.prog 19 #[.agg #[.slice none 0 0, .int .i64 xk, .string xnm, .int .i64 xn, .int .i64 xtk, .slice xta xtn xtc, .slice xsa xsn xsc, .slice xpa xpn xpc, .slice none 0 0], .agg #[.slice none 0 0, .int .i64 yk, .string ynm, .int .i64 yn, .int .i64 ytk, .slice yta ytn ytc, .slice ysa ysn ysc, .slice ypa ypn ypc, .slice none 0 0]] w (EqTrueEnd w) :=
  eqHis d _ _ ⟨[], ⟨t.ex, t.path⟩, []⟩ w ⟨_, _, _, _, _, _, _, _, _, _, _, _, _, _, _, _, _, _, _, rfl, edts_none _ _, edt_of_edit h, edts_none _ _⟩ ⟨_, _, _, _, _, _, _, _, _, _, _, _, _, _, _, _, _, _, _, rfl, edts_none _ _, edt_of_edit h', edts_none _ _⟩
set_option maxRecDepth 100000 in
set_option maxHeartbeats 1000000 in
theorem markEds0 (k : Int) (w : World) :
    Calls Try.prog 73 #[.slice none 0 0, .int .i64 k] w fun e w' => e = .returned (.int .i64 k) ∧ Below w.heap.size w w' := by
  go_enter Try.func73, Try.ntmps73
  go_wp2_with fail
  go_loop [1, 5] (fun m i => m = .int .i64 k ∧ i = .int .i64 0) (fun _ _ => 0)
  case atStart => exact ⟨rfl, rfl⟩
  case round =>
    obtain ⟨rfl, rfl⟩ := hrel
    go_wp2_with fail
    go_ret
    exact ⟨rfl, Below.refl _ _⟩
set_option maxRecDepth 100000 in
set_option maxHeartbeats 1000000 in
theorem heldEds0 (k : Int) (w : World) :
    Calls Try.prog 74 #[.slice none 0 0, .int .i64 k] w fun e w' => e = .returned (.int .i64 k) ∧ Below w.heap.size w w' := by
  go_enter Try.func74, Try.ntmps74
  go_wp2_with fail
  go_loop [1, 5] (fun m i => m = .int .i64 k ∧ i = .int .i64 0) (fun _ _ => 0)
  case atStart => exact ⟨rfl, rfl⟩
  case round =>
    obtain ⟨rfl, rfl⟩ := hrel
    go_wp2_with fail
    go_ret
    exact ⟨rfl, Below.refl _ _⟩
set_option maxRecDepth 100000 in
set_option maxHeartbeats 4000000 in
theorem specStart (d : Nat) (v : Value) (t : Edi) (w : World) (h : EditAt w d v t) (hsz : t.bulk ≤ 1048576) :
    Calls Try.prog 16 #[v] w fun e w' => ∃ yk ynm yn ytk yta ytn ytc ysa ysn ysc ypa ypn ypc, e = .returned (.agg #[.slice none 0 0, .int .i64 yk, .string ynm, .int .i64 yn, .int .i64 ytk, .slice yta ytn ytc, .slice ysa ysn ysc, .slice ypa ypn ypc, .slice none 0 0]) ∧ EditAt w' d (.agg #[.int .i64 yk, .string ynm, .int .i64 yn, .int .i64 ytk, .slice yta ytn ytc, .slice ysa ysn ysc, .slice ypa ypn ypc]) t ∧ Below w.heap.size w w' := by
  obtain ⟨xk, xnm, xn, xtk, xta, xtn, xtc, xsa, xsn, xsc, xpa, xpn, xpc, rfl⟩ := edit_parts h
  have B : Hid (Below w.heap.size w ((w.alloc (.cells #[.int .i64 xk, .string xnm, .int .i64 xn, .int .i64 xtk, .slice xta xtn xtc, .slice xsa xsn xsc, .slice xpa xpn xpc] 57)).alloc (.cells #[.slice none 0 0, .int .i64 0, .string ⟨#[]⟩, .int .i64 0, .int .i64 0, .slice none 0 0, .slice none 0 0, .slice none 0 0, .slice none 0 0] 59))) := ((Below.refl _ _).alloc (Nat.le_refl _) _).alloc (by simp) _
  have XA : Hid (BoxAt ((w.alloc (.cells #[.int .i64 xk, .string xnm, .int .i64 xn, .int .i64 xtk, .slice xta xtn xtc, .slice xsa xsn xsc, .slice xpa xpn xpc] 57)).alloc (.cells #[.slice none 0 0, .int .i64 0, .string ⟨#[]⟩, .int .i64 0, .int .i64 0, .slice none 0 0, .slice none 0 0, .slice none 0 0, .slice none 0 0] 59)) w.heap.size #[.int .i64 xk, .string xnm, .int .i64 xn, .int .i64 xtk, .slice xta xtn xtc, .slice xsa xsn xsc, .slice xpa xpn xpc]) := (BoxAt.new _ _ _).below (below_alloc _ _)
  have XR : Hid (BoxAt ((w.alloc (.cells #[.int .i64 xk, .string xnm, .int .i64 xn, .int .i64 xtk, .slice xta xtn xtc, .slice xsa xsn xsc, .slice xpa xpn xpc] 57)).alloc (.cells #[.slice none 0 0, .int .i64 0, .string ⟨#[]⟩, .int .i64 0, .int .i64 0, .slice none 0 0, .slice none 0 0, .slice none 0 0, .slice none 0 0] 59)) (w.heap.size + 1) #[.slice none 0 0, .int .i64 0, .string ⟨#[]⟩, .int .i64 0, .int .i64 0, .slice none 0 0, .slice none 0 0, .slice none 0 0, .slice none 0 0]) := box_at (BoxAt.new _ _ _) (by simp)
  have FR : Hid (FreeAt ((w.alloc (.cells #[.int .i64 xk, .string xnm, .int .i64 xn, .int .i64 xtk, .slice xta xtn xtc, .slice xsa xsn xsc, .slice xpa xpn xpc] 57)).alloc (.cells #[.slice none 0 0, .int .i64 0, .string ⟨#[]⟩, .int .i64 0, .int .i64 0, .slice none 0 0, .slice none 0 0, .slice none 0 0, .slice none 0 0] 59)) (w.heap.size + 1)) := free_at (FreeAt.new _ _ _) (by simp)
  have hz2 : ((w.alloc (.cells #[.int .i64 xk, .string xnm, .int .i64 xn, .int .i64 xtk, .slice xta xtn xtc, .slice xsa xsn xsc, .slice xpa xpn xpc] 57)).alloc (.cells #[.slice none 0 0, .int .i64 0, .string ⟨#[]⟩, .int .i64 0, .int .i64 0, .slice none 0 0, .slice none 0 0, .slice none 0 0, .slice none 0 0] 59)).heap.size = w.heap.size + 2 := by simp
  have HA := Lib.hid (h.below B.out)
  clear h
  go_enter Try.func16, Try.ntmps16
  go_upto_region 1 with fail
  generalize ((w.alloc (.cells #[.int .i64 xk, .string xnm, .int .i64 xn, .int .i64 xtk, .slice xta xtn xtc, .slice xsa xsn xsc, .slice xpa xpn xpc] 57)).alloc (.cells #[.slice none 0 0, .int .i64 0, .string ⟨#[]⟩, .int .i64 0, .int .i64 0, .slice none 0 0, .slice none 0 0, .slice none 0 0, .slice none 0 0] 59)) = w2 at B XA XR FR hz2 HA ⊢
  have x0 := XA.out.2 0
  have x1 := XA.out.2 1
  have x2 := XA.out.2 2
  have x3 := XA.out.2 3
  have x4 := XA.out.2 4
  have x5 := XA.out.2 5
  have x6 := XA.out.2 6
  go_wp2_with fail
  clear x0 x1 x2 x3 x4 x5 x6
  refine (specCopyEdit d _ t _ HA.out hsz).mono ?_
  rintro e w5 ⟨v5, rfl, hv, hb⟩
  obtain ⟨zk, znm, zn, ztk, zta, ztn, ztc, zsa, zsn, zsc, zpa, zpn, zpc, rfl⟩ := edit_parts hv.at_
  have HV := Lib.hid hv
  have hz5 := hb.size
  replace B := Lib.hid (below_thru B.out (Nat.le_refl _) hb)
  replace XR := Lib.hid (XR.out.below hb)
  replace FR := Lib.hid (FR.out.below hb)
  clear hv hb XA HA
  have r0 := XR.out.2 0
  have s0 := FR.out.2 0
  have r1 := XR.out.2 1
  have s1 := FR.out.2 1
  have r2 := XR.out.2 2
  have s2 := FR.out.2 2
  have r3 := XR.out.2 3
  have s3 := FR.out.2 3
  have r4 := XR.out.2 4
  have s4 := FR.out.2 4
  have r5 := XR.out.2 5
  have s5 := FR.out.2 5
  have r6 := XR.out.2 6
  have s6 := FR.out.2 6
  have r7 := XR.out.2 7
  have s7 := FR.out.2 7
  have r8 := XR.out.2 8
  have s8 := FR.out.2 8
  go_wp2_with fail
  clear r0 s0 r1 s1 r2 s2 r3 s3 r4 s4 r5 s5 r6 s6 r7 s7 r8 s8
  have XF : BoxAt (((((((((w5.setCell ⟨w.heap.size + 1, 0, none⟩ (.slice none 0 0)).setCell ⟨w.heap.size + 1, 1, none⟩ (.int .i64 zk)).setCell ⟨w.heap.size + 1, 2, none⟩ (.string znm)).setCell ⟨w.heap.size + 1, 3, none⟩ (.int .i64 zn)).setCell ⟨w.heap.size + 1, 4, none⟩ (.int .i64 ztk)).setCell ⟨w.heap.size + 1, 5, none⟩ (.slice zta ztn ztc)).setCell ⟨w.heap.size + 1, 6, none⟩ (.slice zsa zsn zsc)).setCell ⟨w.heap.size + 1, 7, none⟩ (.slice zpa zpn zpc)).setCell ⟨w.heap.size + 1, 8, none⟩ (.slice none 0 0)) (w.heap.size + 1) #[.slice none 0 0, .int .i64 zk, .string znm, .int .i64 zn, .int .i64 ztk, .slice zta ztn ztc, .slice zsa zsn zsc, .slice zpa zpn zpc, .slice none 0 0] := (((((((((XR.out.put (j := 0) (u := .slice none 0 0) (by simp)).put (j := 1) (u := .int .i64 zk) (by simp)).put (j := 2) (u := .string znm) (by simp)).put (j := 3) (u := .int .i64 zn) (by simp)).put (j := 4) (u := .int .i64 ztk) (by simp)).put (j := 5) (u := .slice zta ztn ztc) (by simp)).put (j := 6) (u := .slice zsa zsn zsc) (by simp)).put (j := 7) (u := .slice zpa zpn zpc) (by simp)).put (j := 8) (u := .slice none 0 0) (by simp))
  have BF : Below w.heap.size w (((((((((w5.setCell ⟨w.heap.size + 1, 0, none⟩ (.slice none 0 0)).setCell ⟨w.heap.size + 1, 1, none⟩ (.int .i64 zk)).setCell ⟨w.heap.size + 1, 2, none⟩ (.string znm)).setCell ⟨w.heap.size + 1, 3, none⟩ (.int .i64 zn)).setCell ⟨w.heap.size + 1, 4, none⟩ (.int .i64 ztk)).setCell ⟨w.heap.size + 1, 5, none⟩ (.slice zta ztn ztc)).setCell ⟨w.heap.size + 1, 6, none⟩ (.slice zsa zsn zsc)).setCell ⟨w.heap.size + 1, 7, none⟩ (.slice zpa zpn zpc)).setCell ⟨w.heap.size + 1, 8, none⟩ (.slice none 0 0)) := (((((((((B.out.setCell (by simp) _).setCell (by simp) _).setCell (by simp) _).setCell (by simp) _).setCell (by simp) _).setCell (by simp) _).setCell (by simp) _).setCell (by simp) _).setCell (by simp) _)
  have kp : ∀ b, w2.heap.size ≤ b → b < w5.heap.size → (((((((((w5.setCell ⟨w.heap.size + 1, 0, none⟩ (.slice none 0 0)).setCell ⟨w.heap.size + 1, 1, none⟩ (.int .i64 zk)).setCell ⟨w.heap.size + 1, 2, none⟩ (.string znm)).setCell ⟨w.heap.size + 1, 3, none⟩ (.int .i64 zn)).setCell ⟨w.heap.size + 1, 4, none⟩ (.int .i64 ztk)).setCell ⟨w.heap.size + 1, 5, none⟩ (.slice zta ztn ztc)).setCell ⟨w.heap.size + 1, 6, none⟩ (.slice zsa zsn zsc)).setCell ⟨w.heap.size + 1, 7, none⟩ (.slice zpa zpn zpc)).setCell ⟨w.heap.size + 1, 8, none⟩ (.slice none 0 0)).heap[b]? = w5.heap[b]? := fun b hb2 _ => by
    have hq : b ≠ w.heap.size + 1 := by omega
    rw [heap_setCell_other _ _ _ _ (by simpa using hq), heap_setCell_other _ _ _ _ (by simpa using hq), heap_setCell_other _ _ _ _ (by simpa using hq), heap_setCell_other _ _ _ _ (by simpa using hq), heap_setCell_other _ _ _ _ (by simpa using hq), heap_setCell_other _ _ _ _ (by simpa using hq), heap_setCell_other _ _ _ _ (by simpa using hq), heap_setCell_other _ _ _ _ (by simpa using hq), heap_setCell_other _ _ _ _ (by simpa using hq)]
  have IF : EditAt (((((((((w5.setCell ⟨w.heap.size + 1, 0, none⟩ (.slice none 0 0)).setCell ⟨w.heap.size + 1, 1, none⟩ (.int .i64 zk)).setCell ⟨w.heap.size + 1, 2, none⟩ (.string znm)).setCell ⟨w.heap.size + 1, 3, none⟩ (.int .i64 zn)).setCell ⟨w.heap.size + 1, 4, none⟩ (.int .i64 ztk)).setCell ⟨w.heap.size + 1, 5, none⟩ (.slice zta ztn ztc)).setCell ⟨w.heap.size + 1, 6, none⟩ (.slice zsa zsn zsc)).setCell ⟨w.heap.size + 1, 7, none⟩ (.slice zpa zpn zpc)).setCell ⟨w.heap.size + 1, 8, none⟩ (.slice none 0 0)) d (.agg #[.int .i64 zk, .string znm, .int .i64 zn, .int .i64 ztk, .slice zta ztn ztc, .slice zsa zsn zsc, .slice zpa zpn zpc]) t := (EditUp.kept HV.out (by simp) kp).at_
  generalize (((((((((w5.setCell ⟨w.heap.size + 1, 0, none⟩ (.slice none 0 0)).setCell ⟨w.heap.size + 1, 1, none⟩ (.int .i64 zk)).setCell ⟨w.heap.size + 1, 2, none⟩ (.string znm)).setCell ⟨w.heap.size + 1, 3, none⟩ (.int .i64 zn)).setCell ⟨w.heap.size + 1, 4, none⟩ (.int .i64 ztk)).setCell ⟨w.heap.size + 1, 5, none⟩ (.slice zta ztn ztc)).setCell ⟨w.heap.size + 1, 6, none⟩ (.slice zsa zsn zsc)).setCell ⟨w.heap.size + 1, 7, none⟩ (.slice zpa zpn zpc)).setCell ⟨w.heap.size + 1, 8, none⟩ (.slice none 0 0)) = WX at XF BF IF ⊢
  have h0 := XF.2 0
  have h1 := XF.2 1
  have h2 := XF.2 2
  have h3 := XF.2 3
  have h4 := XF.2 4
  have h5 := XF.2 5
  have h6 := XF.2 6
  have h7 := XF.2 7
  have h8 := XF.2 8
  refine bodyPost_ret (v := .agg #[.slice none 0 0, .int .i64 zk, .string znm, .int .i64 zn, .int .i64 ztk, .slice zta ztn ztc, .slice zsa zsn zsc, .slice zpa zpn zpc, .slice none 0 0]) (by simp [results, Try.results16, go_sem, h0, h1, h2, h3, h4, h5, h6, h7, h8]) rfl ?_
  exact ⟨_, _, _, _, _, _, _, _, _, _, _, _, _, rfl, IF, BF⟩
set_option maxRecDepth 100000 in
set_option maxHeartbeats 4000000 in
theorem implStart (d : Nat) (v : Value) (t : Edi) (w : World) (h : EditAt w d v t) (hsz : t.bulk ≤ 1048576) :
    Calls Try.prog 18 #[v] w fun e w' => ∃ yk ynm yn ytk yta ytn ytc ysa ysn ysc ypa ypn ypc, e = .returned (.agg #[.slice none 0 0, .int .i64 yk, .string ynm, .int .i64 yn, .int .i64 ytk, .slice yta ytn ytc, .slice ysa ysn ysc, .slice ypa ypn ypc, .slice none 0 0]) ∧ EditIn w' d (.agg #[.int .i64 yk, .string ynm, .int .i64 yn, .int .i64 ytk, .slice yta ytn ytc, .slice ysa ysn ysc, .slice ypa ypn ypc]) t w.heap.size w'.heap.size ∧ Below w.heap.size w w' := by
  obtain ⟨xk, xnm, xn, xtk, xta, xtn, xtc, xsa, xsn, xsc, xpa, xpn, xpc, rfl⟩ := edit_parts h
  have B : Hid (Below w.heap.size w ((w.alloc (.cells #[.int .i64 xk, .string xnm, .int .i64 xn, .int .i64 xtk, .slice xta xtn xtc, .slice xsa xsn xsc, .slice xpa xpn xpc] 57)).alloc (.cells #[.slice none 0 0, .int .i64 0, .string ⟨#[]⟩, .int .i64 0, .int .i64 0, .slice none 0 0, .slice none 0 0, .slice none 0 0, .slice none 0 0] 59))) := ((Below.refl _ _).alloc (Nat.le_refl _) _).alloc (by simp) _
  have XA : Hid (BoxAt ((w.alloc (.cells #[.int .i64 xk, .string xnm, .int .i64 xn, .int .i64 xtk, .slice xta xtn xtc, .slice xsa xsn xsc, .slice xpa xpn xpc] 57)).alloc (.cells #[.slice none 0 0, .int .i64 0, .string ⟨#[]⟩, .int .i64 0, .int .i64 0, .slice none 0 0, .slice none 0 0, .slice none 0 0, .slice none 0 0] 59)) w.heap.size #[.int .i64 xk, .string xnm, .int .i64 xn, .int .i64 xtk, .slice xta xtn xtc, .slice xsa xsn xsc, .slice xpa xpn xpc]) := (BoxAt.new _ _ _).below (below_alloc _ _)
  have XR : Hid (BoxAt ((w.alloc (.cells #[.int .i64 xk, .string xnm, .int .i64 xn, .int .i64 xtk, .slice xta xtn xtc, .slice xsa xsn xsc, .slice xpa xpn xpc] 57)).alloc (.cells #[.slice none 0 0, .int .i64 0, .string ⟨#[]⟩, .int .i64 0, .int .i64 0, .slice none 0 0, .slice none 0 0, .slice none 0 0, .slice none 0 0] 59)) (w.heap.size + 1) #[.slice none 0 0, .int .i64 0, .string ⟨#[]⟩, .int .i64 0, .int .i64 0, .slice none 0 0, .slice none 0 0, .slice none 0 0, .slice none 0 0]) := box_at (BoxAt.new _ _ _) (by simp)
  have FR : Hid (FreeAt ((w.alloc (.cells #[.int .i64 xk, .string xnm, .int .i64 xn, .int .i64 xtk, .slice xta xtn xtc, .slice xsa xsn xsc, .slice xpa xpn xpc] 57)).alloc (.cells #[.slice none 0 0, .int .i64 0, .string ⟨#[]⟩, .int .i64 0, .int .i64 0, .slice none 0 0, .slice none 0 0, .slice none 0 0, .slice none 0 0] 59)) (w.heap.size + 1)) := free_at (FreeAt.new _ _ _) (by simp)
  have hz2 : ((w.alloc (.cells #[.int .i64 xk, .string xnm, .int .i64 xn, .int .i64 xtk, .slice xta xtn xtc, .slice xsa xsn xsc, .slice xpa xpn xpc] 57)).alloc (.cells #[.slice none 0 0, .int .i64 0, .string ⟨#[]⟩, .int .i64 0, .int .i64 0, .slice none 0 0, .slice none 0 0, .slice none 0 0, .slice none 0 0] 59)).heap.size = w.heap.size + 2 := by simp
  have HA := Lib.hid (h.below B.out)
  clear h
  go_enter Try.func18, Try.ntmps18
  go_upto_region 1 with fail
  generalize ((w.alloc (.cells #[.int .i64 xk, .string xnm, .int .i64 xn, .int .i64 xtk, .slice xta xtn xtc, .slice xsa xsn xsc, .slice xpa xpn xpc] 57)).alloc (.cells #[.slice none 0 0, .int .i64 0, .string ⟨#[]⟩, .int .i64 0, .int .i64 0, .slice none 0 0, .slice none 0 0, .slice none 0 0, .slice none 0 0] 59)) = w2 at B XA XR FR hz2 HA ⊢
  have x0 := XA.out.2 0
  have x1 := XA.out.2 1
  have x2 := XA.out.2 2
  have x3 := XA.out.2 3
  have x4 := XA.out.2 4
  have x5 := XA.out.2 5
  have x6 := XA.out.2 6
  go_wp2_with fail
  clear x0 x1 x2 x3 x4 x5 x6
  refine (implCopyEdit d _ t _ HA.out hsz).mono ?_
  rintro e w5 ⟨v5, rfl, hv, hb⟩
  obtain ⟨zk, znm, zn, ztk, zta, ztn, ztc, zsa, zsn, zsc, zpa, zpn, zpc, rfl⟩ := edit_parts hv.at_
  have HV := Lib.hid hv
  have hz5 := hb.size
  replace B := Lib.hid (below_thru B.out (Nat.le_refl _) hb)
  replace XR := Lib.hid (XR.out.below hb)
  replace FR := Lib.hid (FR.out.below hb)
  clear hv hb XA HA
  have r0 := XR.out.2 0
  have s0 := FR.out.2 0
  have r1 := XR.out.2 1
  have s1 := FR.out.2 1
  have r2 := XR.out.2 2
  have s2 := FR.out.2 2
  have r3 := XR.out.2 3
  have s3 := FR.out.2 3
  have r4 := XR.out.2 4
  have s4 := FR.out.2 4
  have r5 := XR.out.2 5
  have s5 := FR.out.2 5
  have r6 := XR.out.2 6
  have s6 := FR.out.2 6
  have r7 := XR.out.2 7
  have s7 := FR.out.2 7
  have r8 := XR.out.2 8
  have s8 := FR.out.2 8
  go_wp2_with fail
  clear r0 s0 r1 s1 r2 s2 r3 s3 r4 s4 r5 s5 r6 s6 r7 s7 r8 s8
  have XF : BoxAt (((((((((w5.setCell ⟨w.heap.size + 1, 0, none⟩ (.slice none 0 0)).setCell ⟨w.heap.size + 1, 1, none⟩ (.int .i64 zk)).setCell ⟨w.heap.size + 1, 2, none⟩ (.string znm)).setCell ⟨w.heap.size + 1, 3, none⟩ (.int .i64 zn)).setCell ⟨w.heap.size + 1, 4, none⟩ (.int .i64 ztk)).setCell ⟨w.heap.size + 1, 5, none⟩ (.slice zta ztn ztc)).setCell ⟨w.heap.size + 1, 6, none⟩ (.slice zsa zsn zsc)).setCell ⟨w.heap.size + 1, 7, none⟩ (.slice zpa zpn zpc)).setCell ⟨w.heap.size + 1, 8, none⟩ (.slice none 0 0)) (w.heap.size + 1) #[.slice none 0 0, .int .i64 zk, .string znm, .int .i64 zn, .int .i64 ztk, .slice zta ztn ztc, .slice zsa zsn zsc, .slice zpa zpn zpc, .slice none 0 0] := (((((((((XR.out.put (j := 0) (u := .slice none 0 0) (by simp)).put (j := 1) (u := .int .i64 zk) (by simp)).put (j := 2) (u := .string znm) (by simp)).put (j := 3) (u := .int .i64 zn) (by simp)).put (j := 4) (u := .int .i64 ztk) (by simp)).put (j := 5) (u := .slice zta ztn ztc) (by simp)).put (j := 6) (u := .slice zsa zsn zsc) (by simp)).put (j := 7) (u := .slice zpa zpn zpc) (by simp)).put (j := 8) (u := .slice none 0 0) (by simp))
  have BF : Below w.heap.size w (((((((((w5.setCell ⟨w.heap.size + 1, 0, none⟩ (.slice none 0 0)).setCell ⟨w.heap.size + 1, 1, none⟩ (.int .i64 zk)).setCell ⟨w.heap.size + 1, 2, none⟩ (.string znm)).setCell ⟨w.heap.size + 1, 3, none⟩ (.int .i64 zn)).setCell ⟨w.heap.size + 1, 4, none⟩ (.int .i64 ztk)).setCell ⟨w.heap.size + 1, 5, none⟩ (.slice zta ztn ztc)).setCell ⟨w.heap.size + 1, 6, none⟩ (.slice zsa zsn zsc)).setCell ⟨w.heap.size + 1, 7, none⟩ (.slice zpa zpn zpc)).setCell ⟨w.heap.size + 1, 8, none⟩ (.slice none 0 0)) := (((((((((B.out.setCell (by simp) _).setCell (by simp) _).setCell (by simp) _).setCell (by simp) _).setCell (by simp) _).setCell (by simp) _).setCell (by simp) _).setCell (by simp) _).setCell (by simp) _)
  have hq : w.heap.size + 1 < w2.heap.size := by omega
  have IF : EditIn (((((((((w5.setCell ⟨w.heap.size + 1, 0, none⟩ (.slice none 0 0)).setCell ⟨w.heap.size + 1, 1, none⟩ (.int .i64 zk)).setCell ⟨w.heap.size + 1, 2, none⟩ (.string znm)).setCell ⟨w.heap.size + 1, 3, none⟩ (.int .i64 zn)).setCell ⟨w.heap.size + 1, 4, none⟩ (.int .i64 ztk)).setCell ⟨w.heap.size + 1, 5, none⟩ (.slice zta ztn ztc)).setCell ⟨w.heap.size + 1, 6, none⟩ (.slice zsa zsn zsc)).setCell ⟨w.heap.size + 1, 7, none⟩ (.slice zpa zpn zpc)).setCell ⟨w.heap.size + 1, 8, none⟩ (.slice none 0 0)) d (.agg #[.int .i64 zk, .string znm, .int .i64 zn, .int .i64 ztk, .slice zta ztn ztc, .slice zsa zsn zsc, .slice zpa zpn zpc]) t w.heap.size (((((((((w5.setCell ⟨w.heap.size + 1, 0, none⟩ (.slice none 0 0)).setCell ⟨w.heap.size + 1, 1, none⟩ (.int .i64 zk)).setCell ⟨w.heap.size + 1, 2, none⟩ (.string znm)).setCell ⟨w.heap.size + 1, 3, none⟩ (.int .i64 zn)).setCell ⟨w.heap.size + 1, 4, none⟩ (.int .i64 ztk)).setCell ⟨w.heap.size + 1, 5, none⟩ (.slice zta ztn ztc)).setCell ⟨w.heap.size + 1, 6, none⟩ (.slice zsa zsn zsc)).setCell ⟨w.heap.size + 1, 7, none⟩ (.slice zpa zpn zpc)).setCell ⟨w.heap.size + 1, 8, none⟩ (.slice none 0 0)).heap.size := (((((((((HV.out.cell hq).cell hq).cell hq).cell hq).cell hq).cell hq).cell hq).cell hq).cell hq).wide (by omega) (by simp) (Nat.le_refl _)
  generalize (((((((((w5.setCell ⟨w.heap.size + 1, 0, none⟩ (.slice none 0 0)).setCell ⟨w.heap.size + 1, 1, none⟩ (.int .i64 zk)).setCell ⟨w.heap.size + 1, 2, none⟩ (.string znm)).setCell ⟨w.heap.size + 1, 3, none⟩ (.int .i64 zn)).setCell ⟨w.heap.size + 1, 4, none⟩ (.int .i64 ztk)).setCell ⟨w.heap.size + 1, 5, none⟩ (.slice zta ztn ztc)).setCell ⟨w.heap.size + 1, 6, none⟩ (.slice zsa zsn zsc)).setCell ⟨w.heap.size + 1, 7, none⟩ (.slice zpa zpn zpc)).setCell ⟨w.heap.size + 1, 8, none⟩ (.slice none 0 0)) = WX at XF BF IF ⊢
  have h0 := XF.2 0
  have h1 := XF.2 1
  have h2 := XF.2 2
  have h3 := XF.2 3
  have h4 := XF.2 4
  have h5 := XF.2 5
  have h6 := XF.2 6
  have h7 := XF.2 7
  have h8 := XF.2 8
  refine bodyPost_ret (v := .agg #[.slice none 0 0, .int .i64 zk, .string znm, .int .i64 zn, .int .i64 ztk, .slice zta ztn ztc, .slice zsa zsn zsc, .slice zpa zpn zpc, .slice none 0 0]) (by simp [results, Try.results18, go_sem, h0, h1, h2, h3, h4, h5, h6, h7, h8]) rfl ?_
  exact ⟨_, _, _, _, _, _, _, _, _, _, _, _, _, rfl, IF, BF⟩
set_option maxRecDepth 100000 in
set_option maxHeartbeats 4000000 in
theorem markHis0 (B d : Nat) (t : Edi) (lo hi : Nat) (k0 : Int) (w : World) {xk xn xtk : Int} {xnm : ByteArray} {xta xsa xpa : Option Addr} {xtn xtc xsn xsc xpn xpc : Nat} (hB : B ≤ lo) (hBw : B ≤ w.heap.size) (hk0 : 0 ≤ k0) (hk1 : k0 + t.wt + 1 ≤ 1099511627776) (hn : t.bulk ≤ 1048576) (h : EditIn w d (.agg #[.int .i64 xk, .string xnm, .int .i64 xn, .int .i64 xtk, .slice xta xtn xtc, .slice xsa xsn xsc, .slice xpa xpn xpc]) t lo hi) :
    Calls Try.prog 22 #[.agg #[.slice none 0 0, .int .i64 xk, .string xnm, .int .i64 xn, .int .i64 xtk, .slice xta xtn xtc, .slice xsa xsn xsc, .slice xpa xpn xpc, .slice none 0 0], .int .i64 k0] w fun e w' => e = .returned (.int .i64 (k0 + (t.wt : Int))) ∧ EditIn w' d (.agg #[.int .i64 xk, .string xnm, .int .i64 xn, .int .i64 xtk, .slice xta xtn xtc, .slice xsa xsn xsc, .slice xpa xpn xpc]) (t.markIn k0) lo hi ∧ Below B w w' ∧ Kept lo hi w w' := by
  have B1 : Hid (Below w.heap.size w (w.alloc (.cells #[.slice none 0 0, .int .i64 xk, .string xnm, .int .i64 xn, .int .i64 xtk, .slice xta xtn xtc, .slice xsa xsn xsc, .slice xpa xpn xpc, .slice none 0 0] 59))) := below_alloc _ _
  have XA : Hid (BoxAt (w.alloc (.cells #[.slice none 0 0, .int .i64 xk, .string xnm, .int .i64 xn, .int .i64 xtk, .slice xta xtn xtc, .slice xsa xsn xsc, .slice xpa xpn xpc, .slice none 0 0] 59)) w.heap.size #[.slice none 0 0, .int .i64 xk, .string xnm, .int .i64 xn, .int .i64 xtk, .slice xta xtn xtc, .slice xsa xsn xsc, .slice xpa xpn xpc, .slice none 0 0]) := BoxAt.new _ _ _
  have HE := Lib.hid (h.below B1.out)
  have hz1 : (w.alloc (.cells #[.slice none 0 0, .int .i64 xk, .string xnm, .int .i64 xn, .int .i64 xtk, .slice xta xtn xtc, .slice xsa xsn xsc, .slice xpa xpn xpc, .slice none 0 0] 59)).heap.size = w.heap.size + 1 := by simp
  have hhi := h.top
  clear h
  go_enter Try.func22, Try.ntmps22
  go_upto_region 1 with fail
  generalize (w.alloc (.cells #[.slice none 0 0, .int .i64 xk, .string xnm, .int .i64 xn, .int .i64 xtk, .slice xta xtn xtc, .slice xsa xsn xsc, .slice xpa xpn xpc, .slice none 0 0] 59)) = w1 at B1 XA HE hz1 ⊢
  have x0 := XA.out.2 0
  have x1 := XA.out.2 1
  have x2 := XA.out.2 2
  have x3 := XA.out.2 3
  have x4 := XA.out.2 4
  have x5 := XA.out.2 5
  have x6 := XA.out.2 6
  have x7 := XA.out.2 7
  have x8 := XA.out.2 8
  go_wp2_with fail
  clear x0 x1 x2 x3 x4 x5 x6 x7 x8
  refine (markEds0 k0 _).mono ?_
  rintro e w2 ⟨rfl, hb⟩
  have hz2 := hb.size
  replace B1 := Lib.hid (below_thru B1.out (Nat.le_refl _) hb)
  replace XA := Lib.hid (XA.out.below hb)
  replace HE := Lib.hid (HE.out.below hb)
  clear hb
  have x0 := XA.out.2 0
  have x1 := XA.out.2 1
  have x2 := XA.out.2 2
  have x3 := XA.out.2 3
  have x4 := XA.out.2 4
  have x5 := XA.out.2 5
  have x6 := XA.out.2 6
  have x7 := XA.out.2 7
  have x8 := XA.out.2 8
  go_wp2_with fail
  clear x0 x1 x2 x3 x4 x5 x6 x7 x8
  refine (markEditIn B d _ t lo hi k0 _ hB (by omega) hk0 hk1 hn HE.out).mono ?_
  rintro e w3 ⟨rfl, hm, hb3, hk3⟩
  have XA3 := Lib.hid (XA.out.beside hk3 (by omega))
  have HM := Lib.hid hm
  have HB3 := Lib.hid hb3
  have HK3 := Lib.hid hk3
  clear hm hb3 hk3 XA
  obtain ⟨q, hq⟩ : ∃ q : Int, q = k0 + (t.wt : Int) := ⟨_, rfl⟩
  rw [← hq]
  have HQQ := Lib.hid hq
  clear hq
  have x0 := XA3.out.2 0
  have x1 := XA3.out.2 1
  have x2 := XA3.out.2 2
  have x3 := XA3.out.2 3
  have x4 := XA3.out.2 4
  have x5 := XA3.out.2 5
  have x6 := XA3.out.2 6
  have x7 := XA3.out.2 7
  have x8 := XA3.out.2 8
  go_wp2_with fail
  clear x0 x1 x2 x3 x4 x5 x6 x7 x8
  refine (markEds0 q _).mono ?_
  rintro e w4 ⟨rfl, hb⟩
  go_wp2_with fail
  go_ret
  have hbw : Below w.heap.size w w2 := B1.out
  refine ⟨by show Ending.returned (Value.int .i64 q) = _; rw [HQQ.out], HM.out.below hb, (hbw.mono hBw).trans (HB3.out.trans (hb.mono ?_)), ?_⟩
  · have := HK3.out.1; omega
  · exact (Kept.of_below hbw HK3.out).onto hb
set_option maxRecDepth 100000 in
set_option maxHeartbeats 4000000 in
theorem heldHis0 (d : Nat) (t : Edi) (k0 : Int) (w : World) {xk xn xtk : Int} {xnm : ByteArray} {xta xsa xpa : Option Addr} {xtn xtc xsn xsc xpn xpc : Nat} (hk0 : 0 ≤ k0) (hk1 : k0 + t.wt + 1 ≤ 1099511627776) (hn : t.bulk ≤ 1048576) (h : EditAt w d (.agg #[.int .i64 xk, .string xnm, .int .i64 xn, .int .i64 xtk, .slice xta xtn xtc, .slice xsa xsn xsc, .slice xpa xpn xpc]) (t.markIn k0)) :
    Calls Try.prog 23 #[.agg #[.slice none 0 0, .int .i64 xk, .string xnm, .int .i64 xn, .int .i64 xtk, .slice xta xtn xtc, .slice xsa xsn xsc, .slice xpa xpn xpc, .slice none 0 0], .int .i64 k0] w fun e w' => e = .returned (.int .i64 (k0 + (t.wt : Int))) ∧ Below w.heap.size w w' := by
  have B1 : Hid (Below w.heap.size w (w.alloc (.cells #[.slice none 0 0, .int .i64 xk, .string xnm, .int .i64 xn, .int .i64 xtk, .slice xta xtn xtc, .slice xsa xsn xsc, .slice xpa xpn xpc, .slice none 0 0] 59))) := below_alloc _ _
  have XA : Hid (BoxAt (w.alloc (.cells #[.slice none 0 0, .int .i64 xk, .string xnm, .int .i64 xn, .int .i64 xtk, .slice xta xtn xtc, .slice xsa xsn xsc, .slice xpa xpn xpc, .slice none 0 0] 59)) w.heap.size #[.slice none 0 0, .int .i64 xk, .string xnm, .int .i64 xn, .int .i64 xtk, .slice xta xtn xtc, .slice xsa xsn xsc, .slice xpa xpn xpc, .slice none 0 0]) := BoxAt.new _ _ _
  have HE := Lib.hid (h.below B1.out)
  clear h
  go_enter Try.func23, Try.ntmps23
  go_upto_region 1 with fail
  generalize (w.alloc (.cells #[.slice none 0 0, .int .i64 xk, .string xnm, .int .i64 xn, .int .i64 xtk, .slice xta xtn xtc, .slice xsa xsn xsc, .slice xpa xpn xpc, .slice none 0 0] 59)) = w1 at B1 XA HE ⊢
  have x0 := XA.out.2 0
  have x1 := XA.out.2 1
  have x2 := XA.out.2 2
  have x3 := XA.out.2 3
  have x4 := XA.out.2 4
  have x5 := XA.out.2 5
  have x6 := XA.out.2 6
  have x7 := XA.out.2 7
  have x8 := XA.out.2 8
  go_wp2_with fail
  clear x0 x1 x2 x3 x4 x5 x6 x7 x8
  refine (heldEds0 k0 _).mono ?_
  rintro e w2 ⟨rfl, hb⟩
  replace B1 := Lib.hid (below_thru B1.out (Nat.le_refl _) hb)
  replace XA := Lib.hid (XA.out.below hb)
  replace HE := Lib.hid (HE.out.below hb)
  clear hb
  have x0 := XA.out.2 0
  have x1 := XA.out.2 1
  have x2 := XA.out.2 2
  have x3 := XA.out.2 3
  have x4 := XA.out.2 4
  have x5 := XA.out.2 5
  have x6 := XA.out.2 6
  have x7 := XA.out.2 7
  have x8 := XA.out.2 8
  go_wp2_with fail
  clear x0 x1 x2 x3 x4 x5 x6 x7 x8
  refine (heldEdit d _ t k0 _ hk0 hk1 hn HE.out).mono ?_
  rintro e w3 ⟨rfl, hb⟩
  replace B1 := Lib.hid (below_thru B1.out (Nat.le_refl _) hb)
  replace XA := Lib.hid (XA.out.below hb)
  clear hb HE
  obtain ⟨q, hq⟩ : ∃ q : Int, q = k0 + (t.wt : Int) := ⟨_, rfl⟩
  rw [← hq]
  have hq0 : 0 ≤ q := by omega
  have HQQ := Lib.hid hq
  clear hq hk1
  have x0 := XA.out.2 0
  have x1 := XA.out.2 1
  have x2 := XA.out.2 2
  have x3 := XA.out.2 3
  have x4 := XA.out.2 4
  have x5 := XA.out.2 5
  have x6 := XA.out.2 6
  have x7 := XA.out.2 7
  have x8 := XA.out.2 8
  go_wp2_with fail
  clear x0 x1 x2 x3 x4 x5 x6 x7 x8
  refine (heldEds0 q _).mono ?_
  rintro e w4 ⟨rfl, hb⟩
  replace B1 := Lib.hid (below_thru B1.out (Nat.le_refl _) hb)
  clear hb
  go_wp2_with fail
  go_ret
  exact ⟨by show Ending.returned (Value.int .i64 q) = _; rw [HQQ.out], B1.out⟩
end Go.Proofs.Yteeojgefnoaajaa
/-
  Proved: the law FnExactStartHistory answers true for every edit, and leaves the memory that was there as it was.
-/
namespace Go.Proofs.Yteeojgefnoaajaa
open Go.RowKit

set_option maxRecDepth 100000 in
set_option maxHeartbeats 4000000 in
theorem startHistoryWalk (d : Nat) (v1 : Value) (t1 : Edi) (w : World) (h1 : EditAt w d v1 t1) :
    Calls Try.prog 4 #[v1] w fun e w' => e = .returned (.bool true) ∧ Below w.heap.size w w' := by
  obtain ⟨ak, am, an, atk, ata, atn, atc, asa, asn, asc, apa, apn, apc, rfl⟩ := edit_parts h1
  have B : Hid (Below w.heap.size w (w.alloc (.cells #[.int .i64 ak, .string am, .int .i64 an, .int .i64 atk, .slice ata atn atc, .slice asa asn asc, .slice apa apn apc] 50))) := below_alloc _ _
  have HA10 := Lib.hid h1
  have HA1 := Lib.hid (h1.below B.out)
  have XA1 : Hid (BoxAt (w.alloc (.cells #[.int .i64 ak, .string am, .int .i64 an, .int .i64 atk, .slice ata atn atc, .slice asa asn asc, .slice apa apn apc] 50)) (w.heap.size) #[.int .i64 ak, .string am, .int .i64 an, .int .i64 atk, .slice ata atn atc, .slice asa asn asc, .slice apa apn apc]) := BoxAt.new _ _ _
  clear h1
  go_enter Try.func4, Try.ntmps4
  go_wp2_with fail
  refine (szEdit d _ t1 1048576 _ (by omega) (by omega) HA1.out).mono ?_
  rintro e w1 ⟨r1, rfl, hb, hr1⟩
  have hz1 := hb.size
  try simp only [World.size_alloc] at hz1
  try simp only [World.size_drew] at hz1
  replace B := Lib.hid (below_thru B.out (Nat.le_refl _) hb)
  replace HA1 := Lib.hid (HA1.out.below hb)
  replace XA1 := Lib.hid (XA1.out.below hb)
  clear hb
  rcases hr1 with ⟨hr1, hs1⟩ | ⟨hr1, hs1⟩
  · go_wp2_with fail
    go_ret
    exact ⟨rfl, B.out⟩
  have hn1 : t1.bulk ≤ 1048576 := by omega
  have hwt1 : t1.wt ≤ 6291456 := by
    have := t1.ex.wt_le
    have h2 : t1.bulk = t1.ex.bulk + t1.path.length := rfl
    show t1.ex.wt + t1.path.length ≤ _
    omega
  clear hs1
  have cXA1_0 := XA1.out.2 0
  have cXA1_1 := XA1.out.2 1
  have cXA1_2 := XA1.out.2 2
  have cXA1_3 := XA1.out.2 3
  have cXA1_4 := XA1.out.2 4
  have cXA1_5 := XA1.out.2 5
  have cXA1_6 := XA1.out.2 6
  go_wp2_with fail
  clear cXA1_0 cXA1_1 cXA1_2 cXA1_3 cXA1_4 cXA1_5 cXA1_6
  refine (toEditIn d _ t1 _ hn1 HA1.out).mono ?_
  rintro e w2 ⟨s, rfl, ht, hb⟩
  have hz2 := hb.size
  try simp only [World.size_alloc] at hz2
  try simp only [World.size_drew] at hz2
  replace B := Lib.hid (below_thru B.out (Nat.le_refl _) hb)
  replace HA1 := Lib.hid (HA1.out.below hb)
  replace XA1 := Lib.hid (XA1.out.below hb)
  clear hb
  have Hs := Lib.hid ht.at_
  clear ht
  have cXA1_0 := XA1.out.2 0
  have cXA1_1 := XA1.out.2 1
  have cXA1_2 := XA1.out.2 2
  have cXA1_3 := XA1.out.2 3
  have cXA1_4 := XA1.out.2 4
  have cXA1_5 := XA1.out.2 5
  have cXA1_6 := XA1.out.2 6
  go_wp2_with fail
  clear cXA1_0 cXA1_1 cXA1_2 cXA1_3 cXA1_4 cXA1_5 cXA1_6
  refine (specStart d _ t1 _ Hs.out hn1).mono ?_
  rintro e w4 ⟨uk, um, un, utk, uta, utn, utc, usa, usn, usc, upa, upn, upc, rfl, hi, hb⟩
  have hz4 := hb.size
  try simp only [World.size_alloc] at hz4
  try simp only [World.size_drew] at hz4
  replace B := Lib.hid (below_thru B.out (Nat.le_refl _) hb)
  replace HA1 := Lib.hid (HA1.out.below hb)
  replace XA1 := Lib.hid (XA1.out.below hb)
  replace Hs := Lib.hid (Hs.out.below hb)
  clear hb
  have Hu0 := Lib.hid hi
  have Hu := Lib.hid hi
  have S4 := Lib.hid (Since.refl w4)
  clear hi
  have Xu : Hid (BoxAt (w4.alloc (.cells #[.slice none 0 0, .int .i64 uk, .string um, .int .i64 un, .int .i64 utk, .slice uta utn utc, .slice usa usn usc, .slice upa upn upc, .slice none 0 0] 59)) w4.heap.size #[.slice none 0 0, .int .i64 uk, .string um, .int .i64 un, .int .i64 utk, .slice uta utn utc, .slice usa usn usc, .slice upa upn upc, .slice none 0 0]) := BoxAt.new _ _ _
  have hb := below_alloc w4 (.cells #[.slice none 0 0, .int .i64 uk, .string um, .int .i64 un, .int .i64 utk, .slice uta utn utc, .slice usa usn usc, .slice upa upn upc, .slice none 0 0] 59)
  replace B := Lib.hid (below_thru B.out (Nat.le_refl _) hb)
  replace HA1 := Lib.hid (HA1.out.below hb)
  replace XA1 := Lib.hid (XA1.out.below hb)
  replace Hs := Lib.hid (Hs.out.below hb)
  replace S4 := Lib.hid (S4.out.below hb)
  replace Hu := Lib.hid (Hu.out.below hb)
  clear hb
  clear Hs
  have cXA1_0 := XA1.out.2 0
  have cXA1_1 := XA1.out.2 1
  have cXA1_2 := XA1.out.2 2
  have cXA1_3 := XA1.out.2 3
  have cXA1_4 := XA1.out.2 4
  have cXA1_5 := XA1.out.2 5
  have cXA1_6 := XA1.out.2 6
  have cXu_0 := Xu.out.2 0
  have cXu_1 := Xu.out.2 1
  have cXu_2 := Xu.out.2 2
  have cXu_3 := Xu.out.2 3
  have cXu_4 := Xu.out.2 4
  have cXu_5 := Xu.out.2 5
  have cXu_6 := Xu.out.2 6
  have cXu_7 := Xu.out.2 7
  have cXu_8 := Xu.out.2 8
  go_wp2_with fail
  clear cXA1_0 cXA1_1 cXA1_2 cXA1_3 cXA1_4 cXA1_5 cXA1_6 cXu_0 cXu_1 cXu_2 cXu_3 cXu_4 cXu_5 cXu_6 cXu_7 cXu_8
  refine (toEditIn d _ t1 _ hn1 HA1.out).mono ?_
  rintro e w5 ⟨x, rfl, ht, hb⟩
  have hz5 := hb.size
  try simp only [World.size_alloc] at hz5
  try simp only [World.size_drew] at hz5
  try simp only [World.size_alloc] at ht
  replace B := Lib.hid (below_thru B.out (Nat.le_refl _) hb)
  replace HA1 := Lib.hid (HA1.out.below hb)
  replace XA1 := Lib.hid (XA1.out.below hb)
  replace S4 := Lib.hid (S4.out.below hb)
  replace Hu := Lib.hid (Hu.out.below hb)
  replace Xu := Lib.hid (Xu.out.below hb)
  clear hb
  obtain ⟨xk, xm, xn, xtk, xta, xtn, xtc, xsa, xsn, xsc, xpa, xpn, xpc, rfl⟩ := edit_parts ht.at_
  have Hx := Lib.hid ht
  clear ht
  have Xx : Hid (BoxAt (w5.alloc (.cells #[.int .i64 xk, .string xm, .int .i64 xn, .int .i64 xtk, .slice xta xtn xtc, .slice xsa xsn xsc, .slice xpa xpn xpc] 57)) w5.heap.size #[.int .i64 xk, .string xm, .int .i64 xn, .int .i64 xtk, .slice xta xtn xtc, .slice xsa xsn xsc, .slice xpa xpn xpc]) := BoxAt.new _ _ _
  have hb := below_alloc w5 (.cells #[.int .i64 xk, .string xm, .int .i64 xn, .int .i64 xtk, .slice xta xtn xtc, .slice xsa xsn xsc, .slice xpa xpn xpc] 57)
  replace B := Lib.hid (below_thru B.out (Nat.le_refl _) hb)
  replace HA1 := Lib.hid (HA1.out.below hb)
  replace XA1 := Lib.hid (XA1.out.below hb)
  replace S4 := Lib.hid (S4.out.below hb)
  replace Hu := Lib.hid (Hu.out.below hb)
  replace Xu := Lib.hid (Xu.out.below hb)
  replace Hx := Lib.hid (Hx.out.below hb)
  clear hb
  have cXA1_0 := XA1.out.2 0
  have cXA1_1 := XA1.out.2 1
  have cXA1_2 := XA1.out.2 2
  have cXA1_3 := XA1.out.2 3
  have cXA1_4 := XA1.out.2 4
  have cXA1_5 := XA1.out.2 5
  have cXA1_6 := XA1.out.2 6
  have cXu_0 := Xu.out.2 0
  have cXu_1 := Xu.out.2 1
  have cXu_2 := Xu.out.2 2
  have cXu_3 := Xu.out.2 3
  have cXu_4 := Xu.out.2 4
  have cXu_5 := Xu.out.2 5
  have cXu_6 := Xu.out.2 6
  have cXu_7 := Xu.out.2 7
  have cXu_8 := Xu.out.2 8
  have cXx_0 := Xx.out.2 0
  have cXx_1 := Xx.out.2 1
  have cXx_2 := Xx.out.2 2
  have cXx_3 := Xx.out.2 3
  have cXx_4 := Xx.out.2 4
  have cXx_5 := Xx.out.2 5
  have cXx_6 := Xx.out.2 6
  go_wp2_with fail
  clear cXA1_0 cXA1_1 cXA1_2 cXA1_3 cXA1_4 cXA1_5 cXA1_6 cXu_0 cXu_1 cXu_2 cXu_3 cXu_4 cXu_5 cXu_6 cXu_7 cXu_8 cXx_0 cXx_1 cXx_2 cXx_3 cXx_4 cXx_5 cXx_6
  have HxAT := Lib.hid Hx.out.at_
  refine (implStart d _ t1 _ HxAT.out hn1).mono ?_
  rintro e w7 ⟨gk, gm, gn, gtk, gta, gtn, gtc, gsa, gsn, gsc, gpa, gpn, gpc, rfl, hi, hb⟩
  have hz7 := hb.size
  try simp only [World.size_alloc] at hz7
  try simp only [World.size_drew] at hz7
  replace B := Lib.hid (below_thru B.out (Nat.le_refl _) hb)
  replace HA1 := Lib.hid (HA1.out.below hb)
  replace XA1 := Lib.hid (XA1.out.below hb)
  replace S4 := Lib.hid (S4.out.below hb)
  replace Hu := Lib.hid (Hu.out.below hb)
  replace Xu := Lib.hid (Xu.out.below hb)
  replace Hx := Lib.hid (Hx.out.below hb)
  replace Xx := Lib.hid (Xx.out.below hb)
  clear hb
  try simp only [World.size_alloc] at hi
  try simp only [World.size_drew] at hi
  have Hg := Lib.hid hi
  clear hi
  have Xg : Hid (BoxAt (w7.alloc (.cells #[.slice none 0 0, .int .i64 gk, .string gm, .int .i64 gn, .int .i64 gtk, .slice gta gtn gtc, .slice gsa gsn gsc, .slice gpa gpn gpc, .slice none 0 0] 59)) w7.heap.size #[.slice none 0 0, .int .i64 gk, .string gm, .int .i64 gn, .int .i64 gtk, .slice gta gtn gtc, .slice gsa gsn gsc, .slice gpa gpn gpc, .slice none 0 0]) := BoxAt.new _ _ _
  have hb := below_alloc w7 (.cells #[.slice none 0 0, .int .i64 gk, .string gm, .int .i64 gn, .int .i64 gtk, .slice gta gtn gtc, .slice gsa gsn gsc, .slice gpa gpn gpc, .slice none 0 0] 59)
  replace B := Lib.hid (below_thru B.out (Nat.le_refl _) hb)
  replace HA1 := Lib.hid (HA1.out.below hb)
  replace XA1 := Lib.hid (XA1.out.below hb)
  replace S4 := Lib.hid (S4.out.below hb)
  replace Hu := Lib.hid (Hu.out.below hb)
  replace Xu := Lib.hid (Xu.out.below hb)
  replace Hx := Lib.hid (Hx.out.below hb)
  replace Xx := Lib.hid (Xx.out.below hb)
  replace Hg := Lib.hid (Hg.out.below hb)
  clear hb
  clear HxAT
  have cXA1_0 := XA1.out.2 0
  have cXA1_1 := XA1.out.2 1
  have cXA1_2 := XA1.out.2 2
  have cXA1_3 := XA1.out.2 3
  have cXA1_4 := XA1.out.2 4
  have cXA1_5 := XA1.out.2 5
  have cXA1_6 := XA1.out.2 6
  have cXu_0 := Xu.out.2 0
  have cXu_1 := Xu.out.2 1
  have cXu_2 := Xu.out.2 2
  have cXu_3 := Xu.out.2 3
  have cXu_4 := Xu.out.2 4
  have cXu_5 := Xu.out.2 5
  have cXu_6 := Xu.out.2 6
  have cXu_7 := Xu.out.2 7
  have cXu_8 := Xu.out.2 8
  have cXx_0 := Xx.out.2 0
  have cXx_1 := Xx.out.2 1
  have cXx_2 := Xx.out.2 2
  have cXx_3 := Xx.out.2 3
  have cXx_4 := Xx.out.2 4
  have cXx_5 := Xx.out.2 5
  have cXx_6 := Xx.out.2 6
  have cXg_0 := Xg.out.2 0
  have cXg_1 := Xg.out.2 1
  have cXg_2 := Xg.out.2 2
  have cXg_3 := Xg.out.2 3
  have cXg_4 := Xg.out.2 4
  have cXg_5 := Xg.out.2 5
  have cXg_6 := Xg.out.2 6
  have cXg_7 := Xg.out.2 7
  have cXg_8 := Xg.out.2 8
  go_wp2_with fail
  clear cXA1_0 cXA1_1 cXA1_2 cXA1_3 cXA1_4 cXA1_5 cXA1_6 cXu_0 cXu_1 cXu_2 cXu_3 cXu_4 cXu_5 cXu_6 cXu_7 cXu_8 cXx_0 cXx_1 cXx_2 cXx_3 cXx_4 cXx_5 cXx_6 cXg_0 cXg_1 cXg_2 cXg_3 cXg_4 cXg_5 cXg_6 cXg_7 cXg_8
  refine (eqHis0 d t1 _ Hg.out.at_ Hu.out).mono ?_
  rintro e w8 ⟨rfl, hb⟩
  have hz8 := hb.size
  try simp only [World.size_alloc] at hz8
  try simp only [World.size_drew] at hz8
  replace B := Lib.hid (below_thru B.out (Nat.le_refl _) hb)
  replace HA1 := Lib.hid (HA1.out.below hb)
  replace XA1 := Lib.hid (XA1.out.below hb)
  replace S4 := Lib.hid (S4.out.below hb)
  replace Hu := Lib.hid (Hu.out.below hb)
  replace Xu := Lib.hid (Xu.out.below hb)
  replace Hx := Lib.hid (Hx.out.below hb)
  replace Xx := Lib.hid (Xx.out.below hb)
  replace Hg := Lib.hid (Hg.out.below hb)
  replace Xg := Lib.hid (Xg.out.below hb)
  clear hb
  have cXA1_0 := XA1.out.2 0
  have cXA1_1 := XA1.out.2 1
  have cXA1_2 := XA1.out.2 2
  have cXA1_3 := XA1.out.2 3
  have cXA1_4 := XA1.out.2 4
  have cXA1_5 := XA1.out.2 5
  have cXA1_6 := XA1.out.2 6
  have cXu_0 := Xu.out.2 0
  have cXu_1 := Xu.out.2 1
  have cXu_2 := Xu.out.2 2
  have cXu_3 := Xu.out.2 3
  have cXu_4 := Xu.out.2 4
  have cXu_5 := Xu.out.2 5
  have cXu_6 := Xu.out.2 6
  have cXu_7 := Xu.out.2 7
  have cXu_8 := Xu.out.2 8
  have cXx_0 := Xx.out.2 0
  have cXx_1 := Xx.out.2 1
  have cXx_2 := Xx.out.2 2
  have cXx_3 := Xx.out.2 3
  have cXx_4 := Xx.out.2 4
  have cXx_5 := Xx.out.2 5
  have cXx_6 := Xx.out.2 6
  have cXg_0 := Xg.out.2 0
  have cXg_1 := Xg.out.2 1
  have cXg_2 := Xg.out.2 2
  have cXg_3 := Xg.out.2 3
  have cXg_4 := Xg.out.2 4
  have cXg_5 := Xg.out.2 5
  have cXg_6 := Xg.out.2 6
  have cXg_7 := Xg.out.2 7
  have cXg_8 := Xg.out.2 8
  go_wp2_with fail
  clear cXA1_0 cXA1_1 cXA1_2 cXA1_3 cXA1_4 cXA1_5 cXA1_6 cXu_0 cXu_1 cXu_2 cXu_3 cXu_4 cXu_5 cXu_6 cXu_7 cXu_8 cXx_0 cXx_1 cXx_2 cXx_3 cXx_4 cXx_5 cXx_6 cXg_0 cXg_1 cXg_2 cXg_3 cXg_4 cXg_5 cXg_6 cXg_7 cXg_8
  have hb := below_drew w8
  replace B := Lib.hid (below_thru B.out (Nat.le_refl _) hb)
  replace HA1 := Lib.hid (HA1.out.below hb)
  replace XA1 := Lib.hid (XA1.out.below hb)
  replace S4 := Lib.hid (S4.out.below hb)
  replace Hu := Lib.hid (Hu.out.below hb)
  replace Xu := Lib.hid (Xu.out.below hb)
  replace Hx := Lib.hid (Hx.out.below hb)
  replace Xx := Lib.hid (Xx.out.below hb)
  replace Hg := Lib.hid (Hg.out.below hb)
  replace Xg := Lib.hid (Xg.out.below hb)
  clear hb
  go_region_held3 (fun w' => w'.cell? ⟨w.heap.size, 0, none⟩ = some (.int .i64 ak) ∧ w'.cell? ⟨w.heap.size, 1, none⟩ = some (.string am) ∧ w'.cell? ⟨w.heap.size, 2, none⟩ = some (.int .i64 an) ∧ w'.cell? ⟨w.heap.size, 3, none⟩ = some (.int .i64 atk) ∧ w'.cell? ⟨w.heap.size, 4, none⟩ = some (.slice ata atn atc) ∧ w'.cell? ⟨w.heap.size, 5, none⟩ = some (.slice asa asn asc) ∧ w'.cell? ⟨w.heap.size, 6, none⟩ = some (.slice apa apn apc) ∧ w'.cell? ⟨w4.heap.size, 0, none⟩ = some (.slice none 0 0) ∧ w'.cell? ⟨w4.heap.size, 1, none⟩ = some (.int .i64 uk) ∧ w'.cell? ⟨w4.heap.size, 2, none⟩ = some (.string um) ∧ w'.cell? ⟨w4.heap.size, 3, none⟩ = some (.int .i64 un) ∧ w'.cell? ⟨w4.heap.size, 4, none⟩ = some (.int .i64 utk) ∧ w'.cell? ⟨w4.heap.size, 5, none⟩ = some (.slice uta utn utc) ∧ w'.cell? ⟨w4.heap.size, 6, none⟩ = some (.slice usa usn usc) ∧ w'.cell? ⟨w4.heap.size, 7, none⟩ = some (.slice upa upn upc) ∧ w'.cell? ⟨w4.heap.size, 8, none⟩ = some (.slice none 0 0) ∧ w'.cell? ⟨w5.heap.size, 0, none⟩ = some (.int .i64 xk) ∧ w'.cell? ⟨w5.heap.size, 1, none⟩ = some (.string xm) ∧ w'.cell? ⟨w5.heap.size, 2, none⟩ = some (.int .i64 xn) ∧ w'.cell? ⟨w5.heap.size, 3, none⟩ = some (.int .i64 xtk) ∧ w'.cell? ⟨w5.heap.size, 4, none⟩ = some (.slice xta xtn xtc) ∧ w'.cell? ⟨w5.heap.size, 5, none⟩ = some (.slice xsa xsn xsc) ∧ w'.cell? ⟨w5.heap.size, 6, none⟩ = some (.slice xpa xpn xpc) ∧ w'.cell? ⟨w7.heap.size, 0, none⟩ = some (.slice none 0 0) ∧ w'.cell? ⟨w7.heap.size, 1, none⟩ = some (.int .i64 gk) ∧ w'.cell? ⟨w7.heap.size, 2, none⟩ = some (.string gm) ∧ w'.cell? ⟨w7.heap.size, 3, none⟩ = some (.int .i64 gn) ∧ w'.cell? ⟨w7.heap.size, 4, none⟩ = some (.int .i64 gtk) ∧ w'.cell? ⟨w7.heap.size, 5, none⟩ = some (.slice gta gtn gtc) ∧ w'.cell? ⟨w7.heap.size, 6, none⟩ = some (.slice gsa gsn gsc) ∧ w'.cell? ⟨w7.heap.size, 7, none⟩ = some (.slice gpa gpn gpc) ∧ w'.cell? ⟨w7.heap.size, 8, none⟩ = some (.slice none 0 0)) (exact ⟨XA1.out.2 0, XA1.out.2 1, XA1.out.2 2, XA1.out.2 3, XA1.out.2 4, XA1.out.2 5, XA1.out.2 6, Xu.out.2 0, Xu.out.2 1, Xu.out.2 2, Xu.out.2 3, Xu.out.2 4, Xu.out.2 5, Xu.out.2 6, Xu.out.2 7, Xu.out.2 8, Xx.out.2 0, Xx.out.2 1, Xx.out.2 2, Xx.out.2 3, Xx.out.2 4, Xx.out.2 5, Xx.out.2 6, Xg.out.2 0, Xg.out.2 1, Xg.out.2 2, Xg.out.2 3, Xg.out.2 4, Xg.out.2 5, Xg.out.2 6, Xg.out.2 7, Xg.out.2 8⟩)
    (first
     | (go_at_call_of 17 (Value.agg #[Value.int IntKind.i64 ak, Value.string am, Value.int IntKind.i64 an, Value.int IntKind.i64 atk, Value.slice ata atn atc, Value.slice asa asn asc, Value.slice apa apn apc])
        refine (toEditIn d _ t1 _ hn1 HA1.out).mono ?_
        rintro e w9 ⟨y, rfl, ht, hb⟩
        have hz9 := hb.size
        try simp only [World.size_drew] at hz9
        replace B := Lib.hid (below_thru B.out (Nat.le_refl _) hb)
        replace HA1 := Lib.hid (HA1.out.below hb)
        replace XA1 := Lib.hid (XA1.out.below hb)
        replace S4 := Lib.hid (S4.out.below hb)
        replace Hu := Lib.hid (Hu.out.below hb)
        replace Xu := Lib.hid (Xu.out.below hb)
        replace Hx := Lib.hid (Hx.out.below hb)
        replace Xx := Lib.hid (Xx.out.below hb)
        replace Hg := Lib.hid (Hg.out.below hb)
        replace Xg := Lib.hid (Xg.out.below hb)
        clear hb
        have Hy := Lib.hid ht.at_
        clear ht)
     | (go_at_call 20
        refine (eqEdit d _ y t1 _ Hx.out.at_ Hy.out).mono ?_
        rintro e w10 ⟨rfl, hb⟩
        have hz10 := hb.size
        try simp only [World.size_drew] at hz10
        replace B := Lib.hid (below_thru B.out (Nat.le_refl _) hb)
        replace HA1 := Lib.hid (HA1.out.below hb)
        replace XA1 := Lib.hid (XA1.out.below hb)
        replace S4 := Lib.hid (S4.out.below hb)
        replace Hu := Lib.hid (Hu.out.below hb)
        replace Xu := Lib.hid (Xu.out.below hb)
        replace Hx := Lib.hid (Hx.out.below hb)
        replace Xx := Lib.hid (Xx.out.below hb)
        replace Hg := Lib.hid (Hg.out.below hb)
        replace Xg := Lib.hid (Xg.out.below hb)
        clear hb
        clear Hy))
  have cXA1_0 := XA1.out.2 0
  have cXA1_1 := XA1.out.2 1
  have cXA1_2 := XA1.out.2 2
  have cXA1_3 := XA1.out.2 3
  have cXA1_4 := XA1.out.2 4
  have cXA1_5 := XA1.out.2 5
  have cXA1_6 := XA1.out.2 6
  have cXu_0 := Xu.out.2 0
  have cXu_1 := Xu.out.2 1
  have cXu_2 := Xu.out.2 2
  have cXu_3 := Xu.out.2 3
  have cXu_4 := Xu.out.2 4
  have cXu_5 := Xu.out.2 5
  have cXu_6 := Xu.out.2 6
  have cXu_7 := Xu.out.2 7
  have cXu_8 := Xu.out.2 8
  have cXx_0 := Xx.out.2 0
  have cXx_1 := Xx.out.2 1
  have cXx_2 := Xx.out.2 2
  have cXx_3 := Xx.out.2 3
  have cXx_4 := Xx.out.2 4
  have cXx_5 := Xx.out.2 5
  have cXx_6 := Xx.out.2 6
  have cXg_0 := Xg.out.2 0
  have cXg_1 := Xg.out.2 1
  have cXg_2 := Xg.out.2 2
  have cXg_3 := Xg.out.2 3
  have cXg_4 := Xg.out.2 4
  have cXg_5 := Xg.out.2 5
  have cXg_6 := Xg.out.2 6
  have cXg_7 := Xg.out.2 7
  have cXg_8 := Xg.out.2 8
  go_wp2_with fail
  clear cXA1_0 cXA1_1 cXA1_2 cXA1_3 cXA1_4 cXA1_5 cXA1_6 cXu_0 cXu_1 cXu_2 cXu_3 cXu_4 cXu_5 cXu_6 cXu_7 cXu_8 cXx_0 cXx_1 cXx_2 cXx_3 cXx_4 cXx_5 cXx_6 cXg_0 cXg_1 cXg_2 cXg_3 cXg_4 cXg_5 cXg_6 cXg_7 cXg_8
  refine (markEditIn w4.heap.size d _ t1 _ _ 1 _ (by omega) S4.out.b.size (by omega) (by omega) hn1 Hx.out).mono ?_
  rintro e w13 ⟨rfl, hm, hb0, hk⟩
  replace B := Lib.hid (B.out.trans (hb0.mono (by omega)))
  replace HA1 := Lib.hid (HA10.out.below B.out)
  replace XA1 := Lib.hid (XA1.out.beside hk (by omega))
  replace S4 := Lib.hid (S4.out.trans hb0)
  replace Hu := Lib.hid (Hu0.out.below S4.out.b)
  replace Xu := Lib.hid (Xu.out.beside hk (by omega))
  replace Xx := Lib.hid (Xx.out.beside hk (by omega))
  replace Hg := Lib.hid (Hg.out.beside hk (by omega))
  replace Xg := Lib.hid (Xg.out.beside hk (by omega))
  replace Hx := Lib.hid hm
  have hz13 := hk.1
  clear hb0 hk hm
  clear Hx
  obtain ⟨ma, hma⟩ : ∃ ma : Int, ma = 1 + (t1.wt : Int) := ⟨_, rfl⟩
  rw [← hma]
  have Nma := Lib.hid hma
  have ma0 : 0 ≤ ma := by omega
  have ma1 : ma ≤ 6291457 := by omega
  clear hma
  have cXA1_0 := XA1.out.2 0
  have cXA1_1 := XA1.out.2 1
  have cXA1_2 := XA1.out.2 2
  have cXA1_3 := XA1.out.2 3
  have cXA1_4 := XA1.out.2 4
  have cXA1_5 := XA1.out.2 5
  have cXA1_6 := XA1.out.2 6
  have cXu_0 := Xu.out.2 0
  have cXu_1 := Xu.out.2 1
  have cXu_2 := Xu.out.2 2
  have cXu_3 := Xu.out.2 3
  have cXu_4 := Xu.out.2 4
  have cXu_5 := Xu.out.2 5
  have cXu_6 := Xu.out.2 6
  have cXu_7 := Xu.out.2 7
  have cXu_8 := Xu.out.2 8
  have cXx_0 := Xx.out.2 0
  have cXx_1 := Xx.out.2 1
  have cXx_2 := Xx.out.2 2
  have cXx_3 := Xx.out.2 3
  have cXx_4 := Xx.out.2 4
  have cXx_5 := Xx.out.2 5
  have cXx_6 := Xx.out.2 6
  have cXg_0 := Xg.out.2 0
  have cXg_1 := Xg.out.2 1
  have cXg_2 := Xg.out.2 2
  have cXg_3 := Xg.out.2 3
  have cXg_4 := Xg.out.2 4
  have cXg_5 := Xg.out.2 5
  have cXg_6 := Xg.out.2 6
  have cXg_7 := Xg.out.2 7
  have cXg_8 := Xg.out.2 8
  go_wp2_with fail
  clear cXA1_0 cXA1_1 cXA1_2 cXA1_3 cXA1_4 cXA1_5 cXA1_6 cXu_0 cXu_1 cXu_2 cXu_3 cXu_4 cXu_5 cXu_6 cXu_7 cXu_8 cXx_0 cXx_1 cXx_2 cXx_3 cXx_4 cXx_5 cXx_6 cXg_0 cXg_1 cXg_2 cXg_3 cXg_4 cXg_5 cXg_6 cXg_7 cXg_8
  refine (eqHis0 d t1 _ Hg.out.at_ Hu.out).mono ?_
  rintro e w15 ⟨rfl, hb⟩
  have hz15 := hb.size
  try simp only [World.size_alloc] at hz15
  try simp only [World.size_drew] at hz15
  replace B := Lib.hid (below_thru B.out (Nat.le_refl _) hb)
  replace HA1 := Lib.hid (HA1.out.below hb)
  replace XA1 := Lib.hid (XA1.out.below hb)
  replace S4 := Lib.hid (S4.out.below hb)
  replace Hu := Lib.hid (Hu.out.below hb)
  replace Xu := Lib.hid (Xu.out.below hb)
  replace Xx := Lib.hid (Xx.out.below hb)
  replace Hg := Lib.hid (Hg.out.below hb)
  replace Xg := Lib.hid (Xg.out.below hb)
  clear hb
  have cXA1_0 := XA1.out.2 0
  have cXA1_1 := XA1.out.2 1
  have cXA1_2 := XA1.out.2 2
  have cXA1_3 := XA1.out.2 3
  have cXA1_4 := XA1.out.2 4
  have cXA1_5 := XA1.out.2 5
  have cXA1_6 := XA1.out.2 6
  have cXu_0 := Xu.out.2 0
  have cXu_1 := Xu.out.2 1
  have cXu_2 := Xu.out.2 2
  have cXu_3 := Xu.out.2 3
  have cXu_4 := Xu.out.2 4
  have cXu_5 := Xu.out.2 5
  have cXu_6 := Xu.out.2 6
  have cXu_7 := Xu.out.2 7
  have cXu_8 := Xu.out.2 8
  have cXx_0 := Xx.out.2 0
  have cXx_1 := Xx.out.2 1
  have cXx_2 := Xx.out.2 2
  have cXx_3 := Xx.out.2 3
  have cXx_4 := Xx.out.2 4
  have cXx_5 := Xx.out.2 5
  have cXx_6 := Xx.out.2 6
  have cXg_0 := Xg.out.2 0
  have cXg_1 := Xg.out.2 1
  have cXg_2 := Xg.out.2 2
  have cXg_3 := Xg.out.2 3
  have cXg_4 := Xg.out.2 4
  have cXg_5 := Xg.out.2 5
  have cXg_6 := Xg.out.2 6
  have cXg_7 := Xg.out.2 7
  have cXg_8 := Xg.out.2 8
  go_wp2_with fail
  clear cXA1_0 cXA1_1 cXA1_2 cXA1_3 cXA1_4 cXA1_5 cXA1_6 cXu_0 cXu_1 cXu_2 cXu_3 cXu_4 cXu_5 cXu_6 cXu_7 cXu_8 cXx_0 cXx_1 cXx_2 cXx_3 cXx_4 cXx_5 cXx_6 cXg_0 cXg_1 cXg_2 cXg_3 cXg_4 cXg_5 cXg_6 cXg_7 cXg_8
  refine (markHis0 w4.heap.size _ t1 _ _ 1 _ (by omega) S4.out.b.size (by omega) (by omega) hn1 Hg.out).mono ?_
  rintro e w16 ⟨rfl, hm, hb0, hk⟩
  replace B := Lib.hid (B.out.trans (hb0.mono (by omega)))
  replace HA1 := Lib.hid (HA10.out.below B.out)
  replace XA1 := Lib.hid (XA1.out.beside hk (by omega))
  replace S4 := Lib.hid (S4.out.trans hb0)
  replace Hu := Lib.hid (Hu0.out.below S4.out.b)
  replace Xu := Lib.hid (Xu.out.beside hk (by omega))
  replace Xx := Lib.hid (Xx.out.beside hk (by omega))
  replace Xg := Lib.hid (Xg.out.beside hk (by omega))
  replace Hg := Lib.hid hm
  have hz16 := hk.1
  clear hb0 hk hm
  obtain ⟨mc, hmc⟩ : ∃ mc : Int, mc = 1 + (t1.wt : Int) := ⟨_, rfl⟩
  rw [← hmc]
  have Nmc := Lib.hid hmc
  have mc0 : 0 ≤ mc := by omega
  have mc1 : mc ≤ 6291457 := by omega
  clear hmc
  have cXA1_0 := XA1.out.2 0
  have cXA1_1 := XA1.out.2 1
  have cXA1_2 := XA1.out.2 2
  have cXA1_3 := XA1.out.2 3
  have cXA1_4 := XA1.out.2 4
  have cXA1_5 := XA1.out.2 5
  have cXA1_6 := XA1.out.2 6
  have cXu_0 := Xu.out.2 0
  have cXu_1 := Xu.out.2 1
  have cXu_2 := Xu.out.2 2
  have cXu_3 := Xu.out.2 3
  have cXu_4 := Xu.out.2 4
  have cXu_5 := Xu.out.2 5
  have cXu_6 := Xu.out.2 6
  have cXu_7 := Xu.out.2 7
  have cXu_8 := Xu.out.2 8
  have cXx_0 := Xx.out.2 0
  have cXx_1 := Xx.out.2 1
  have cXx_2 := Xx.out.2 2
  have cXx_3 := Xx.out.2 3
  have cXx_4 := Xx.out.2 4
  have cXx_5 := Xx.out.2 5
  have cXx_6 := Xx.out.2 6
  have cXg_0 := Xg.out.2 0
  have cXg_1 := Xg.out.2 1
  have cXg_2 := Xg.out.2 2
  have cXg_3 := Xg.out.2 3
  have cXg_4 := Xg.out.2 4
  have cXg_5 := Xg.out.2 5
  have cXg_6 := Xg.out.2 6
  have cXg_7 := Xg.out.2 7
  have cXg_8 := Xg.out.2 8
  go_wp2_with fail
  clear cXA1_0 cXA1_1 cXA1_2 cXA1_3 cXA1_4 cXA1_5 cXA1_6 cXu_0 cXu_1 cXu_2 cXu_3 cXu_4 cXu_5 cXu_6 cXu_7 cXu_8 cXx_0 cXx_1 cXx_2 cXx_3 cXx_4 cXx_5 cXx_6 cXg_0 cXg_1 cXg_2 cXg_3 cXg_4 cXg_5 cXg_6 cXg_7 cXg_8
  refine (heldHis0 d t1 1 _ (by omega) (by omega) hn1 Hg.out.at_).mono ?_
  rintro e w17 ⟨rfl, hb⟩
  have hz17 := hb.size
  try simp only [World.size_alloc] at hz17
  try simp only [World.size_drew] at hz17
  replace B := Lib.hid (below_thru B.out (Nat.le_refl _) hb)
  replace HA1 := Lib.hid (HA1.out.below hb)
  replace XA1 := Lib.hid (XA1.out.below hb)
  replace S4 := Lib.hid (S4.out.below hb)
  replace Hu := Lib.hid (Hu.out.below hb)
  replace Xu := Lib.hid (Xu.out.below hb)
  replace Xx := Lib.hid (Xx.out.below hb)
  replace Hg := Lib.hid (Hg.out.below hb)
  replace Xg := Lib.hid (Xg.out.below hb)
  clear hb
  rw [← Nmc.out]
  have cXA1_0 := XA1.out.2 0
  have cXA1_1 := XA1.out.2 1
  have cXA1_2 := XA1.out.2 2
  have cXA1_3 := XA1.out.2 3
  have cXA1_4 := XA1.out.2 4
  have cXA1_5 := XA1.out.2 5
  have cXA1_6 := XA1.out.2 6
  have cXu_0 := Xu.out.2 0
  have cXu_1 := Xu.out.2 1
  have cXu_2 := Xu.out.2 2
  have cXu_3 := Xu.out.2 3
  have cXu_4 := Xu.out.2 4
  have cXu_5 := Xu.out.2 5
  have cXu_6 := Xu.out.2 6
  have cXu_7 := Xu.out.2 7
  have cXu_8 := Xu.out.2 8
  have cXx_0 := Xx.out.2 0
  have cXx_1 := Xx.out.2 1
  have cXx_2 := Xx.out.2 2
  have cXx_3 := Xx.out.2 3
  have cXx_4 := Xx.out.2 4
  have cXx_5 := Xx.out.2 5
  have cXx_6 := Xx.out.2 6
  have cXg_0 := Xg.out.2 0
  have cXg_1 := Xg.out.2 1
  have cXg_2 := Xg.out.2 2
  have cXg_3 := Xg.out.2 3
  have cXg_4 := Xg.out.2 4
  have cXg_5 := Xg.out.2 5
  have cXg_6 := Xg.out.2 6
  have cXg_7 := Xg.out.2 7
  have cXg_8 := Xg.out.2 8
  go_wp2_with fail
  clear cXA1_0 cXA1_1 cXA1_2 cXA1_3 cXA1_4 cXA1_5 cXA1_6 cXu_0 cXu_1 cXu_2 cXu_3 cXu_4 cXu_5 cXu_6 cXu_7 cXu_8 cXx_0 cXx_1 cXx_2 cXx_3 cXx_4 cXx_5 cXx_6 cXg_0 cXg_1 cXg_2 cXg_3 cXg_4 cXg_5 cXg_6 cXg_7 cXg_8
  refine (toEditIn d _ t1 _ hn1 HA1.out).mono ?_
  rintro e w18 ⟨h, rfl, ht, hb⟩
  have hz18 := hb.size
  try simp only [World.size_alloc] at hz18
  try simp only [World.size_drew] at hz18
  replace B := Lib.hid (below_thru B.out (Nat.le_refl _) hb)
  replace HA1 := Lib.hid (HA1.out.below hb)
  replace XA1 := Lib.hid (XA1.out.below hb)
  replace S4 := Lib.hid (S4.out.below hb)
  replace Hu := Lib.hid (Hu.out.below hb)
  replace Xu := Lib.hid (Xu.out.below hb)
  replace Xx := Lib.hid (Xx.out.below hb)
  replace Hg := Lib.hid (Hg.out.below hb)
  replace Xg := Lib.hid (Xg.out.below hb)
  clear hb
  have Hh := Lib.hid ht.at_
  clear ht
  have cXA1_0 := XA1.out.2 0
  have cXA1_1 := XA1.out.2 1
  have cXA1_2 := XA1.out.2 2
  have cXA1_3 := XA1.out.2 3
  have cXA1_4 := XA1.out.2 4
  have cXA1_5 := XA1.out.2 5
  have cXA1_6 := XA1.out.2 6
  have cXu_0 := Xu.out.2 0
  have cXu_1 := Xu.out.2 1
  have cXu_2 := Xu.out.2 2
  have cXu_3 := Xu.out.2 3
  have cXu_4 := Xu.out.2 4
  have cXu_5 := Xu.out.2 5
  have cXu_6 := Xu.out.2 6
  have cXu_7 := Xu.out.2 7
  have cXu_8 := Xu.out.2 8
  have cXx_0 := Xx.out.2 0
  have cXx_1 := Xx.out.2 1
  have cXx_2 := Xx.out.2 2
  have cXx_3 := Xx.out.2 3
  have cXx_4 := Xx.out.2 4
  have cXx_5 := Xx.out.2 5
  have cXx_6 := Xx.out.2 6
  have cXg_0 := Xg.out.2 0
  have cXg_1 := Xg.out.2 1
  have cXg_2 := Xg.out.2 2
  have cXg_3 := Xg.out.2 3
  have cXg_4 := Xg.out.2 4
  have cXg_5 := Xg.out.2 5
  have cXg_6 := Xg.out.2 6
  have cXg_7 := Xg.out.2 7
  have cXg_8 := Xg.out.2 8
  go_wp2_with fail
  clear cXA1_0 cXA1_1 cXA1_2 cXA1_3 cXA1_4 cXA1_5 cXA1_6 cXu_0 cXu_1 cXu_2 cXu_3 cXu_4 cXu_5 cXu_6 cXu_7 cXu_8 cXx_0 cXx_1 cXx_2 cXx_3 cXx_4 cXx_5 cXx_6 cXg_0 cXg_1 cXg_2 cXg_3 cXg_4 cXg_5 cXg_6 cXg_7 cXg_8
  refine (implStart d _ t1 _ Hh.out hn1).mono ?_
  rintro e w20 ⟨jk, jm, jn, jtk, jta, jtn, jtc, jsa, jsn, jsc, jpa, jpn, jpc, rfl, hi, hb⟩
  have hz20 := hb.size
  try simp only [World.size_alloc] at hz20
  try simp only [World.size_drew] at hz20
  replace B := Lib.hid (below_thru B.out (Nat.le_refl _) hb)
  replace HA1 := Lib.hid (HA1.out.below hb)
  replace XA1 := Lib.hid (XA1.out.below hb)
  replace S4 := Lib.hid (S4.out.below hb)
  replace Hu := Lib.hid (Hu.out.below hb)
  replace Xu := Lib.hid (Xu.out.below hb)
  replace Xx := Lib.hid (Xx.out.below hb)
  replace Hg := Lib.hid (Hg.out.below hb)
  replace Xg := Lib.hid (Xg.out.below hb)
  replace Hh := Lib.hid (Hh.out.below hb)
  clear hb
  try simp only [World.size_alloc] at hi
  try simp only [World.size_drew] at hi
  have Hj := Lib.hid hi
  clear hi
  have Xj : Hid (BoxAt (w20.alloc (.cells #[.slice none 0 0, .int .i64 jk, .string jm, .int .i64 jn, .int .i64 jtk, .slice jta jtn jtc, .slice jsa jsn jsc, .slice jpa jpn jpc, .slice none 0 0] 59)) w20.heap.size #[.slice none 0 0, .int .i64 jk, .string jm, .int .i64 jn, .int .i64 jtk, .slice jta jtn jtc, .slice jsa jsn jsc, .slice jpa jpn jpc, .slice none 0 0]) := BoxAt.new _ _ _
  have hb := below_alloc w20 (.cells #[.slice none 0 0, .int .i64 jk, .string jm, .int .i64 jn, .int .i64 jtk, .slice jta jtn jtc, .slice jsa jsn jsc, .slice jpa jpn jpc, .slice none 0 0] 59)
  replace B := Lib.hid (below_thru B.out (Nat.le_refl _) hb)
  replace HA1 := Lib.hid (HA1.out.below hb)
  replace XA1 := Lib.hid (XA1.out.below hb)
  replace S4 := Lib.hid (S4.out.below hb)
  replace Hu := Lib.hid (Hu.out.below hb)
  replace Xu := Lib.hid (Xu.out.below hb)
  replace Xx := Lib.hid (Xx.out.below hb)
  replace Hg := Lib.hid (Hg.out.below hb)
  replace Xg := Lib.hid (Xg.out.below hb)
  replace Hh := Lib.hid (Hh.out.below hb)
  replace Hj := Lib.hid (Hj.out.below hb)
  clear hb
  clear Hh
  have cXA1_0 := XA1.out.2 0
  have cXA1_1 := XA1.out.2 1
  have cXA1_2 := XA1.out.2 2
  have cXA1_3 := XA1.out.2 3
  have cXA1_4 := XA1.out.2 4
  have cXA1_5 := XA1.out.2 5
  have cXA1_6 := XA1.out.2 6
  have cXu_0 := Xu.out.2 0
  have cXu_1 := Xu.out.2 1
  have cXu_2 := Xu.out.2 2
  have cXu_3 := Xu.out.2 3
  have cXu_4 := Xu.out.2 4
  have cXu_5 := Xu.out.2 5
  have cXu_6 := Xu.out.2 6
  have cXu_7 := Xu.out.2 7
  have cXu_8 := Xu.out.2 8
  have cXx_0 := Xx.out.2 0
  have cXx_1 := Xx.out.2 1
  have cXx_2 := Xx.out.2 2
  have cXx_3 := Xx.out.2 3
  have cXx_4 := Xx.out.2 4
  have cXx_5 := Xx.out.2 5
  have cXx_6 := Xx.out.2 6
  have cXg_0 := Xg.out.2 0
  have cXg_1 := Xg.out.2 1
  have cXg_2 := Xg.out.2 2
  have cXg_3 := Xg.out.2 3
  have cXg_4 := Xg.out.2 4
  have cXg_5 := Xg.out.2 5
  have cXg_6 := Xg.out.2 6
  have cXg_7 := Xg.out.2 7
  have cXg_8 := Xg.out.2 8
  have cXj_0 := Xj.out.2 0
  have cXj_1 := Xj.out.2 1
  have cXj_2 := Xj.out.2 2
  have cXj_3 := Xj.out.2 3
  have cXj_4 := Xj.out.2 4
  have cXj_5 := Xj.out.2 5
  have cXj_6 := Xj.out.2 6
  have cXj_7 := Xj.out.2 7
  have cXj_8 := Xj.out.2 8
  go_wp2_with fail
  clear cXA1_0 cXA1_1 cXA1_2 cXA1_3 cXA1_4 cXA1_5 cXA1_6 cXu_0 cXu_1 cXu_2 cXu_3 cXu_4 cXu_5 cXu_6 cXu_7 cXu_8 cXx_0 cXx_1 cXx_2 cXx_3 cXx_4 cXx_5 cXx_6 cXg_0 cXg_1 cXg_2 cXg_3 cXg_4 cXg_5 cXg_6 cXg_7 cXg_8 cXj_0 cXj_1 cXj_2 cXj_3 cXj_4 cXj_5 cXj_6 cXj_7 cXj_8
  refine (eqHis0 d t1 _ Hj.out.at_ Hu.out).mono ?_
  rintro e w21 ⟨rfl, hb⟩
  have hz21 := hb.size
  try simp only [World.size_alloc] at hz21
  try simp only [World.size_drew] at hz21
  replace B := Lib.hid (below_thru B.out (Nat.le_refl _) hb)
  replace HA1 := Lib.hid (HA1.out.below hb)
  replace XA1 := Lib.hid (XA1.out.below hb)
  replace S4 := Lib.hid (S4.out.below hb)
  replace Hu := Lib.hid (Hu.out.below hb)
  replace Xu := Lib.hid (Xu.out.below hb)
  replace Xx := Lib.hid (Xx.out.below hb)
  replace Hg := Lib.hid (Hg.out.below hb)
  replace Xg := Lib.hid (Xg.out.below hb)
  replace Hj := Lib.hid (Hj.out.below hb)
  replace Xj := Lib.hid (Xj.out.below hb)
  clear hb
  have cXA1_0 := XA1.out.2 0
  have cXA1_1 := XA1.out.2 1
  have cXA1_2 := XA1.out.2 2
  have cXA1_3 := XA1.out.2 3
  have cXA1_4 := XA1.out.2 4
  have cXA1_5 := XA1.out.2 5
  have cXA1_6 := XA1.out.2 6
  have cXu_0 := Xu.out.2 0
  have cXu_1 := Xu.out.2 1
  have cXu_2 := Xu.out.2 2
  have cXu_3 := Xu.out.2 3
  have cXu_4 := Xu.out.2 4
  have cXu_5 := Xu.out.2 5
  have cXu_6 := Xu.out.2 6
  have cXu_7 := Xu.out.2 7
  have cXu_8 := Xu.out.2 8
  have cXx_0 := Xx.out.2 0
  have cXx_1 := Xx.out.2 1
  have cXx_2 := Xx.out.2 2
  have cXx_3 := Xx.out.2 3
  have cXx_4 := Xx.out.2 4
  have cXx_5 := Xx.out.2 5
  have cXx_6 := Xx.out.2 6
  have cXg_0 := Xg.out.2 0
  have cXg_1 := Xg.out.2 1
  have cXg_2 := Xg.out.2 2
  have cXg_3 := Xg.out.2 3
  have cXg_4 := Xg.out.2 4
  have cXg_5 := Xg.out.2 5
  have cXg_6 := Xg.out.2 6
  have cXg_7 := Xg.out.2 7
  have cXg_8 := Xg.out.2 8
  have cXj_0 := Xj.out.2 0
  have cXj_1 := Xj.out.2 1
  have cXj_2 := Xj.out.2 2
  have cXj_3 := Xj.out.2 3
  have cXj_4 := Xj.out.2 4
  have cXj_5 := Xj.out.2 5
  have cXj_6 := Xj.out.2 6
  have cXj_7 := Xj.out.2 7
  have cXj_8 := Xj.out.2 8
  go_wp2_with fail
  clear cXA1_0 cXA1_1 cXA1_2 cXA1_3 cXA1_4 cXA1_5 cXA1_6 cXu_0 cXu_1 cXu_2 cXu_3 cXu_4 cXu_5 cXu_6 cXu_7 cXu_8 cXx_0 cXx_1 cXx_2 cXx_3 cXx_4 cXx_5 cXx_6 cXg_0 cXg_1 cXg_2 cXg_3 cXg_4 cXg_5 cXg_6 cXg_7 cXg_8 cXj_0 cXj_1 cXj_2 cXj_3 cXj_4 cXj_5 cXj_6 cXj_7 cXj_8
  refine (heldHis0 d t1 1 _ (by omega) (by omega) hn1 Hg.out.at_).mono ?_
  rintro e w22 ⟨rfl, hb⟩
  have hz22 := hb.size
  try simp only [World.size_alloc] at hz22
  try simp only [World.size_drew] at hz22
  replace B := Lib.hid (below_thru B.out (Nat.le_refl _) hb)
  replace HA1 := Lib.hid (HA1.out.below hb)
  replace XA1 := Lib.hid (XA1.out.below hb)
  replace S4 := Lib.hid (S4.out.below hb)
  replace Hu := Lib.hid (Hu.out.below hb)
  replace Xu := Lib.hid (Xu.out.below hb)
  replace Xx := Lib.hid (Xx.out.below hb)
  replace Hg := Lib.hid (Hg.out.below hb)
  replace Xg := Lib.hid (Xg.out.below hb)
  replace Hj := Lib.hid (Hj.out.below hb)
  replace Xj := Lib.hid (Xj.out.below hb)
  clear hb
  rw [← Nmc.out]
  have cXA1_0 := XA1.out.2 0
  have cXA1_1 := XA1.out.2 1
  have cXA1_2 := XA1.out.2 2
  have cXA1_3 := XA1.out.2 3
  have cXA1_4 := XA1.out.2 4
  have cXA1_5 := XA1.out.2 5
  have cXA1_6 := XA1.out.2 6
  have cXu_0 := Xu.out.2 0
  have cXu_1 := Xu.out.2 1
  have cXu_2 := Xu.out.2 2
  have cXu_3 := Xu.out.2 3
  have cXu_4 := Xu.out.2 4
  have cXu_5 := Xu.out.2 5
  have cXu_6 := Xu.out.2 6
  have cXu_7 := Xu.out.2 7
  have cXu_8 := Xu.out.2 8
  have cXx_0 := Xx.out.2 0
  have cXx_1 := Xx.out.2 1
  have cXx_2 := Xx.out.2 2
  have cXx_3 := Xx.out.2 3
  have cXx_4 := Xx.out.2 4
  have cXx_5 := Xx.out.2 5
  have cXx_6 := Xx.out.2 6
  have cXg_0 := Xg.out.2 0
  have cXg_1 := Xg.out.2 1
  have cXg_2 := Xg.out.2 2
  have cXg_3 := Xg.out.2 3
  have cXg_4 := Xg.out.2 4
  have cXg_5 := Xg.out.2 5
  have cXg_6 := Xg.out.2 6
  have cXg_7 := Xg.out.2 7
  have cXg_8 := Xg.out.2 8
  have cXj_0 := Xj.out.2 0
  have cXj_1 := Xj.out.2 1
  have cXj_2 := Xj.out.2 2
  have cXj_3 := Xj.out.2 3
  have cXj_4 := Xj.out.2 4
  have cXj_5 := Xj.out.2 5
  have cXj_6 := Xj.out.2 6
  have cXj_7 := Xj.out.2 7
  have cXj_8 := Xj.out.2 8
  go_wp2_with fail
  go_ret
  exact ⟨rfl, B.out⟩
end Go.Proofs.Yteeojgefnoaajaa
namespace Go.Proofs.Yteeojgefnoaajaa.ExactStartHistory
open Go.ChangeShapes Go.WideShapes Go.ChangeAt Go.RowKit Go.WideMaps Go.WideElems
open Go.ChangeMaps (setBlock shut_map_nil open_string shut_string keptBut_setBlock frozen?_setBlock heap_setBlock_same)
set_option maxRecDepth 100000 in
theorem contract (H : Type) (enc : TypeId × Value → H) (W : World) (base : Nat) (args : Array Value) (ds gs : List (DataW H)) (before : List MemPlace)
    (hval : ∀ (j : Nat) t v, Try.f4.params[j]? = some t → args[j]? = some v → Value.okWide Try.prog W .any base t v)
    (hW : DataW.Whole enc Try.prog Try.f4.params.toList Rows.fnExactStartHistorySpec.vars false W args.toList ds gs before) 
    (_hsz : (DataW.weightsEach Try.prog (Try.f4.params.toList ++ (OpenSpec.ofChange Rows.fnExactStartHistorySpec).bare.plain.varTypes Try.prog) (ds ++ gs)).all (· ≤ reachBytes) = true) (_hsh : W.ShapedOpen Try.prog) :
    Calls Try.prog 4 args W fun e W' => ∃ v, e = .returned v ∧ Rows.fnExactStartHistorySpec.post enc Try.prog Try.f4 false true false false W args v W' := by
  have hW' := hW
  obtain ⟨p, q, hA0, hV, rfl, hfz, hnd⟩ := hW
  have hA : DataW.TrodAll enc Try.prog W 0 (fun _ => true) true Try.f4.params.toList args.toList ds p := hA0
  rw [Try.params4] at hA hval
  obtain ⟨v0, vs0, d0, ds0, p0, q0, hargs, rfl, rfl, h0, r0⟩ := trodAll_cons hA
  obtain ⟨rfl, rfl, rfl⟩ := trodAll_nil r0
  obtain rfl : args = #[v0] := by cases args; simp_all
  obtain ⟨rfl, rfl⟩ := trodVars_none hV
  obtain ⟨e0, t0, ht0⟩ := ed_of_arg (hval 0 50 v0 rfl rfl) h0
  refine Calls.mono (startHistoryWalk e0 v0 t0 W ht0) fun e W' ⟨he, hg⟩ => ?_
  subst he
  exact ⟨_, rfl, Law.law_post hW' rfl (by kernel_rfl) Try.underlying4 (by kernel_rfl) (by kernel_rfl) (fun _ => rfl) hg⟩
set_option maxRecDepth 100000 in
theorem laid_met (os : Os) : laidMet Try.prog Rows.fnExactStartHistoryRow.laid (((World.holding Try.prog os ⟨#[], #[], []⟩)).forCall (fun _ _ => 0) ⟨#[], #[.agg #[.int .i64 0, .string ⟨#[]⟩, .int .i64 0, .int .i64 0, .slice none 0 0, .slice none 0 0, .slice none 0 0]], []⟩).memory :=
  laidMet_of_run' 8 (by kernel_rfl) (by kernel_rfl)
theorem reads (os : Os) {H : Type} (enc : TypeId × Value → H) : ∃ places, DataW.whole enc Try.prog (((World.holding Try.prog os ⟨#[], #[], []⟩)).forCall (fun _ _ => 0) ⟨#[], #[.agg #[.int .i64 0, .string ⟨#[]⟩, .int .i64 0, .int .i64 0, .slice none 0 0, .slice none 0 0, .slice none 0 0]], []⟩).memory Try.f4.params.toList Rows.fnExactStartHistorySpec.vars false (#[.agg #[.int .i64 0, .string ⟨#[]⟩, .int .i64 0, .int .i64 0, .slice none 0 0, .slice none 0 0, .slice none 0 0]] : Array Value).toList 8 = some ([.agg [.agg [.lit (.int .i64 0), .lit (.string []), .lit (.int .i64 0), .agg [.lit (.int .i64 0), .nil], .nil], .nil]], [], places) :=
  ⟨[], by kernel_rfl⟩
set_option maxRecDepth 100000 in
theorem lifted (os : Os) (started : os.Started) (H : Type) (enc : TypeId × Value → H) (F : Stop.Interp) :
    ReturnsInHanded {} Try.checked os 4 .any ((OpenSpec.ofChange Rows.fnExactStartHistorySpec).preRow enc Try.prog Try.f4 Rows.fnExactStartHistoryRow.domain false Rows.fnExactStartHistoryRow.laid) (((OpenSpec.ofChange Rows.fnExactStartHistorySpec).at F).post enc Try.prog Try.f4 false true false false) := by
  obtain ⟨places, hx⟩ := reads os enc
  refine returnsInHanded_of_row (C := Try.checked) (s := OpenSpec.ofChange Rows.fnExactStartHistorySpec) (by kernel_rfl) started (by kernel_rfl) Try.func4
    (witness_row_atRef (enc := enc) (C := Try.checked) false (World.holding Try.prog os ⟨#[], #[], []⟩) #[.agg #[.int .i64 0, .string ⟨#[]⟩, .int .i64 0, .int .i64 0, .slice none 0 0, .slice none 0 0, .slice none 0 0]] rfl (by kernel_rfl) (by kernel_rfl) (by kernel_rfl)
      (OpenSpec.preRow_of_cond 8 hx (by kernel_rfl) (fun k hk => by cases hk) (by kernel_rfl) (laid_met os))) ?_
  intro W base args ds gs before hval hW _ _ hsz _ hsh _
  exact contract H enc W base args ds gs before hval hW hsz hsh
theorem said : Rows.FnExactStartHistorySaid :=
  OpenClaim.holds_of_cond 4 Try.f4 rfl rfl rfl rfl rfl rfl rfl ⟨rfl, rfl, rfl, rfl, rfl⟩ rfl rfl rfl rfl rfl (by kernel_rfl) Try.func4 (by kernel_rfl)
    (of_decide_eq_true (by kernel_rfl)) (by unfold Func.isWrapper; first | (rw [if_pos (by decide +kernel)]; kernel_rfl) | (rw [if_neg (by decide +kernel)]; exact ⟨rfl, rfl⟩))
    (fun os started H enc _ F => by rw [OpenClaim.pre_eq_preRow]; exact lifted os started H enc F)
end Go.Proofs.Yteeojgefnoaajaa.ExactStartHistory
