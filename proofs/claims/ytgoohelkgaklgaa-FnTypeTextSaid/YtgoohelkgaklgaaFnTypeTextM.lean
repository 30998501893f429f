/-
  Proved: the law FnTypeText: it answers true for every code and changes no argument. Nothing is asked of the input.
-/
import Derived.Test.YtgoohelkgaklgaaImplText
import Derived.Test.YtgoohelkgaklgaaImplValid
import Derived.Test.YtgoohelkgaklgaaFormatText
import Derived.Test.YtgoohelkgaklgaaTyEq
import Derived.Test.YtgoohelkgaklgaaTwo
import Derived.Test.YtgoohelkgaklgaaCodeArgT
import Derived.Test.YtgoohelkgaklgaaDrawText
import Derived.Test.YtgoohelkgaklgaaImplTypeAt
import Derived.Test.YtgoohelkgaklgaaSpecParseType
import Derived.Test.YtgoohelkgaklgaaSpecFormatType
import Derived.Deep.DeepCutAuto
import Derived.Test.YtgoohelkgaklgaaRows
import Derived.Test.YtgoohelkgaklgaaLaw
import Derived.Deep.DeepHandedRow
import Derived.Lib.LaidTab
import Derived.LaidMore
/-
  Proved: impl.FormatType gives the text of a valid type, the empty text for others; the memory that was there stays as it was.
-/
namespace Go.Proofs.Ytgoohelkgaklgaa
open Go.RowKit

set_option maxRecDepth 100000 in
set_option maxHeartbeats 1000000 in
theorem implFormatType (d : Nat) (v : Value) (t : Ty) (w : World) (h : TyAt w d v t) (hsz : t.size ≤ 1048577) :
    Calls Try.prog 7 #[v] w fun e w' => e = .returned (.string (formatText t)) ∧ Below w.heap.size w w' := by
  have HT := Lib.hid h
  obtain ⟨yk, ya, yn, yc, rfl⟩ := agg_parts h
  clear h
  have B : Hid (Below w.heap.size w (w.alloc (.cells #[.int .i64 yk, .slice ya yn yc] 26))) := below_alloc _ _
  have HA := Lib.hid (HT.out.below B.out)
  have XA : Hid (BoxAt (w.alloc (.cells #[.int .i64 yk, .slice ya yn yc] 26)) w.heap.size #[.int .i64 yk, .slice ya yn yc]) := BoxAt.new _ _ _
  clear HT
  go_enter Try.func7, Try.ntmps7
  go_wp2_with fail
  refine (implValid d _ t _ HA.out hsz).mono ?_
  rintro e w1 ⟨rfl, hb⟩
  replace B := Lib.hid (below_thru B.out (Nat.le_refl _) hb)
  replace HA := Lib.hid (HA.out.below hb)
  replace XA := Lib.hid (XA.out.below hb)
  clear hb
  cases hv : t.valid with
  | false =>
    have HV := Lib.hid hv; clear hv
    go_wp2_with fail
    go_ret
    exact ⟨by rw [format_bad HV.out]; rfl, B.out⟩
  | true =>
    have HV := Lib.hid hv
    have hfm : t.form = true := by simp only [Ty.valid, Bool.and_eq_true] at hv; exact hv.2
    clear hv
    have a0 := XA.out.2 0
    have a1 := XA.out.2 1
    go_wp2_with fail
    refine (implText d _ t _ HA.out hfm hsz).mono ?_
    rintro e w2 ⟨rfl, hb⟩
    have B2 := Lib.hid (below_thru B.out (Nat.le_refl _) hb)
    clear hb hfm
    go_wp2_with fail
    go_ret
    exact ⟨by rw [format_good HV.out]; rfl, B2.out⟩
end Go.Proofs.Ytgoohelkgaklgaa
/-
  Proved: impl.EqualType says whether two trees are equal, and leaves the memory that was there as it was.
-/
namespace Go.Proofs.Ytgoohelkgaklgaa
open Go.RowKit

set_option maxRecDepth 100000 in
set_option maxHeartbeats 2000000 in
theorem implEqual : ∀ (d : Nat) (v1 v2 : Value) (t1 t2 : Ty) (w : World), TyAt w d v1 t1 → TyAt w d v2 t2 →
    Calls Try.prog 11 #[v1, v2] w fun e w' => e = .returned (.bool (t1.beq t2)) ∧ Below w.heap.size w w'
  | 0, _, _, _, _, _, h, _ => h.elim
  | d + 1, v1, v2, .node k1 cs, .node k2 bs, w, h1, h2 => by
    have IH : Hid (∀ (v1 v2 : Value) (t1 t2 : Ty) (w : World), TyAt w d v1 t1 → TyAt w d v2 t2 → Calls Try.prog 11 #[v1, v2] w fun e w' => e = .returned (.bool (t1.beq t2)) ∧ Below w.heap.size w w') := implEqual d
    obtain ⟨s1, rfl, hk0, hk1, a1, cap1, rfl, hcap1, hm1, hat1⟩ := h1
    obtain ⟨s2, rfl, hk2, hk3, a2, cap2, rfl, hcap2, hm2, hat2⟩ := h2
    have HA1 := Lib.hid hat1; clear hat1
    have HA2 := Lib.hid hat2; clear hat2
    by_cases q1 : k1 = k2
    · subst q1
      by_cases q2 : bs.length = cs.length
      · have HFIN : Hid ((Ty.node k1 cs).beq (Ty.node k1 bs) = Ty.beqs cs bs) := by show _ = _; simp [Ty.beq]
        rw [q2]
        go_enter Try.func11, Try.ntmps11
        go_wp2_with fail
        go_loopw [23] (fun i wr => ∃ k : Nat, k ≤ cs.length ∧ i = .int .i64 k ∧ Ty.beqs (cs.take k) (bs.take k) = true ∧ Below (w.heap.size + 2) ((w.alloc (.cells #[.int .i64 k1, .slice a1 cs.length cap1] 26)).alloc (.cells #[.int .i64 k1, .slice a2 cs.length cap2] 26)) wr) (fun i _ => cs.length - (intOf i).toNat)
        case atStart => exact ⟨0, by omega, rfl, by simp [Ty.beqs], Below.refl _ _⟩
        case round =>
          obtain ⟨k, hk, rfl, hf, hb⟩ := hrel
          have HF := Lib.hid hf; clear hf
          have y1 := two_first hb 1
          have y2 := two_next hb 1
          have HB := Lib.hid (two_below hb)
          have HBX := Lib.hid hb; clear hb
          by_cases hlt : k < cs.length
          · have hlt2 : k < bs.length := by omega
            obtain ⟨b1, off1, x0, x1, rfl, hbl1, hc10, hc11, ht1⟩ := HA1.out k hlt
            obtain ⟨b2, off2, z0, z1, rfl, hbl2, hc20, hc21, ht2⟩ := HA2.out k hlt2
            have c10 : wr.cell? ⟨b1, off1 + k * 2, none⟩ = some x0 := by rw [HB.out.cell (p := ⟨b1, off1 + k * 2, none⟩) hbl1]; exact hc10
            have c11 : wr.cell? ⟨b1, off1 + k * 2 + 1, none⟩ = some x1 := by rw [HB.out.cell (p := ⟨b1, off1 + k * 2 + 1, none⟩) hbl1]; exact hc11
            have c20 : wr.cell? ⟨b2, off2 + k * 2, none⟩ = some z0 := by rw [HB.out.cell (p := ⟨b2, off2 + k * 2, none⟩) hbl2]; exact hc20
            have c21 : wr.cell? ⟨b2, off2 + k * 2 + 1, none⟩ = some z1 := by rw [HB.out.cell (p := ⟨b2, off2 + k * 2 + 1, none⟩) hbl2]; exact hc21
            have HT1 := Lib.hid (ht1.below HB.out.drew)
            have HT2 := Lib.hid (ht2.below HB.out.drew)
            clear ht1 ht2 hc10 hc11 hc20 hc21
            go_wp2_with fail
            go_still_tail 10, (by kernel_rfl)
            change wpList _ _ _ _ _ wr.drew
            go_wp2_with fail
            refine (IH.out _ _ _ _ wr.drew HT1.out HT2.out).mono ?_
            rintro e w' ⟨rfl, hb1⟩
            have HN := Lib.hid (two_on HBX.out.drew hb1); clear hb1
            have HTK := Lib.hid (Ty.beqs_take cs bs k hlt hlt2)
            cases hfk : cs[k].beq bs[k] with
            | true =>
              have HFK := Lib.hid hfk; clear hfk
              go_wp2_with fail
              exact ⟨⟨k + 1, by omega, by go_num, by rw [HTK.out, HF.out, HFK.out]; rfl, HN.out⟩, by simp [intOf]; omega⟩
            | false =>
              have HFK := Lib.hid hfk; clear hfk
              go_wp2_with fail
              go_ret
              have e : Ty.beqs cs bs = false := Ty.beqs_false cs bs (k + 1) (by rw [HTK.out, HF.out, HFK.out]; rfl) q2.symm
              exact ⟨by rw [HFIN.out, e]; rfl, two_below HN.out⟩
          · obtain rfl : k = cs.length := by omega
            have e : Hid (Ty.beqs cs bs = true) := by
              have := HF.out
              rw [List.take_length, ← q2, List.take_length] at this; exact this
            go_wp2_with fail
            go_ret
            exact ⟨by rw [HFIN.out, e.out]; rfl, HB.out⟩
      · have HFIN : Hid ((Ty.node k1 cs).beq (Ty.node k1 bs) = false) := by show _ = _; simp [Ty.beq, Ty.beqs_len cs bs (fun e => q2 e.symm)]
        have q3 : ¬ ((cs.length : Int) = (bs.length : Int)) := by omega
        go_enter Try.func11, Try.ntmps11
        go_wp2_with fail
        go_ret
        exact ⟨by rw [HFIN.out]; rfl, ((Below.refl _ _).alloc (Nat.le_refl _) _).alloc (by simp) _⟩
    · have HFIN : Hid ((Ty.node k1 cs).beq (Ty.node k2 bs) = false) := by show _ = _; simp [Ty.beq, q1]
      go_enter Try.func11, Try.ntmps11
      go_wp2_with fail
      go_ret
      exact ⟨by rw [HFIN.out]; rfl, ((Below.refl _ _).alloc (Nat.le_refl _) _).alloc (by simp) _⟩
end Go.Proofs.Ytgoohelkgaklgaa
/-
  Proved: plain facts: a tree that reads with so much fuel reads with more; a type is equal to itself.
-/
namespace Go.Proofs.Ytgoohelkgaklgaa
open Go.RowKit

theorem TyAt.up {w : World} : ∀ {d : Nat} {v : Value} {t : Ty}, TyAt w d v t → TyAt w (d + 1) v t
  | 0, _, _, h => h.elim
  | d + 1, v, .node k ts, h => by
    obtain ⟨sl, rfl, h0, h1, a, cap, rfl, h2, h3, h4⟩ := h
    refine ⟨_, rfl, h0, h1, a, cap, rfl, h2, h3, fun j hj => ?_⟩
    obtain ⟨b, off, c0, c1, e0, e1, e2, e3, e4⟩ := h4 j hj
    exact ⟨b, off, c0, c1, e0, e1, e2, e3, e4.up⟩
theorem TyAt.upto {w : World} {d : Nat} {v : Value} {t : Ty} (h : TyAt w d v t) : ∀ n, TyAt w (d + n) v t
  | 0 => h
  | n + 1 => (h.upto n).up
theorem TyAt.max1 {w : World} {d e : Nat} {v : Value} {t : Ty} (h : TyAt w d v t) : TyAt w (d + e) v t := h.upto e
theorem TyAt.max2 {w : World} {d e : Nat} {v : Value} {t : Ty} (h : TyAt w e v t) : TyAt w (d + e) v t := by rw [Nat.add_comm]; exact h.upto d
mutual
theorem Ty.beq_self : ∀ t : Ty, t.beq t = true
  | .node k ts => by unfold Ty.beq; simp [Ty.beqs_self ts]
theorem Ty.beqs_self : ∀ ts : List Ty, Ty.beqs ts ts = true
  | [] => by unfold Ty.beqs; rfl
  | a :: r => by unfold Ty.beqs; simp [Ty.beq_self a, Ty.beqs_self r]
end
end Go.Proofs.Ytgoohelkgaklgaa
/-
  Proved: the walk of the law FnTypeText: it returns true and changes no memory that was there.
-/
namespace Go.Proofs.Ytgoohelkgaklgaa
open Go.RowKit

/-- Parsing the text of a type gives that type back, exactly where it is valid. -/
theorem text_back {t x : Ty} {ok : Bool} (h1 : ok = true → TyReads (formatText t) x) (h2 : ok = false → x = .node 0 [] ∧ ∀ u, ¬ TyReads (formatText t) u) : ok = t.valid ∧ (ok = true → x = t) := by
  cases hv : t.valid with
  | true =>
    have hr : TyReads (formatText t) t := ⟨hv, (format_good hv).symm⟩
    cases ok with
    | true => exact ⟨rfl, fun _ => (h1 rfl).inj hr⟩
    | false => exact absurd hr ((h2 rfl).2 t)
  | false =>
    cases ok with
    | true =>
      have h := h1 rfl
      rw [format_bad hv] at h
      have h3 := tl_size _ x (Nat.le_refl _) (valid_form h.1)
      have h4 := x.size_pos
      have h5 : x.tl = [] := by unfold Ty.tl; rw [h.2]
      rw [h5] at h3
      simp at h3
      omega
    | false => exact ⟨rfl, fun h => by cases h⟩
set_option maxRecDepth 100000 in
set_option maxHeartbeats 8000000 in
theorem typeTextWalk (v : Value) (m : Nat) (w : World) (hc : CodeArg w v m) :
    Calls Try.prog 3 #[v] w fun e w' => e = .returned (.bool true) ∧ Below w.heap.size w w' := by
  obtain ⟨a, cap, rfl, hm, _⟩ := id hc
  have HC := Lib.hid hc; clear hc
  by_cases hs : 1048576 < m
  · go_enter Try.func3, Try.ntmps3
    go_wp2
    go_ret
    exact ⟨rfl, Below.refl _ _⟩
  · have hs2 : m ≤ 1048576 := by omega
    have B : Hid (Below w.heap.size w w) := Below.refl _ _
    go_enter Try.func3, Try.ntmps3
    go_wp2_with (go_at_call 5; go_in)
    refine (drawFormatType _ m _ (HC.out.code hs2 B.out)).mono ?_
    rintro e w1 ⟨dt, vt, t, rfl, hst, ht, hb⟩
    obtain ⟨tk, ta, tn, tc, rfl⟩ := agg_parts ht
    have Ht := Lib.hid ht
    replace B := Lib.hid (below_thru B.out (Nat.le_refl _) hb)
    clear ht hb
    have hl := below_alloc w1 (.cells #[.int .i64 tk, .slice ta tn tc] 26)
    replace B := Lib.hid (below_thru B.out (Nat.le_refl _) hl)
    replace Ht := Lib.hid (Ht.out.below hl)
    have Xt : Hid (BoxAt (w1.alloc (.cells #[.int .i64 tk, .slice ta tn tc] 26)) w1.heap.size #[.int .i64 tk, .slice ta tn tc]) := BoxAt.new _ _ _
    clear hl
    have ct0 := Xt.out.2 0
    have ct1 := Xt.out.2 1
    go_wp2_with fail
    clear ct0 ct1
    refine (implFormatType dt _ t _ Ht.out (by omega)).mono ?_
    rintro e w2 ⟨rfl, hb⟩
    replace B := Lib.hid (below_thru B.out (Nat.le_refl _) hb)
    replace Ht := Lib.hid (Ht.out.below hb)
    replace Xt := Lib.hid (Xt.out.below hb)
    clear hb
    have hss := format_small t
    obtain ⟨s, hse⟩ : ∃ s, s = formatText t := ⟨_, rfl⟩
    rw [← hse] at hss ⊢
    have HS := Lib.hid hse; clear hse
    go_wp2_with fail
    refine (implParseType s _ (by omega)).mono ?_
    rintro e w3 ⟨ok, x, xk, xa, xn, xc, xf, rfl, ht, hf, hb, h1, h2⟩
    have Hx := Lib.hid ht.at_
    have Px := Lib.hid h1
    have Qx := Lib.hid h2
    replace B := Lib.hid (below_thru B.out (Nat.le_refl _) hb)
    replace Ht := Lib.hid (Ht.out.below hb)
    replace Xt := Lib.hid (Xt.out.below hb)
    clear hb ht hf h1 h2
    have hl := below_alloc w3 (.cells #[.int .i64 xk, .slice xa xn xc] 26)
    replace B := Lib.hid (below_thru B.out (Nat.le_refl _) hl)
    replace Ht := Lib.hid (Ht.out.below hl)
    replace Xt := Lib.hid (Xt.out.below hl)
    replace Hx := Lib.hid (Hx.out.below hl)
    have Xx : Hid (BoxAt (w3.alloc (.cells #[.int .i64 xk, .slice xa xn xc] 26)) w3.heap.size #[.int .i64 xk, .slice xa xn xc]) := BoxAt.new _ _ _
    clear hl
    have HT : Hid (ok = t.valid ∧ (ok = true → x = t)) := by
      have p1 := Px.out
      have p2 := Qx.out
      rw [HS.out] at p1 p2
      exact text_back p1 p2
    clear Px Qx
    go_upto_region 6 with fail
    generalize (w3.alloc (.cells #[.int .i64 xk, .slice xa xn xc] 26)) = w4 at B Ht Xt Hx Xx ⊢
    go_cut [41] (fun z wx => z = .bool false ∧ Below w4.heap.size w4 wx)
    case first =>
      have G : Hid (Below w4.heap.size w4 w4) := Below.refl _ _
      have hself : (s.toList == s.toList) = true := by simp
      have n2 : (ok != ok) = false := by cases ok <;> rfl
      have ct0 := Xt.out.2 0
      have ct1 := Xt.out.2 1
      go_wp2_with fail
      clear ct0 ct1
      refine (specFormatType dt _ t _ Ht.out (by omega)).mono ?_
      rintro e y1 ⟨rfl, hb⟩
      rw [← HS.out]
      replace G := Lib.hid (below_thru G.out (Nat.le_refl _) hb)
      replace B := Lib.hid (below_thru B.out (Nat.le_refl _) hb)
      replace Ht := Lib.hid (Ht.out.below hb)
      replace Xt := Lib.hid (Xt.out.below hb)
      replace Hx := Lib.hid (Hx.out.below hb)
      replace Xx := Lib.hid (Xx.out.below hb)
      clear hb
      have ct0 := Xt.out.2 0
      have ct1 := Xt.out.2 1
      go_wp2_with fail
      clear ct0 ct1
      refine (specValid dt _ t _ Ht.out (by omega)).mono ?_
      rintro e y2 ⟨rfl, hb⟩
      rw [← HT.out.1]
      replace G := Lib.hid (below_thru G.out (Nat.le_refl _) hb)
      replace B := Lib.hid (below_thru B.out (Nat.le_refl _) hb)
      replace Ht := Lib.hid (Ht.out.below hb)
      replace Xt := Lib.hid (Xt.out.below hb)
      replace Hx := Lib.hid (Hx.out.below hb)
      replace Xx := Lib.hid (Xx.out.below hb)
      clear hb
      cases ok with
      | false =>
        go_wp2_with fail
        go_meet
        exact ⟨rfl, G.out⟩
      | true =>
        obtain rfl : x = t := HT.out.2 rfl
        have cx0 := Xx.out.2 0
        have cx1 := Xx.out.2 1
        have ct0 := Xt.out.2 0
        have ct1 := Xt.out.2 1
        go_wp2_with fail
        clear cx0 cx1 ct0 ct1
        refine (implEqual (25 + dt) _ _ x x _ Hx.out.max1 Ht.out.max2).mono ?_
        rintro e y3 ⟨rfl, hb⟩
        rw [Ty.beq_self]
        replace G := Lib.hid (below_thru G.out (Nat.le_refl _) hb)
        replace B := Lib.hid (below_thru B.out (Nat.le_refl _) hb)
        replace Ht := Lib.hid (Ht.out.below hb)
        replace Xt := Lib.hid (Xt.out.below hb)
        replace Hx := Lib.hid (Hx.out.below hb)
        replace Xx := Lib.hid (Xx.out.below hb)
        clear hb
        go_wp2_with fail
        go_meet
        exact ⟨rfl, G.out⟩
    case rest =>
      obtain ⟨w5, hwc⟩ : ∃ u, u = wc := ⟨_, rfl⟩
      subst hwc
      obtain ⟨rfl, hb⟩ := hcut
      replace B := Lib.hid (below_thru B.out (Nat.le_refl _) hb)
      clear hb Ht Xt Hx Xx HT HS hss hst
      go_wp2_with fail
      refine (drawParseType _ m _ (HC.out.code hs2 B.out)).mono ?_
      rintro e w6 ⟨u, rfl, hu, hb⟩
      replace B := Lib.hid (below_thru B.out (Nat.le_refl _) hb)
      clear hb
      go_wp2_with fail
      refine (implParseType u _ (by omega)).mono ?_
      rintro e w7 ⟨fine, y, yk, ya, yn, yc, yf, rfl, ht, hf, hb, h1, h2⟩
      have Hy := Lib.hid ht.at_
      have Py := Lib.hid h1
      have Qy := Lib.hid h2
      replace B := Lib.hid (below_thru B.out (Nat.le_refl _) hb)
      clear hb ht hf h1 h2
      have hl := below_alloc w7 (.cells #[.int .i64 yk, .slice ya yn yc] 26)
      replace B := Lib.hid (below_thru B.out (Nat.le_refl _) hl)
      replace Hy := Lib.hid (Hy.out.below hl)
      have Xy : Hid (BoxAt (w7.alloc (.cells #[.int .i64 yk, .slice ya yn yc] 26)) w7.heap.size #[.int .i64 yk, .slice ya yn yc]) := BoxAt.new _ _ _
      clear hl
      go_wp2_with fail
      refine (specParseType u _ (by omega)).mono ?_
      rintro e w8 ⟨want, z, zk, za, zn, zc, zf, rfl, ht, hf, hb, h1, h2⟩
      have Hz := Lib.hid ht.at_
      have Pz := Lib.hid h1
      have Qz := Lib.hid h2
      replace B := Lib.hid (below_thru B.out (Nat.le_refl _) hb)
      replace Hy := Lib.hid (Hy.out.below hb)
      replace Xy := Lib.hid (Xy.out.below hb)
      clear hb ht hf h1 h2
      have hl := below_alloc w8 (.cells #[.int .i64 zk, .slice za zn zc] 26)
      replace B := Lib.hid (below_thru B.out (Nat.le_refl _) hl)
      replace Hy := Lib.hid (Hy.out.below hl)
      replace Xy := Lib.hid (Xy.out.below hl)
      replace Hz := Lib.hid (Hz.out.below hl)
      have Xz : Hid (BoxAt (w8.alloc (.cells #[.int .i64 zk, .slice za zn zc] 26)) w8.heap.size #[.int .i64 zk, .slice za zn zc]) := BoxAt.new _ _ _
      clear hl
      obtain ⟨hok, htt⟩ := ParseTyEnd.agree Py.out Qy.out Pz.out Qz.out
      subst hok
      subst htt
      clear Pz Qz Qy Hz Xz
      have n1 : (fine == fine) = true := by cases fine <;> rfl
      cases fine with
      | false =>
        go_wp2_with fail
        go_ret
        exact ⟨rfl, B.out⟩
      | true =>
        have hr := Py.out rfl
        have HF : Hid (formatText y = u) := by show _ = _; rw [format_good hr.1, hr.2]
        have hys := valid_size hr.1
        clear hr Py
        have hself : (u.toList == u.toList) = true := by simp
        have cy0 := Xy.out.2 0
        have cy1 := Xy.out.2 1
        go_wp2_with fail
        clear cy0 cy1
        refine (implFormatType 25 _ y _ Hy.out (by omega)).mono ?_
        rintro e w9 ⟨rfl, hb⟩
        rw [HF.out]
        replace B := Lib.hid (below_thru B.out (Nat.le_refl _) hb)
        clear hb
        go_wp2_with fail
        go_ret
        exact ⟨rfl, B.out⟩
end Go.Proofs.Ytgoohelkgaklgaa
namespace Go.Proofs.Ytgoohelkgaklgaa.FnTypeText
open Go.ChangeShapes Go.WideShapes Go.ChangeAt Go.RowKit Go.WideMaps Go.WideElems
open Go.ChangeMaps (setBlock shut_map_nil open_string shut_string keptBut_setBlock frozen?_setBlock heap_setBlock_same)
set_option maxRecDepth 100000 in
theorem contract (H : Type) (enc : TypeId × Value → H) (W : World) (base : Nat) (args : Array Value) (ds gs : List (DataW H)) (before : List MemPlace)
    (hval : ∀ (j : Nat) t v, Try.f3.params[j]? = some t → args[j]? = some v → Value.okWide Try.prog W .any base t v)
    (hW : DataW.Whole enc Try.prog Try.f3.params.toList Rows.fnTypeTextSpec.vars false W args.toList ds gs before) 
    (_hsz : (DataW.weightsEach Try.prog (Try.f3.params.toList ++ (OpenSpec.ofChange Rows.fnTypeTextSpec).bare.plain.varTypes Try.prog) (ds ++ gs)).all (· ≤ reachBytes) = true) (_hsh : W.ShapedOpen Try.prog) :
    Calls Try.prog 3 args W fun e W' => ∃ v, e = .returned v ∧ Rows.fnTypeTextSpec.post enc Try.prog Try.f3 false true false false W args v W' := by
  have hW' := hW
  obtain ⟨p, q, hA0, hV, rfl, hfz, hnd⟩ := hW
  have hA : DataW.TrodAll enc Try.prog W 0 (fun _ => true) true Try.f3.params.toList args.toList ds p := hA0
  rw [Try.params3] at hA hval
  obtain ⟨v0, vs0, d0, ds0, p0, q0, hargs, rfl, rfl, h0, r0⟩ := trodAll_cons hA
  obtain ⟨rfl, rfl, rfl⟩ := trodAll_nil r0
  obtain rfl : args = #[v0] := by cases args; simp_all
  obtain ⟨rfl, rfl⟩ := trodVars_none hV
  obtain ⟨m, hc⟩ := CodeArg.of_arg (hval 0 22 v0 rfl rfl) h0
  refine Calls.mono (typeTextWalk v0 m W hc) fun e W' ⟨he, hg⟩ => ?_
  subst he
  exact ⟨_, rfl, Law.law_post hW' rfl (by kernel_rfl) Try.underlying4 (by kernel_rfl) (by kernel_rfl) (fun _ => rfl) hg⟩
set_option maxRecDepth 100000 in
theorem laid_met (os : Os) : laidMet Try.prog Rows.fnTypeTextRow.laid (((World.holding Try.prog os ⟨#[], #[], []⟩)).forCall (fun _ _ => 0) ⟨#[], #[.slice none 0 0], []⟩).memory :=
  laidMet_of_run' 8 (by kernel_rfl) (by kernel_rfl)
theorem reads (os : Os) {H : Type} (enc : TypeId × Value → H) : ∃ places, DataW.whole enc Try.prog (((World.holding Try.prog os ⟨#[], #[], []⟩)).forCall (fun _ _ => 0) ⟨#[], #[.slice none 0 0], []⟩).memory Try.f3.params.toList Rows.fnTypeTextSpec.vars false (#[.slice none 0 0] : Array Value).toList 8 = some ([.nil], [], places) :=
  ⟨[], by kernel_rfl⟩
set_option maxRecDepth 100000 in
theorem lifted (os : Os) (started : os.Started) (H : Type) (enc : TypeId × Value → H) (F : Stop.Interp) :
    ReturnsInHanded {} Try.checked os 3 .any ((OpenSpec.ofChange Rows.fnTypeTextSpec).preRow enc Try.prog Try.f3 Rows.fnTypeTextRow.domain false Rows.fnTypeTextRow.laid) (((OpenSpec.ofChange Rows.fnTypeTextSpec).at F).post enc Try.prog Try.f3 false true false false) := by
  obtain ⟨places, hx⟩ := reads os enc
  refine returnsInHanded_of_row (C := Try.checked) (s := OpenSpec.ofChange Rows.fnTypeTextSpec) (by kernel_rfl) started (by kernel_rfl) Try.func3
    (witness_row_atRef (enc := enc) (C := Try.checked) false (World.holding Try.prog os ⟨#[], #[], []⟩) #[.slice none 0 0] rfl (by kernel_rfl) (by kernel_rfl) (by kernel_rfl)
      (OpenSpec.preRow_of_cond 8 hx (by kernel_rfl) (fun k hk => by cases hk) (by kernel_rfl) (laid_met os))) ?_
  intro W base args ds gs before hval hW _ _ hsz _ hsh _
  exact contract H enc W base args ds gs before hval hW hsz hsh
theorem said : Rows.FnTypeTextSaid :=
  OpenClaim.holds_of_cond 3 Try.f3 rfl rfl rfl rfl rfl rfl rfl ⟨rfl, rfl, rfl, rfl, rfl⟩ rfl rfl rfl rfl rfl (by kernel_rfl) Try.func3 (by kernel_rfl)
    (of_decide_eq_true (by kernel_rfl)) (by unfold Func.isWrapper; first | (rw [if_pos (by decide +kernel)]; kernel_rfl) | (rw [if_neg (by decide +kernel)]; exact ⟨rfl, rfl⟩))
    (fun os started H enc _ F => by rw [OpenClaim.pre_eq_preRow]; exact lifted os started H enc F)
end Go.Proofs.Ytgoohelkgaklgaa.FnTypeText
