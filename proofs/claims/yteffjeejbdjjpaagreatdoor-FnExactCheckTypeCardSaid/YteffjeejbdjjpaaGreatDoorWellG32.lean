/-
  Proved: spec.l9Syn: what an expression synthesizes, kind by kind.
-/
import Derived.Test.YteffjeejbdjjpaaGreatDoorWellG27
import Derived.Test.YteffjeejbdjjpaaGreatDoorWellG29
import Derived.Test.YteffjeejbdjjpaaGreatDoorWellG30
import Derived.Test.YteffjeejbdjjpaaGreatDoorWellG28
import Derived.Test.YteffjeejbdjjpaaGreatDoorWellG31
import Derived.Test.YteffjeejbdjjpaaGreatDoorWellG14
import Derived.Test.YteffjeejbdjjpaaGreatDoorWellG11
import Derived.Test.YteffjeejbdjjpaaGreatDoorWellG20
namespace Go.Proofs.YteffjeejbdjjpaaGreatDoor
open Go.RowKit

set_option maxRecDepth 100000 in
set_option maxHeartbeats 2000000 in
theorem specSyn1 (d : Nat) (ihs : SpecSynSaid d) (iha : SpecAnaSaid d) (D : Nat) (vc v : Value) (C : List Bi) (nm : ByteArray) (n : Int) (ty : Ty) (es : List Ex) (w : World) (hv : BisAt w D vc C) (he : ExAt w (d + 1) v (.node 1 nm n ty es)) (hok : TypOk C (.node 1 nm n ty es)) :
  Calls Tryz.prog 29 #[vc, v] w (SynEnd (synE (d + 1) C (.node 1 nm n ty es)) w) := by
 have HE := Lib.hid he
 obtain ⟨c3, c4, sl, hx, hk0, hk1, hn0, hn1, hnm, hty, sa, sc, hsl, hcap, hcap2, hat⟩ := he
 subst hsl
 obtain ⟨tk, ta, tn, tc, rfl, rfl⟩ := at_parts hty
 subst hx
 obtain ⟨va, vn, vc1, rfl⟩ : ∃ a n c, vc = .slice a n c := by obtain ⟨a, cap, hv, _⟩ := hv; exact ⟨_, _, _, hv⟩
 have hlen : es.length = 0 := by have h1 := (form_parts hok.1).1; have h2 : arity 1 = 0 := rfl; omega
 have HV := Lib.hid hv
 clear hv
 have HOK := Lib.hid hok
 clear hok hat
 have HTY := Lib.hid hty
 clear hty
 have HNM := Lib.hid hnm
 clear hnm
 have IHS := Lib.hid ihs
 have IHA := Lib.hid iha
 clear ihs iha
 clear hlen
 obtain ⟨w0, hw0, B, hz_w0, XE, FE, XR, FR⟩ := laid2 w #[.int .i64 1, .string nm, .int .i64 n, .int .i64 tk, .slice ta tn tc, .slice sa es.length sc] 40 #[.int .i64 0, .slice none 0 0] 33
 replace B := Lib.hid B
 go_enter Tryz.func29, Tryz.ntmps29
 go_wp2_with fail
 rw [← hw0]
 clear hw0
 refine (specUnknownType _).mono ?_
 rintro e w1 ⟨rfl, hb⟩
 have hz_w1 := hb.size
 replace B := bb B hb
 replace XE := xb XE hb
 replace FE := fb FE hb
 replace XR := xb XR hb
 replace FR := fb FR hb
 clear hb
 have hn1 : ¬ (w1.heap.size = w.heap.size + 1) := by omega
 have hn2 : ¬ (w.heap.size + 1 = w1.heap.size) := by omega
 have hn3 : ¬ (w1.heap.size = w.heap.size) := by omega
 have hn4 : ¬ (w.heap.size = w1.heap.size) := by omega
 obtain ⟨wa2, hwa2, hb, hy_wa2, XT6, FT6⟩ := laid1 w1 #[.int .i64 1, .slice none 0 0] 33
 have hz_wa2 := hb.size
 replace B := bb B hb
 replace XE := xb XE hb
 replace FE := fb FE hb
 replace XR := xb XR hb
 replace FR := fb FR hb
 clear hb
 have cE_0 := XE.out.2 0
 have cE_1 := XE.out.2 1
 have cE_2 := XE.out.2 2
 have cE_3 := XE.out.2 3
 have cE_4 := XE.out.2 4
 have cE_5 := XE.out.2 5
 have cR_0 := XR.out.2 0
 have cR_1 := XR.out.2 1
 have cT6_0 := XT6.out.2 0
 have cT6_1 := XT6.out.2 1
 have fR_0 := FR.out.2 0
 have fR_1 := FR.out.2 1
 have fT6_0 := FT6.out.2 0
 have fT6_1 := FT6.out.2 1
 rw [hwa2] at cE_0
 rw [hwa2] at cE_1
 rw [hwa2] at cE_2
 rw [hwa2] at cE_3
 rw [hwa2] at cE_4
 rw [hwa2] at cE_5
 rw [hwa2] at cR_0
 rw [hwa2] at cR_1
 rw [hwa2] at cT6_0
 rw [hwa2] at cT6_1
 rw [hwa2] at fR_0
 rw [hwa2] at fR_1
 rw [hwa2] at fT6_0
 rw [hwa2] at fT6_1
 go_wp2_with fail
 clear cE_0 cE_1 cE_2 cE_3 cE_4 cE_5 cR_0 cR_1 cT6_0 cT6_1 fR_0 fR_1 fT6_0 fT6_1
 rw [← hwa2]
 clear hwa2
 have HW : Hid (synE (d + 1) C (.node 1 nm n ty es) = some (.node 1 [])) := by show _ = _; rw [synE_succ]; simp [synStep, tyU]
 have XZ := put2_box (u := .int .i64 1) (v := .slice none 0 0) XR.out
 have h0 := XZ.2 0
 have h1 := XZ.2 1
 unfold put2 at h0 h1
 refine bodyPost_ret (v := .tuple #[.agg #[.int .i64 1, .slice none 0 0], .bool true]) (by simp [results, Tryz.results29, go_sem, h0, h1]) rfl ?_
 exact (by (try rw [HW.out]); exact ⟨1, _, _, _, _, rfl, leaf_in _ 1 _ _ (by omega) (by omega) (Nat.le_refl _), put2_below B.out (by omega)⟩)
set_option maxRecDepth 100000 in
set_option maxHeartbeats 2000000 in
theorem specSyn5 (d : Nat) (ihs : SpecSynSaid d) (iha : SpecAnaSaid d) (D : Nat) (vc v : Value) (C : List Bi) (nm : ByteArray) (n : Int) (ty : Ty) (es : List Ex) (w : World) (hv : BisAt w D vc C) (he : ExAt w (d + 1) v (.node 5 nm n ty es)) (hok : TypOk C (.node 5 nm n ty es)) :
  Calls Tryz.prog 29 #[vc, v] w (SynEnd (synE (d + 1) C (.node 5 nm n ty es)) w) := by
 have HE := Lib.hid he
 obtain ⟨c3, c4, sl, hx, hk0, hk1, hn0, hn1, hnm, hty, sa, sc, hsl, hcap, hcap2, hat⟩ := he
 subst hsl
 obtain ⟨tk, ta, tn, tc, rfl, rfl⟩ := at_parts hty
 subst hx
 obtain ⟨va, vn, vc1, rfl⟩ : ∃ a n c, vc = .slice a n c := by obtain ⟨a, cap, hv, _⟩ := hv; exact ⟨_, _, _, hv⟩
 have hlen : es.length = 0 := by have h1 := (form_parts hok.1).1; have h2 : arity 5 = 0 := rfl; omega
 have HV := Lib.hid hv
 clear hv
 have HOK := Lib.hid hok
 clear hok hat
 have HTY := Lib.hid hty
 clear hty
 have HNM := Lib.hid hnm
 clear hnm
 have IHS := Lib.hid ihs
 have IHA := Lib.hid iha
 clear ihs iha
 clear hlen
 obtain ⟨w0, hw0, B, hz_w0, XE, FE, XR, FR⟩ := laid2 w #[.int .i64 5, .string nm, .int .i64 n, .int .i64 tk, .slice ta tn tc, .slice sa es.length sc] 40 #[.int .i64 0, .slice none 0 0] 33
 replace B := Lib.hid B
 go_enter Tryz.func29, Tryz.ntmps29
 go_wp2_with fail
 rw [← hw0]
 clear hw0
 refine (specUnknownType _).mono ?_
 rintro e w1 ⟨rfl, hb⟩
 have hz_w1 := hb.size
 replace B := bb B hb
 replace XE := xb XE hb
 replace FE := fb FE hb
 replace XR := xb XR hb
 replace FR := fb FR hb
 clear hb
 have hn1 : ¬ (w1.heap.size = w.heap.size + 1) := by omega
 have hn2 : ¬ (w.heap.size + 1 = w1.heap.size) := by omega
 have hn3 : ¬ (w1.heap.size = w.heap.size) := by omega
 have hn4 : ¬ (w.heap.size = w1.heap.size) := by omega
 obtain ⟨wa2, hwa2, hb, hy_wa2, XT6, FT6⟩ := laid1 w1 #[.int .i64 1, .slice none 0 0] 33
 have hz_wa2 := hb.size
 replace B := bb B hb
 replace XE := xb XE hb
 replace FE := fb FE hb
 replace XR := xb XR hb
 replace FR := fb FR hb
 clear hb
 have cE_0 := XE.out.2 0
 have cE_1 := XE.out.2 1
 have cE_2 := XE.out.2 2
 have cE_3 := XE.out.2 3
 have cE_4 := XE.out.2 4
 have cE_5 := XE.out.2 5
 have cR_0 := XR.out.2 0
 have cR_1 := XR.out.2 1
 have cT6_0 := XT6.out.2 0
 have cT6_1 := XT6.out.2 1
 have fR_0 := FR.out.2 0
 have fR_1 := FR.out.2 1
 have fT6_0 := FT6.out.2 0
 have fT6_1 := FT6.out.2 1
 rw [hwa2] at cE_0
 rw [hwa2] at cE_1
 rw [hwa2] at cE_2
 rw [hwa2] at cE_3
 rw [hwa2] at cE_4
 rw [hwa2] at cE_5
 rw [hwa2] at cR_0
 rw [hwa2] at cR_1
 rw [hwa2] at cT6_0
 rw [hwa2] at cT6_1
 rw [hwa2] at fR_0
 rw [hwa2] at fR_1
 rw [hwa2] at fT6_0
 rw [hwa2] at fT6_1
 go_wp2_with fail
 clear cE_0 cE_1 cE_2 cE_3 cE_4 cE_5 cR_0 cR_1 cT6_0 cT6_1 fR_0 fR_1 fT6_0 fT6_1
 rw [← hwa2]
 clear hwa2
 refine (specNumType _).mono ?_
 rintro e w3 ⟨rfl, hb⟩
 have hz_w3 := hb.size
 replace B := bb B hb
 replace XE := xb XE hb
 replace FE := fb FE hb
 replace XR := xb XR hb
 replace FR := fb FR hb
 replace XT6 := xb XT6 hb
 replace FT6 := fb FT6 hb
 clear hb
 have cR_0 := XR.out.2 0
 have cR_1 := XR.out.2 1
 have cT6_0 := XT6.out.2 0
 have cT6_1 := XT6.out.2 1
 have fR_0 := FR.out.2 0
 have fR_1 := FR.out.2 1
 have fT6_0 := FT6.out.2 0
 have fT6_1 := FT6.out.2 1
 go_wp2_with fail
 clear cR_0 cR_1 cT6_0 cT6_1 fR_0 fR_1 fT6_0 fT6_1
 obtain ⟨ws4, hws4⟩ : ∃ W, W = put2 w3 (w1.heap.size) (.int .i64 2) (.slice none 0 0) := ⟨_, rfl⟩
 have hy_ws4 : ws4.heap.size = w3.heap.size := by rw [hws4]; exact put2_size
 replace XE := xo hws4 XE (by omega)
 replace FE := fo hws4 FE
 replace XR := xo hws4 XR (by omega)
 replace FR := fo hws4 FR
 replace XT6 := xs hws4 XT6
 replace FT6 := fo hws4 FT6
 replace B := bo hws4 B (by omega)
 unfold put2 at hws4
 rw [← hws4]
 clear hws4
 have HW : Hid (synE (d + 1) C (.node 5 nm n ty es) = some (.node 2 [])) := by show _ = _; rw [synE_succ]; simp [synStep, tyN]
 have XZ := put2_box (u := .int .i64 2) (v := .slice none 0 0) XR.out
 have h0 := XZ.2 0
 have h1 := XZ.2 1
 unfold put2 at h0 h1
 refine bodyPost_ret (v := .tuple #[.agg #[.int .i64 2, .slice none 0 0], .bool true]) (by simp [results, Tryz.results29, go_sem, h0, h1]) rfl ?_
 exact (by (try rw [HW.out]); exact ⟨1, _, _, _, _, rfl, leaf_in _ 2 _ _ (by omega) (by omega) (Nat.le_refl _), put2_below B.out (by omega)⟩)
set_option maxRecDepth 100000 in
set_option maxHeartbeats 2000000 in
theorem specSyn8 (d : Nat) (ihs : SpecSynSaid d) (iha : SpecAnaSaid d) (D : Nat) (vc v : Value) (C : List Bi) (nm : ByteArray) (n : Int) (ty : Ty) (es : List Ex) (w : World) (hv : BisAt w D vc C) (he : ExAt w (d + 1) v (.node 8 nm n ty es)) (hok : TypOk C (.node 8 nm n ty es)) :
  Calls Tryz.prog 29 #[vc, v] w (SynEnd (synE (d + 1) C (.node 8 nm n ty es)) w) := by
 have HE := Lib.hid he
 obtain ⟨c3, c4, sl, hx, hk0, hk1, hn0, hn1, hnm, hty, sa, sc, hsl, hcap, hcap2, hat⟩ := he
 subst hsl
 obtain ⟨tk, ta, tn, tc, rfl, rfl⟩ := at_parts hty
 subst hx
 obtain ⟨va, vn, vc1, rfl⟩ : ∃ a n c, vc = .slice a n c := by obtain ⟨a, cap, hv, _⟩ := hv; exact ⟨_, _, _, hv⟩
 have hlen : es.length = 0 := by have h1 := (form_parts hok.1).1; have h2 : arity 8 = 0 := rfl; omega
 have HV := Lib.hid hv
 clear hv
 have HOK := Lib.hid hok
 clear hok hat
 have HTY := Lib.hid hty
 clear hty
 have HNM := Lib.hid hnm
 clear hnm
 have IHS := Lib.hid ihs
 have IHA := Lib.hid iha
 clear ihs iha
 clear hlen
 obtain ⟨w0, hw0, B, hz_w0, XE, FE, XR, FR⟩ := laid2 w #[.int .i64 8, .string nm, .int .i64 n, .int .i64 tk, .slice ta tn tc, .slice sa es.length sc] 40 #[.int .i64 0, .slice none 0 0] 33
 replace B := Lib.hid B
 go_enter Tryz.func29, Tryz.ntmps29
 go_wp2_with fail
 rw [← hw0]
 clear hw0
 refine (specUnknownType _).mono ?_
 rintro e w1 ⟨rfl, hb⟩
 have hz_w1 := hb.size
 replace B := bb B hb
 replace XE := xb XE hb
 replace FE := fb FE hb
 replace XR := xb XR hb
 replace FR := fb FR hb
 clear hb
 have hn1 : ¬ (w1.heap.size = w.heap.size + 1) := by omega
 have hn2 : ¬ (w.heap.size + 1 = w1.heap.size) := by omega
 have hn3 : ¬ (w1.heap.size = w.heap.size) := by omega
 have hn4 : ¬ (w.heap.size = w1.heap.size) := by omega
 obtain ⟨wa2, hwa2, hb, hy_wa2, XT6, FT6⟩ := laid1 w1 #[.int .i64 1, .slice none 0 0] 33
 have hz_wa2 := hb.size
 replace B := bb B hb
 replace XE := xb XE hb
 replace FE := fb FE hb
 replace XR := xb XR hb
 replace FR := fb FR hb
 clear hb
 have cE_0 := XE.out.2 0
 have cE_1 := XE.out.2 1
 have cE_2 := XE.out.2 2
 have cE_3 := XE.out.2 3
 have cE_4 := XE.out.2 4
 have cE_5 := XE.out.2 5
 have cR_0 := XR.out.2 0
 have cR_1 := XR.out.2 1
 have cT6_0 := XT6.out.2 0
 have cT6_1 := XT6.out.2 1
 have fR_0 := FR.out.2 0
 have fR_1 := FR.out.2 1
 have fT6_0 := FT6.out.2 0
 have fT6_1 := FT6.out.2 1
 rw [hwa2] at cE_0
 rw [hwa2] at cE_1
 rw [hwa2] at cE_2
 rw [hwa2] at cE_3
 rw [hwa2] at cE_4
 rw [hwa2] at cE_5
 rw [hwa2] at cR_0
 rw [hwa2] at cR_1
 rw [hwa2] at cT6_0
 rw [hwa2] at cT6_1
 rw [hwa2] at fR_0
 rw [hwa2] at fR_1
 rw [hwa2] at fT6_0
 rw [hwa2] at fT6_1
 go_wp2_with fail
 clear cE_0 cE_1 cE_2 cE_3 cE_4 cE_5 cR_0 cR_1 cT6_0 cT6_1 fR_0 fR_1 fT6_0 fT6_1
 rw [← hwa2]
 clear hwa2
 refine (specBoolType _).mono ?_
 rintro e w3 ⟨rfl, hb⟩
 have hz_w3 := hb.size
 replace B := bb B hb
 replace XE := xb XE hb
 replace FE := fb FE hb
 replace XR := xb XR hb
 replace FR := fb FR hb
 replace XT6 := xb XT6 hb
 replace FT6 := fb FT6 hb
 clear hb
 have cR_0 := XR.out.2 0
 have cR_1 := XR.out.2 1
 have cT6_0 := XT6.out.2 0
 have cT6_1 := XT6.out.2 1
 have fR_0 := FR.out.2 0
 have fR_1 := FR.out.2 1
 have fT6_0 := FT6.out.2 0
 have fT6_1 := FT6.out.2 1
 go_wp2_with fail
 clear cR_0 cR_1 cT6_0 cT6_1 fR_0 fR_1 fT6_0 fT6_1
 obtain ⟨ws4, hws4⟩ : ∃ W, W = put2 w3 (w1.heap.size) (.int .i64 3) (.slice none 0 0) := ⟨_, rfl⟩
 have hy_ws4 : ws4.heap.size = w3.heap.size := by rw [hws4]; exact put2_size
 replace XE := xo hws4 XE (by omega)
 replace FE := fo hws4 FE
 replace XR := xo hws4 XR (by omega)
 replace FR := fo hws4 FR
 replace XT6 := xs hws4 XT6
 replace FT6 := fo hws4 FT6
 replace B := bo hws4 B (by omega)
 unfold put2 at hws4
 rw [← hws4]
 clear hws4
 have HW : Hid (synE (d + 1) C (.node 8 nm n ty es) = some (.node 3 [])) := by show _ = _; rw [synE_succ]; simp [synStep, tyB]
 have XZ := put2_box (u := .int .i64 3) (v := .slice none 0 0) XR.out
 have h0 := XZ.2 0
 have h1 := XZ.2 1
 unfold put2 at h0 h1
 refine bodyPost_ret (v := .tuple #[.agg #[.int .i64 3, .slice none 0 0], .bool true]) (by simp [results, Tryz.results29, go_sem, h0, h1]) rfl ?_
 exact (by (try rw [HW.out]); exact ⟨1, _, _, _, _, rfl, leaf_in _ 3 _ _ (by omega) (by omega) (Nat.le_refl _), put2_below B.out (by omega)⟩)
set_option maxRecDepth 100000 in
set_option maxHeartbeats 2000000 in
theorem specSyn2 (d : Nat) (ihs : SpecSynSaid d) (iha : SpecAnaSaid d) (D : Nat) (vc v : Value) (C : List Bi) (nm : ByteArray) (n : Int) (ty : Ty) (es : List Ex) (w : World) (hv : BisAt w D vc C) (he : ExAt w (d + 1) v (.node 2 nm n ty es)) (hok : TypOk C (.node 2 nm n ty es)) :
  Calls Tryz.prog 29 #[vc, v] w (SynEnd (synE (d + 1) C (.node 2 nm n ty es)) w) := by
 have HE := Lib.hid he
 obtain ⟨c3, c4, sl, hx, hk0, hk1, hn0, hn1, hnm, hty, sa, sc, hsl, hcap, hcap2, hat⟩ := he
 subst hsl
 obtain ⟨tk, ta, tn, tc, rfl, rfl⟩ := at_parts hty
 subst hx
 obtain ⟨va, vn, vc1, rfl⟩ : ∃ a n c, vc = .slice a n c := by obtain ⟨a, cap, hv, _⟩ := hv; exact ⟨_, _, _, hv⟩
 have hlen : es.length = 0 := by have h1 := (form_parts hok.1).1; have h2 : arity 2 = 0 := rfl; omega
 have HV := Lib.hid hv
 clear hv
 have HOK := Lib.hid hok
 clear hok hat
 have HTY := Lib.hid hty
 clear hty
 have HNM := Lib.hid hnm
 clear hnm
 have IHS := Lib.hid ihs
 have IHA := Lib.hid iha
 clear ihs iha
 clear hlen
 have hx2 : synE (d + 1) C (.node 2 nm n ty es) = Bi.look C nm := by rw [synE_succ]; simp [synStep]
 obtain ⟨r, hr⟩ : ∃ r, Bi.look C nm = r := ⟨_, rfl⟩
 have HS := Lib.hid hr
 have HX : Hid (synE (d + 1) C (.node 2 nm n ty es) = r) := Lib.hid (hx2.trans hr)
 rw [HX.out]
 clear hx2 hr
 obtain ⟨w0, hw0, B, hz_w0, XE, FE, XR, FR⟩ := laid2 w #[.int .i64 2, .string nm, .int .i64 n, .int .i64 tk, .slice ta tn tc, .slice sa es.length sc] 40 #[.int .i64 0, .slice none 0 0] 33
 replace B := Lib.hid B
 go_enter Tryz.func29, Tryz.ntmps29
 go_wp2_with fail
 rw [← hw0]
 clear hw0
 refine (specUnknownType _).mono ?_
 rintro e w1 ⟨rfl, hb⟩
 have hz_w1 := hb.size
 replace B := bb B hb
 replace XE := xb XE hb
 replace FE := fb FE hb
 replace XR := xb XR hb
 replace FR := fb FR hb
 clear hb
 have hn1 : ¬ (w1.heap.size = w.heap.size + 1) := by omega
 have hn2 : ¬ (w.heap.size + 1 = w1.heap.size) := by omega
 have hn3 : ¬ (w1.heap.size = w.heap.size) := by omega
 have hn4 : ¬ (w.heap.size = w1.heap.size) := by omega
 obtain ⟨wa2, hwa2, hb, hy_wa2, XT6, FT6⟩ := laid1 w1 #[.int .i64 1, .slice none 0 0] 33
 have hz_wa2 := hb.size
 replace B := bb B hb
 replace XE := xb XE hb
 replace FE := fb FE hb
 replace XR := xb XR hb
 replace FR := fb FR hb
 clear hb
 have cE_0 := XE.out.2 0
 have cE_1 := XE.out.2 1
 have cE_2 := XE.out.2 2
 have cE_3 := XE.out.2 3
 have cE_4 := XE.out.2 4
 have cE_5 := XE.out.2 5
 have cR_0 := XR.out.2 0
 have cR_1 := XR.out.2 1
 have cT6_0 := XT6.out.2 0
 have cT6_1 := XT6.out.2 1
 have fR_0 := FR.out.2 0
 have fR_1 := FR.out.2 1
 have fT6_0 := FT6.out.2 0
 have fT6_1 := FT6.out.2 1
 rw [hwa2] at cE_0
 rw [hwa2] at cE_1
 rw [hwa2] at cE_2
 rw [hwa2] at cE_3
 rw [hwa2] at cE_4
 rw [hwa2] at cE_5
 rw [hwa2] at cR_0
 rw [hwa2] at cR_1
 rw [hwa2] at cT6_0
 rw [hwa2] at cT6_1
 rw [hwa2] at fR_0
 rw [hwa2] at fR_1
 rw [hwa2] at fT6_0
 rw [hwa2] at fT6_1
 go_wp2_with fail
 clear cE_0 cE_1 cE_2 cE_3 cE_4 cE_5 cR_0 cR_1 cT6_0 cT6_1 fR_0 fR_1 fT6_0 fT6_1
 rw [← hwa2]
 clear hwa2
 have CS := (specLook D _ nm C _ (HV.out.below B.out) (by have := HOK.out.2.2.1; omega)).mono (fun _ _ h => look_b h)
 rw [HS.out] at CS
 refine (CS).mono ?_
 rintro e w3 ⟨DL, lk, la, ln, lc, rfl, ho, hb⟩
 have Ol := Lib.hid ho
 clear ho
 have hz_w3 := hb.size
 replace B := bb B hb
 replace XE := xb XE hb
 replace FE := fb FE hb
 replace XR := xb XR hb
 replace FR := fb FR hb
 replace XT6 := xb XT6 hb
 replace FT6 := fb FT6 hb
 clear hb
 cases r with
 | none =>
  have cR_0 := XR.out.2 0
  have cR_1 := XR.out.2 1
  have cT6_0 := XT6.out.2 0
  have cT6_1 := XT6.out.2 1
  have fR_0 := FR.out.2 0
  have fR_1 := FR.out.2 1
  have fT6_0 := FT6.out.2 0
  have fT6_1 := FT6.out.2 1
  go_wp2_with fail
  clear cR_0 cR_1 cT6_0 cT6_1 fR_0 fR_1 fT6_0 fT6_1
  obtain ⟨ws4, hws4⟩ : ∃ W, W = put2 w3 (w1.heap.size) (.int .i64 lk) (.slice la ln lc) := ⟨_, rfl⟩
  have hy_ws4 : ws4.heap.size = w3.heap.size := by rw [hws4]; exact put2_size
  replace XE := xo hws4 XE (by omega)
  replace FE := fo hws4 FE
  replace XR := xo hws4 XR (by omega)
  replace FR := fo hws4 FR
  replace XT6 := xs hws4 XT6
  replace FT6 := fo hws4 FT6
  replace Ol := oo hws4 Ol (by omega)
  replace B := bo hws4 B (by omega)
  unfold put2 at hws4
  rw [← hws4]
  clear hws4
  have HW : Hid (synE (d + 1) C (.node 2 nm n ty es) = none) := HX
  have XZ := put2_box (u := .int .i64 0) (v := .slice none 0 0) XR.out
  have h0 := XZ.2 0
  have h1 := XZ.2 1
  unfold put2 at h0 h1
  refine bodyPost_ret (v := .tuple #[.agg #[.int .i64 0, .slice none 0 0], .bool false]) (by simp [results, Tryz.results29, go_sem, h0, h1]) rfl ?_
  exact (by (try rw [HW.out]); exact ⟨1, _, _, _, _, rfl, leaf_in _ 0 _ _ (by omega) (by omega) (Nat.le_refl _), put2_below B.out (by omega)⟩)
 | some tx =>
  have cR_0 := XR.out.2 0
  have cR_1 := XR.out.2 1
  have cT6_0 := XT6.out.2 0
  have cT6_1 := XT6.out.2 1
  have fR_0 := FR.out.2 0
  have fR_1 := FR.out.2 1
  have fT6_0 := FT6.out.2 0
  have fT6_1 := FT6.out.2 1
  go_wp2_with fail
  clear cR_0 cR_1 cT6_0 cT6_1 fR_0 fR_1 fT6_0 fT6_1
  obtain ⟨ws4, hws4⟩ : ∃ W, W = put2 w3 (w1.heap.size) (.int .i64 lk) (.slice la ln lc) := ⟨_, rfl⟩
  have hy_ws4 : ws4.heap.size = w3.heap.size := by rw [hws4]; exact put2_size
  replace XE := xo hws4 XE (by omega)
  replace FE := fo hws4 FE
  replace XR := xo hws4 XR (by omega)
  replace FR := fo hws4 FR
  replace XT6 := xs hws4 XT6
  replace FT6 := fo hws4 FT6
  replace Ol := oo hws4 Ol (by omega)
  replace B := bo hws4 B (by omega)
  unfold put2 at hws4
  rw [← hws4]
  clear hws4
  have HW : Hid (synE (d + 1) C (.node 2 nm n ty es) = some tx) := HX
  have htop := own_top Ol.out
  have XZ := put2_box (u := .int .i64 lk) (v := .slice la ln lc) XR.out
  have h0 := XZ.2 0
  have h1 := XZ.2 1
  unfold put2 at h0 h1
  refine bodyPost_ret (v := .tuple #[.agg #[.int .i64 lk, .slice la ln lc], .bool true]) (by simp [results, Tryz.results29, go_sem, h0, h1]) rfl ?_
  exact (by (try rw [HW.out]); exact ⟨DL, _, _, _, _, rfl, (put2_own Ol.out (by omega)).widen (by omega) (by first | (simp; omega) | simp) (Nat.le_refl _), put2_below B.out (by omega)⟩)
set_option maxRecDepth 100000 in
set_option maxHeartbeats 2000000 in
theorem specSyn3 (d : Nat) (ihs : SpecSynSaid d) (iha : SpecAnaSaid d) (D : Nat) (vc v : Value) (C : List Bi) (nm : ByteArray) (n : Int) (ty : Ty) (es : List Ex) (w : World) (hv : BisAt w D vc C) (he : ExAt w (d + 1) v (.node 3 nm n ty es)) (hok : TypOk C (.node 3 nm n ty es)) :
  Calls Tryz.prog 29 #[vc, v] w (SynEnd (synE (d + 1) C (.node 3 nm n ty es)) w) := by
 have HE := Lib.hid he
 obtain ⟨c3, c4, sl, hx, hk0, hk1, hn0, hn1, hnm, hty, sa, sc, hsl, hcap, hcap2, hat⟩ := he
 subst hsl
 obtain ⟨tk, ta, tn, tc, rfl, rfl⟩ := at_parts hty
 subst hx
 obtain ⟨va, vn, vc1, rfl⟩ : ∃ a n c, vc = .slice a n c := by obtain ⟨a, cap, hv, _⟩ := hv; exact ⟨_, _, _, hv⟩
 have hlen : es.length = 1 := by have h1 := (form_parts hok.1).1; have h2 : arity 3 = 1 := rfl; omega
 have hq0 : 0 < es.length := by omega
 obtain ⟨b, off, q0_0, q0_1, q0_2, q0_3, q0_4, q0_5, e0, hbl, z0_0, z0_1, z0_2, z0_3, z0_4, z0_5, ht0⟩ := hat 0 hq0
 subst e0
 obtain ⟨xk, xnm, xn, xtk, xta, xtn, xtc, xsa, xsm, xsc, rfl, rfl, rfl, rfl, rfl, rfl⟩ := ex_cells ht0
 simp only [Nat.zero_mul, Nat.add_zero] at z0_0 z0_1 z0_2 z0_3 z0_4 z0_5
 have K0_0 := Lib.hid z0_0
 have K0_1 := Lib.hid z0_1
 have K0_2 := Lib.hid z0_2
 have K0_3 := Lib.hid z0_3
 have K0_4 := Lib.hid z0_4
 have K0_5 := Lib.hid z0_5
 clear z0_0 z0_1 z0_2 z0_3 z0_4 z0_5
 have HT0 := Lib.hid ht0
 clear ht0
 have HV := Lib.hid hv
 clear hv
 have HOK := Lib.hid hok
 clear hok hat
 have HTY := Lib.hid hty
 clear hty
 have HNM := Lib.hid hnm
 clear hnm
 have IHS := Lib.hid ihs
 have IHA := Lib.hid iha
 clear ihs iha
 rw [hlen] at HE ⊢
 clear hlen
 obtain ⟨r, hr⟩ : ∃ r, synE (d + 1) C (.node 3 nm n ty es) = r := ⟨_, rfl⟩
 have HS := Lib.hid hr
 have HX := Lib.hid hr
 rw [hr]
 clear hr
 obtain ⟨w0, hw0, B, hz_w0, XE, FE, XR, FR⟩ := laid2 w #[.int .i64 3, .string nm, .int .i64 n, .int .i64 tk, .slice ta tn tc, .slice (some ⟨b, off, none⟩) 1 sc] 40 #[.int .i64 0, .slice none 0 0] 33
 replace B := Lib.hid B
 go_enter Tryz.func29, Tryz.ntmps29
 go_wp2_with fail
 rw [← hw0]
 clear hw0
 refine (specUnknownType _).mono ?_
 rintro e w1 ⟨rfl, hb⟩
 have hz_w1 := hb.size
 replace B := bb B hb
 replace XE := xb XE hb
 replace FE := fb FE hb
 replace XR := xb XR hb
 replace FR := fb FR hb
 clear hb
 have hn1 : ¬ (w1.heap.size = w.heap.size + 1) := by omega
 have hn2 : ¬ (w.heap.size + 1 = w1.heap.size) := by omega
 have hn3 : ¬ (w1.heap.size = w.heap.size) := by omega
 have hn4 : ¬ (w.heap.size = w1.heap.size) := by omega
 obtain ⟨wa2, hwa2, hb, hy_wa2, XT6, FT6⟩ := laid1 w1 #[.int .i64 1, .slice none 0 0] 33
 have hz_wa2 := hb.size
 replace B := bb B hb
 replace XE := xb XE hb
 replace FE := fb FE hb
 replace XR := xb XR hb
 replace FR := fb FR hb
 clear hb
 have cE_0 := XE.out.2 0
 have cE_1 := XE.out.2 1
 have cE_2 := XE.out.2 2
 have cE_3 := XE.out.2 3
 have cE_4 := XE.out.2 4
 have cE_5 := XE.out.2 5
 have cR_0 := XR.out.2 0
 have cR_1 := XR.out.2 1
 have cT6_0 := XT6.out.2 0
 have cT6_1 := XT6.out.2 1
 have fR_0 := FR.out.2 0
 have fR_1 := FR.out.2 1
 have fT6_0 := FT6.out.2 0
 have fT6_1 := FT6.out.2 1
 rw [hwa2] at cE_0
 rw [hwa2] at cE_1
 rw [hwa2] at cE_2
 rw [hwa2] at cE_3
 rw [hwa2] at cE_4
 rw [hwa2] at cE_5
 rw [hwa2] at cR_0
 rw [hwa2] at cR_1
 rw [hwa2] at cT6_0
 rw [hwa2] at cT6_1
 rw [hwa2] at fR_0
 rw [hwa2] at fR_1
 rw [hwa2] at fT6_0
 rw [hwa2] at fT6_1
 go_wp2_with fail
 clear cE_0 cE_1 cE_2 cE_3 cE_4 cE_5 cR_0 cR_1 cT6_0 cT6_1 fR_0 fR_1 fT6_0 fT6_1
 rw [← hwa2]
 clear hwa2
 have CS := specTwo3 d IHS.out D _ _ C nm n ty es _ (HV.out.below B.out) (HE.out.below B.out) HOK.out
 rw [HS.out] at CS
 refine (CS).mono ?_
 rintro e w3 ⟨DL, lk, la, ln, lc, tt, rfl, ho, hi, hb⟩
 have Ol := Lib.hid ho
 clear ho
 have hz_w3 := hb.size
 replace B := bb B hb
 replace XE := xb XE hb
 replace FE := fb FE hb
 replace XR := xb XR hb
 replace FR := fb FR hb
 replace XT6 := xb XT6 hb
 replace FT6 := fb FT6 hb
 clear hb
 cases r with
 | none =>
  have cR_0 := XR.out.2 0
  have cR_1 := XR.out.2 1
  have cT6_0 := XT6.out.2 0
  have cT6_1 := XT6.out.2 1
  have fR_0 := FR.out.2 0
  have fR_1 := FR.out.2 1
  have fT6_0 := FT6.out.2 0
  have fT6_1 := FT6.out.2 1
  go_wp2_with fail
  clear cR_0 cR_1 cT6_0 cT6_1 fR_0 fR_1 fT6_0 fT6_1
  obtain ⟨ws4, hws4⟩ : ∃ W, W = put2 w3 (w1.heap.size) (.int .i64 lk) (.slice la ln lc) := ⟨_, rfl⟩
  have hy_ws4 : ws4.heap.size = w3.heap.size := by rw [hws4]; exact put2_size
  replace XE := xo hws4 XE (by omega)
  replace FE := fo hws4 FE
  replace XR := xo hws4 XR (by omega)
  replace FR := fo hws4 FR
  replace XT6 := xs hws4 XT6
  replace FT6 := fo hws4 FT6
  replace Ol := oo hws4 Ol (by omega)
  replace B := bo hws4 B (by omega)
  unfold put2 at hws4
  rw [← hws4]
  clear hws4
  have HW : Hid (synE (d + 1) C (.node 3 nm n ty es) = none) := HX
  have XZ := put2_box (u := .int .i64 0) (v := .slice none 0 0) XR.out
  have h0 := XZ.2 0
  have h1 := XZ.2 1
  unfold put2 at h0 h1
  refine bodyPost_ret (v := .tuple #[.agg #[.int .i64 0, .slice none 0 0], .bool false]) (by simp [results, Tryz.results29, go_sem, h0, h1]) rfl ?_
  exact (by (try rw [HW.out]); exact ⟨1, _, _, _, _, rfl, leaf_in _ 0 _ _ (by omega) (by omega) (Nat.le_refl _), put2_below B.out (by omega)⟩)
 | some tx =>
  obtain rfl : tt = tx := hi tx rfl
  have cR_0 := XR.out.2 0
  have cR_1 := XR.out.2 1
  have cT6_0 := XT6.out.2 0
  have cT6_1 := XT6.out.2 1
  have fR_0 := FR.out.2 0
  have fR_1 := FR.out.2 1
  have fT6_0 := FT6.out.2 0
  have fT6_1 := FT6.out.2 1
  go_wp2_with fail
  clear cR_0 cR_1 cT6_0 cT6_1 fR_0 fR_1 fT6_0 fT6_1
  obtain ⟨ws4, hws4⟩ : ∃ W, W = put2 w3 (w1.heap.size) (.int .i64 lk) (.slice la ln lc) := ⟨_, rfl⟩
  have hy_ws4 : ws4.heap.size = w3.heap.size := by rw [hws4]; exact put2_size
  replace XE := xo hws4 XE (by omega)
  replace FE := fo hws4 FE
  replace XR := xo hws4 XR (by omega)
  replace FR := fo hws4 FR
  replace XT6 := xs hws4 XT6
  replace FT6 := fo hws4 FT6
  replace Ol := oo hws4 Ol (by omega)
  replace B := bo hws4 B (by omega)
  unfold put2 at hws4
  rw [← hws4]
  clear hws4
  have HW : Hid (synE (d + 1) C (.node 3 nm n ty es) = some tt) := HX
  have htop := own_top Ol.out
  have XZ := put2_box (u := .int .i64 lk) (v := .slice la ln lc) XR.out
  have h0 := XZ.2 0
  have h1 := XZ.2 1
  unfold put2 at h0 h1
  refine bodyPost_ret (v := .tuple #[.agg #[.int .i64 lk, .slice la ln lc], .bool true]) (by simp [results, Tryz.results29, go_sem, h0, h1]) rfl ?_
  exact (by (try rw [HW.out]); exact ⟨DL, _, _, _, _, rfl, (put2_own Ol.out (by omega)).widen (by omega) (by first | (simp; omega) | simp) (Nat.le_refl _), put2_below B.out (by omega)⟩)
set_option maxRecDepth 100000 in
set_option maxHeartbeats 2000000 in
theorem specSyn4 (d : Nat) (ihs : SpecSynSaid d) (iha : SpecAnaSaid d) (D : Nat) (vc v : Value) (C : List Bi) (nm : ByteArray) (n : Int) (ty : Ty) (es : List Ex) (w : World) (hv : BisAt w D vc C) (he : ExAt w (d + 1) v (.node 4 nm n ty es)) (hok : TypOk C (.node 4 nm n ty es)) :
  Calls Tryz.prog 29 #[vc, v] w (SynEnd (synE (d + 1) C (.node 4 nm n ty es)) w) := by
 have HE := Lib.hid he
 obtain ⟨c3, c4, sl, hx, hk0, hk1, hn0, hn1, hnm, hty, sa, sc, hsl, hcap, hcap2, hat⟩ := he
 subst hsl
 obtain ⟨tk, ta, tn, tc, rfl, rfl⟩ := at_parts hty
 subst hx
 obtain ⟨va, vn, vc1, rfl⟩ : ∃ a n c, vc = .slice a n c := by obtain ⟨a, cap, hv, _⟩ := hv; exact ⟨_, _, _, hv⟩
 have hlen : es.length = 2 := by have h1 := (form_parts hok.1).1; have h2 : arity 4 = 2 := rfl; omega
 have hq0 : 0 < es.length := by omega
 have hq1 : 1 < es.length := by omega
 obtain ⟨b, off, q0_0, q0_1, q0_2, q0_3, q0_4, q0_5, e0, hbl, z0_0, z0_1, z0_2, z0_3, z0_4, z0_5, ht0⟩ := hat 0 hq0
 subst e0
 obtain ⟨xk, xnm, xn, xtk, xta, xtn, xtc, xsa, xsm, xsc, rfl, rfl, rfl, rfl, rfl, rfl⟩ := ex_cells ht0
 simp only [Nat.zero_mul, Nat.add_zero] at z0_0 z0_1 z0_2 z0_3 z0_4 z0_5
 have K0_0 := Lib.hid z0_0
 have K0_1 := Lib.hid z0_1
 have K0_2 := Lib.hid z0_2
 have K0_3 := Lib.hid z0_3
 have K0_4 := Lib.hid z0_4
 have K0_5 := Lib.hid z0_5
 clear z0_0 z0_1 z0_2 z0_3 z0_4 z0_5
 have HT0 := Lib.hid ht0
 clear ht0
 obtain ⟨b1, off1, q1_0, q1_1, q1_2, q1_3, q1_4, q1_5, e1, hbl1, z1_0, z1_1, z1_2, z1_3, z1_4, z1_5, ht1⟩ := hat 1 hq1
 injection e1 with e1
 injection e1 with ea1 eb1
 subst ea1 eb1
 obtain ⟨yk, ynm, yn, ytk, yta, ytn, ytc, ysa, ysm, ysc, rfl, rfl, rfl, rfl, rfl, rfl⟩ := ex_cells ht1
 simp only [Nat.one_mul] at z1_0 z1_1 z1_2 z1_3 z1_4 z1_5
 have K1_0 := Lib.hid z1_0
 have K1_1 := Lib.hid z1_1
 have K1_2 := Lib.hid z1_2
 have K1_3 := Lib.hid z1_3
 have K1_4 := Lib.hid z1_4
 have K1_5 := Lib.hid z1_5
 clear z1_0 z1_1 z1_2 z1_3 z1_4 z1_5
 have HT1 := Lib.hid ht1
 clear ht1
 have HV := Lib.hid hv
 clear hv
 have HOK := Lib.hid hok
 clear hok hat
 have HTY := Lib.hid hty
 clear hty
 have HNM := Lib.hid hnm
 clear hnm
 have IHS := Lib.hid ihs
 have IHA := Lib.hid iha
 clear ihs iha
 rw [hlen] at HE ⊢
 clear hlen
 obtain ⟨r, hr⟩ : ∃ r, synE (d + 1) C (.node 4 nm n ty es) = r := ⟨_, rfl⟩
 have HS := Lib.hid hr
 have HX := Lib.hid hr
 rw [hr]
 clear hr
 obtain ⟨w0, hw0, B, hz_w0, XE, FE, XR, FR⟩ := laid2 w #[.int .i64 4, .string nm, .int .i64 n, .int .i64 tk, .slice ta tn tc, .slice (some ⟨b, off, none⟩) 2 sc] 40 #[.int .i64 0, .slice none 0 0] 33
 replace B := Lib.hid B
 go_enter Tryz.func29, Tryz.ntmps29
 go_wp2_with fail
 rw [← hw0]
 clear hw0
 refine (specUnknownType _).mono ?_
 rintro e w1 ⟨rfl, hb⟩
 have hz_w1 := hb.size
 replace B := bb B hb
 replace XE := xb XE hb
 replace FE := fb FE hb
 replace XR := xb XR hb
 replace FR := fb FR hb
 clear hb
 have hn1 : ¬ (w1.heap.size = w.heap.size + 1) := by omega
 have hn2 : ¬ (w.heap.size + 1 = w1.heap.size) := by omega
 have hn3 : ¬ (w1.heap.size = w.heap.size) := by omega
 have hn4 : ¬ (w.heap.size = w1.heap.size) := by omega
 obtain ⟨wa2, hwa2, hb, hy_wa2, XT6, FT6⟩ := laid1 w1 #[.int .i64 1, .slice none 0 0] 33
 have hz_wa2 := hb.size
 replace B := bb B hb
 replace XE := xb XE hb
 replace FE := fb FE hb
 replace XR := xb XR hb
 replace FR := fb FR hb
 clear hb
 have cE_0 := XE.out.2 0
 have cE_1 := XE.out.2 1
 have cE_2 := XE.out.2 2
 have cE_3 := XE.out.2 3
 have cE_4 := XE.out.2 4
 have cE_5 := XE.out.2 5
 have cR_0 := XR.out.2 0
 have cR_1 := XR.out.2 1
 have cT6_0 := XT6.out.2 0
 have cT6_1 := XT6.out.2 1
 have fR_0 := FR.out.2 0
 have fR_1 := FR.out.2 1
 have fT6_0 := FT6.out.2 0
 have fT6_1 := FT6.out.2 1
 rw [hwa2] at cE_0
 rw [hwa2] at cE_1
 rw [hwa2] at cE_2
 rw [hwa2] at cE_3
 rw [hwa2] at cE_4
 rw [hwa2] at cE_5
 rw [hwa2] at cR_0
 rw [hwa2] at cR_1
 rw [hwa2] at cT6_0
 rw [hwa2] at cT6_1
 rw [hwa2] at fR_0
 rw [hwa2] at fR_1
 rw [hwa2] at fT6_0
 rw [hwa2] at fT6_1
 go_wp2_with fail
 clear cE_0 cE_1 cE_2 cE_3 cE_4 cE_5 cR_0 cR_1 cT6_0 cT6_1 fR_0 fR_1 fT6_0 fT6_1
 rw [← hwa2]
 clear hwa2
 have CS := specAp d IHS.out IHA.out D _ _ C nm n ty es _ (HV.out.below B.out) (HE.out.below B.out) HOK.out
 rw [HS.out] at CS
 refine (CS).mono ?_
 rintro e w3 ⟨DL, lk, la, ln, lc, rfl, ho, hb⟩
 have Ol := Lib.hid ho
 clear ho
 have hz_w3 := hb.size
 replace B := bb B hb
 replace XE := xb XE hb
 replace FE := fb FE hb
 replace XR := xb XR hb
 replace FR := fb FR hb
 replace XT6 := xb XT6 hb
 replace FT6 := fb FT6 hb
 clear hb
 cases r with
 | none =>
  have cR_0 := XR.out.2 0
  have cR_1 := XR.out.2 1
  have cT6_0 := XT6.out.2 0
  have cT6_1 := XT6.out.2 1
  have fR_0 := FR.out.2 0
  have fR_1 := FR.out.2 1
  have fT6_0 := FT6.out.2 0
  have fT6_1 := FT6.out.2 1
  go_wp2_with fail
  clear cR_0 cR_1 cT6_0 cT6_1 fR_0 fR_1 fT6_0 fT6_1
  obtain ⟨ws4, hws4⟩ : ∃ W, W = put2 w3 (w1.heap.size) (.int .i64 lk) (.slice la ln lc) := ⟨_, rfl⟩
  have hy_ws4 : ws4.heap.size = w3.heap.size := by rw [hws4]; exact put2_size
  replace XE := xo hws4 XE (by omega)
  replace FE := fo hws4 FE
  replace XR := xo hws4 XR (by omega)
  replace FR := fo hws4 FR
  replace XT6 := xs hws4 XT6
  replace FT6 := fo hws4 FT6
  replace Ol := oo hws4 Ol (by omega)
  replace B := bo hws4 B (by omega)
  unfold put2 at hws4
  rw [← hws4]
  clear hws4
  have HW : Hid (synE (d + 1) C (.node 4 nm n ty es) = none) := HX
  have XZ := put2_box (u := .int .i64 0) (v := .slice none 0 0) XR.out
  have h0 := XZ.2 0
  have h1 := XZ.2 1
  unfold put2 at h0 h1
  refine bodyPost_ret (v := .tuple #[.agg #[.int .i64 0, .slice none 0 0], .bool false]) (by simp [results, Tryz.results29, go_sem, h0, h1]) rfl ?_
  exact (by (try rw [HW.out]); exact ⟨1, _, _, _, _, rfl, leaf_in _ 0 _ _ (by omega) (by omega) (Nat.le_refl _), put2_below B.out (by omega)⟩)
 | some tx =>
  have cR_0 := XR.out.2 0
  have cR_1 := XR.out.2 1
  have cT6_0 := XT6.out.2 0
  have cT6_1 := XT6.out.2 1
  have fR_0 := FR.out.2 0
  have fR_1 := FR.out.2 1
  have fT6_0 := FT6.out.2 0
  have fT6_1 := FT6.out.2 1
  go_wp2_with fail
  clear cR_0 cR_1 cT6_0 cT6_1 fR_0 fR_1 fT6_0 fT6_1
  obtain ⟨ws4, hws4⟩ : ∃ W, W = put2 w3 (w1.heap.size) (.int .i64 lk) (.slice la ln lc) := ⟨_, rfl⟩
  have hy_ws4 : ws4.heap.size = w3.heap.size := by rw [hws4]; exact put2_size
  replace XE := xo hws4 XE (by omega)
  replace FE := fo hws4 FE
  replace XR := xo hws4 XR (by omega)
  replace FR := fo hws4 FR
  replace XT6 := xs hws4 XT6
  replace FT6 := fo hws4 FT6
  replace Ol := oo hws4 Ol (by omega)
  replace B := bo hws4 B (by omega)
  unfold put2 at hws4
  rw [← hws4]
  clear hws4
  have HW : Hid (synE (d + 1) C (.node 4 nm n ty es) = some tx) := HX
  have htop := own_top Ol.out
  have XZ := put2_box (u := .int .i64 lk) (v := .slice la ln lc) XR.out
  have h0 := XZ.2 0
  have h1 := XZ.2 1
  unfold put2 at h0 h1
  refine bodyPost_ret (v := .tuple #[.agg #[.int .i64 lk, .slice la ln lc], .bool true]) (by simp [results, Tryz.results29, go_sem, h0, h1]) rfl ?_
  exact (by (try rw [HW.out]); exact ⟨DL, _, _, _, _, rfl, (put2_own Ol.out (by omega)).widen (by omega) (by first | (simp; omega) | simp) (Nat.le_refl _), put2_below B.out (by omega)⟩)
set_option maxRecDepth 100000 in
set_option maxHeartbeats 2000000 in
theorem specSyn9 (d : Nat) (ihs : SpecSynSaid d) (iha : SpecAnaSaid d) (D : Nat) (vc v : Value) (C : List Bi) (nm : ByteArray) (n : Int) (ty : Ty) (es : List Ex) (w : World) (hv : BisAt w D vc C) (he : ExAt w (d + 1) v (.node 9 nm n ty es)) (hok : TypOk C (.node 9 nm n ty es)) :
  Calls Tryz.prog 29 #[vc, v] w (SynEnd (synE (d + 1) C (.node 9 nm n ty es)) w) := by
 have HE := Lib.hid he
 obtain ⟨c3, c4, sl, hx, hk0, hk1, hn0, hn1, hnm, hty, sa, sc, hsl, hcap, hcap2, hat⟩ := he
 subst hsl
 obtain ⟨tk, ta, tn, tc, rfl, rfl⟩ := at_parts hty
 subst hx
 obtain ⟨va, vn, vc1, rfl⟩ : ∃ a n c, vc = .slice a n c := by obtain ⟨a, cap, hv, _⟩ := hv; exact ⟨_, _, _, hv⟩
 have hlen : es.length = 3 := by have h1 := (form_parts hok.1).1; have h2 : arity 9 = 3 := rfl; omega
 have hq0 : 0 < es.length := by omega
 have hq1 : 1 < es.length := by omega
 have hq2 : 2 < es.length := by omega
 obtain ⟨b, off, q0_0, q0_1, q0_2, q0_3, q0_4, q0_5, e0, hbl, z0_0, z0_1, z0_2, z0_3, z0_4, z0_5, ht0⟩ := hat 0 hq0
 subst e0
 obtain ⟨xk, xnm, xn, xtk, xta, xtn, xtc, xsa, xsm, xsc, rfl, rfl, rfl, rfl, rfl, rfl⟩ := ex_cells ht0
 simp only [Nat.zero_mul, Nat.add_zero] at z0_0 z0_1 z0_2 z0_3 z0_4 z0_5
 have K0_0 := Lib.hid z0_0
 have K0_1 := Lib.hid z0_1
 have K0_2 := Lib.hid z0_2
 have K0_3 := Lib.hid z0_3
 have K0_4 := Lib.hid z0_4
 have K0_5 := Lib.hid z0_5
 clear z0_0 z0_1 z0_2 z0_3 z0_4 z0_5
 have HT0 := Lib.hid ht0
 clear ht0
 obtain ⟨b1, off1, q1_0, q1_1, q1_2, q1_3, q1_4, q1_5, e1, hbl1, z1_0, z1_1, z1_2, z1_3, z1_4, z1_5, ht1⟩ := hat 1 hq1
 injection e1 with e1
 injection e1 with ea1 eb1
 subst ea1 eb1
 obtain ⟨yk, ynm, yn, ytk, yta, ytn, ytc, ysa, ysm, ysc, rfl, rfl, rfl, rfl, rfl, rfl⟩ := ex_cells ht1
 simp only [Nat.one_mul] at z1_0 z1_1 z1_2 z1_3 z1_4 z1_5
 have K1_0 := Lib.hid z1_0
 have K1_1 := Lib.hid z1_1
 have K1_2 := Lib.hid z1_2
 have K1_3 := Lib.hid z1_3
 have K1_4 := Lib.hid z1_4
 have K1_5 := Lib.hid z1_5
 clear z1_0 z1_1 z1_2 z1_3 z1_4 z1_5
 have HT1 := Lib.hid ht1
 clear ht1
 obtain ⟨b2, off2, q2_0, q2_1, q2_2, q2_3, q2_4, q2_5, e2, hbl2, z2_0, z2_1, z2_2, z2_3, z2_4, z2_5, ht2⟩ := hat 2 hq2
 injection e2 with e2
 injection e2 with ea2 eb2
 subst ea2 eb2
 obtain ⟨zk, znm, zn, ztk, zta, ztn, ztc, zsa, zsm, zsc, rfl, rfl, rfl, rfl, rfl, rfl⟩ := ex_cells ht2
 simp only [Nat.reduceMul] at z2_0 z2_1 z2_2 z2_3 z2_4 z2_5
 have K2_0 := Lib.hid z2_0
 have K2_1 := Lib.hid z2_1
 have K2_2 := Lib.hid z2_2
 have K2_3 := Lib.hid z2_3
 have K2_4 := Lib.hid z2_4
 have K2_5 := Lib.hid z2_5
 clear z2_0 z2_1 z2_2 z2_3 z2_4 z2_5
 have HT2 := Lib.hid ht2
 clear ht2
 have HV := Lib.hid hv
 clear hv
 have HOK := Lib.hid hok
 clear hok hat
 have HTY := Lib.hid hty
 clear hty
 have HNM := Lib.hid hnm
 clear hnm
 have IHS := Lib.hid ihs
 have IHA := Lib.hid iha
 clear ihs iha
 rw [hlen] at HE ⊢
 clear hlen
 obtain ⟨r, hr⟩ : ∃ r, synE (d + 1) C (.node 9 nm n ty es) = r := ⟨_, rfl⟩
 have HS := Lib.hid hr
 have HX := Lib.hid hr
 rw [hr]
 clear hr
 obtain ⟨w0, hw0, B, hz_w0, XE, FE, XR, FR⟩ := laid2 w #[.int .i64 9, .string nm, .int .i64 n, .int .i64 tk, .slice ta tn tc, .slice (some ⟨b, off, none⟩) 3 sc] 40 #[.int .i64 0, .slice none 0 0] 33
 replace B := Lib.hid B
 go_enter Tryz.func29, Tryz.ntmps29
 go_wp2_with fail
 rw [← hw0]
 clear hw0
 refine (specUnknownType _).mono ?_
 rintro e w1 ⟨rfl, hb⟩
 have hz_w1 := hb.size
 replace B := bb B hb
 replace XE := xb XE hb
 replace FE := fb FE hb
 replace XR := xb XR hb
 replace FR := fb FR hb
 clear hb
 have hn1 : ¬ (w1.heap.size = w.heap.size + 1) := by omega
 have hn2 : ¬ (w.heap.size + 1 = w1.heap.size) := by omega
 have hn3 : ¬ (w1.heap.size = w.heap.size) := by omega
 have hn4 : ¬ (w.heap.size = w1.heap.size) := by omega
 obtain ⟨wa2, hwa2, hb, hy_wa2, XT6, FT6⟩ := laid1 w1 #[.int .i64 1, .slice none 0 0] 33
 have hz_wa2 := hb.size
 replace B := bb B hb
 replace XE := xb XE hb
 replace FE := fb FE hb
 replace XR := xb XR hb
 replace FR := fb FR hb
 clear hb
 have cE_0 := XE.out.2 0
 have cE_1 := XE.out.2 1
 have cE_2 := XE.out.2 2
 have cE_3 := XE.out.2 3
 have cE_4 := XE.out.2 4
 have cE_5 := XE.out.2 5
 have cR_0 := XR.out.2 0
 have cR_1 := XR.out.2 1
 have cT6_0 := XT6.out.2 0
 have cT6_1 := XT6.out.2 1
 have fR_0 := FR.out.2 0
 have fR_1 := FR.out.2 1
 have fT6_0 := FT6.out.2 0
 have fT6_1 := FT6.out.2 1
 rw [hwa2] at cE_0
 rw [hwa2] at cE_1
 rw [hwa2] at cE_2
 rw [hwa2] at cE_3
 rw [hwa2] at cE_4
 rw [hwa2] at cE_5
 rw [hwa2] at cR_0
 rw [hwa2] at cR_1
 rw [hwa2] at cT6_0
 rw [hwa2] at cT6_1
 rw [hwa2] at fR_0
 rw [hwa2] at fR_1
 rw [hwa2] at fT6_0
 rw [hwa2] at fT6_1
 go_wp2_with fail
 clear cE_0 cE_1 cE_2 cE_3 cE_4 cE_5 cR_0 cR_1 cT6_0 cT6_1 fR_0 fR_1 fT6_0 fT6_1
 rw [← hwa2]
 clear hwa2
 have CS := specIf d IHS.out IHA.out D _ _ C nm n ty es _ (HV.out.below B.out) (HE.out.below B.out) HOK.out
 rw [HS.out] at CS
 refine (CS).mono ?_
 rintro e w3 ⟨DL, lk, la, ln, lc, rfl, ho, hb⟩
 have Ol := Lib.hid ho
 clear ho
 have hz_w3 := hb.size
 replace B := bb B hb
 replace XE := xb XE hb
 replace FE := fb FE hb
 replace XR := xb XR hb
 replace FR := fb FR hb
 replace XT6 := xb XT6 hb
 replace FT6 := fb FT6 hb
 clear hb
 cases r with
 | none =>
  have cR_0 := XR.out.2 0
  have cR_1 := XR.out.2 1
  have cT6_0 := XT6.out.2 0
  have cT6_1 := XT6.out.2 1
  have fR_0 := FR.out.2 0
  have fR_1 := FR.out.2 1
  have fT6_0 := FT6.out.2 0
  have fT6_1 := FT6.out.2 1
  go_wp2_with fail
  clear cR_0 cR_1 cT6_0 cT6_1 fR_0 fR_1 fT6_0 fT6_1
  obtain ⟨ws4, hws4⟩ : ∃ W, W = put2 w3 (w1.heap.size) (.int .i64 lk) (.slice la ln lc) := ⟨_, rfl⟩
  have hy_ws4 : ws4.heap.size = w3.heap.size := by rw [hws4]; exact put2_size
  replace XE := xo hws4 XE (by omega)
  replace FE := fo hws4 FE
  replace XR := xo hws4 XR (by omega)
  replace FR := fo hws4 FR
  replace XT6 := xs hws4 XT6
  replace FT6 := fo hws4 FT6
  replace Ol := oo hws4 Ol (by omega)
  replace B := bo hws4 B (by omega)
  unfold put2 at hws4
  rw [← hws4]
  clear hws4
  have HW : Hid (synE (d + 1) C (.node 9 nm n ty es) = none) := HX
  have XZ := put2_box (u := .int .i64 0) (v := .slice none 0 0) XR.out
  have h0 := XZ.2 0
  have h1 := XZ.2 1
  unfold put2 at h0 h1
  refine bodyPost_ret (v := .tuple #[.agg #[.int .i64 0, .slice none 0 0], .bool false]) (by simp [results, Tryz.results29, go_sem, h0, h1]) rfl ?_
  exact (by (try rw [HW.out]); exact ⟨1, _, _, _, _, rfl, leaf_in _ 0 _ _ (by omega) (by omega) (Nat.le_refl _), put2_below B.out (by omega)⟩)
 | some tx =>
  have cR_0 := XR.out.2 0
  have cR_1 := XR.out.2 1
  have cT6_0 := XT6.out.2 0
  have cT6_1 := XT6.out.2 1
  have fR_0 := FR.out.2 0
  have fR_1 := FR.out.2 1
  have fT6_0 := FT6.out.2 0
  have fT6_1 := FT6.out.2 1
  go_wp2_with fail
  clear cR_0 cR_1 cT6_0 cT6_1 fR_0 fR_1 fT6_0 fT6_1
  obtain ⟨ws4, hws4⟩ : ∃ W, W = put2 w3 (w1.heap.size) (.int .i64 lk) (.slice la ln lc) := ⟨_, rfl⟩
  have hy_ws4 : ws4.heap.size = w3.heap.size := by rw [hws4]; exact put2_size
  replace XE := xo hws4 XE (by omega)
  replace FE := fo hws4 FE
  replace XR := xo hws4 XR (by omega)
  replace FR := fo hws4 FR
  replace XT6 := xs hws4 XT6
  replace FT6 := fo hws4 FT6
  replace Ol := oo hws4 Ol (by omega)
  replace B := bo hws4 B (by omega)
  unfold put2 at hws4
  rw [← hws4]
  clear hws4
  have HW : Hid (synE (d + 1) C (.node 9 nm n ty es) = some tx) := HX
  have htop := own_top Ol.out
  have XZ := put2_box (u := .int .i64 lk) (v := .slice la ln lc) XR.out
  have h0 := XZ.2 0
  have h1 := XZ.2 1
  unfold put2 at h0 h1
  refine bodyPost_ret (v := .tuple #[.agg #[.int .i64 lk, .slice la ln lc], .bool true]) (by simp [results, Tryz.results29, go_sem, h0, h1]) rfl ?_
  exact (by (try rw [HW.out]); exact ⟨DL, _, _, _, _, rfl, (put2_own Ol.out (by omega)).widen (by omega) (by first | (simp; omega) | simp) (Nat.le_refl _), put2_below B.out (by omega)⟩)
set_option maxRecDepth 100000 in
set_option maxHeartbeats 2000000 in
theorem specSyn10 (d : Nat) (ihs : SpecSynSaid d) (iha : SpecAnaSaid d) (D : Nat) (vc v : Value) (C : List Bi) (nm : ByteArray) (n : Int) (ty : Ty) (es : List Ex) (w : World) (hv : BisAt w D vc C) (he : ExAt w (d + 1) v (.node 10 nm n ty es)) (hok : TypOk C (.node 10 nm n ty es)) :
  Calls Tryz.prog 29 #[vc, v] w (SynEnd (synE (d + 1) C (.node 10 nm n ty es)) w) := by
 have HE := Lib.hid he
 obtain ⟨c3, c4, sl, hx, hk0, hk1, hn0, hn1, hnm, hty, sa, sc, hsl, hcap, hcap2, hat⟩ := he
 subst hsl
 obtain ⟨tk, ta, tn, tc, rfl, rfl⟩ := at_parts hty
 subst hx
 obtain ⟨va, vn, vc1, rfl⟩ : ∃ a n c, vc = .slice a n c := by obtain ⟨a, cap, hv, _⟩ := hv; exact ⟨_, _, _, hv⟩
 have hlen : es.length = 2 := by have h1 := (form_parts hok.1).1; have h2 : arity 10 = 2 := rfl; omega
 have hq0 : 0 < es.length := by omega
 have hq1 : 1 < es.length := by omega
 obtain ⟨b, off, q0_0, q0_1, q0_2, q0_3, q0_4, q0_5, e0, hbl, z0_0, z0_1, z0_2, z0_3, z0_4, z0_5, ht0⟩ := hat 0 hq0
 subst e0
 obtain ⟨xk, xnm, xn, xtk, xta, xtn, xtc, xsa, xsm, xsc, rfl, rfl, rfl, rfl, rfl, rfl⟩ := ex_cells ht0
 simp only [Nat.zero_mul, Nat.add_zero] at z0_0 z0_1 z0_2 z0_3 z0_4 z0_5
 have K0_0 := Lib.hid z0_0
 have K0_1 := Lib.hid z0_1
 have K0_2 := Lib.hid z0_2
 have K0_3 := Lib.hid z0_3
 have K0_4 := Lib.hid z0_4
 have K0_5 := Lib.hid z0_5
 clear z0_0 z0_1 z0_2 z0_3 z0_4 z0_5
 have HT0 := Lib.hid ht0
 clear ht0
 obtain ⟨b1, off1, q1_0, q1_1, q1_2, q1_3, q1_4, q1_5, e1, hbl1, z1_0, z1_1, z1_2, z1_3, z1_4, z1_5, ht1⟩ := hat 1 hq1
 injection e1 with e1
 injection e1 with ea1 eb1
 subst ea1 eb1
 obtain ⟨yk, ynm, yn, ytk, yta, ytn, ytc, ysa, ysm, ysc, rfl, rfl, rfl, rfl, rfl, rfl⟩ := ex_cells ht1
 simp only [Nat.one_mul] at z1_0 z1_1 z1_2 z1_3 z1_4 z1_5
 have K1_0 := Lib.hid z1_0
 have K1_1 := Lib.hid z1_1
 have K1_2 := Lib.hid z1_2
 have K1_3 := Lib.hid z1_3
 have K1_4 := Lib.hid z1_4
 have K1_5 := Lib.hid z1_5
 clear z1_0 z1_1 z1_2 z1_3 z1_4 z1_5
 have HT1 := Lib.hid ht1
 clear ht1
 have HV := Lib.hid hv
 clear hv
 have HOK := Lib.hid hok
 clear hok hat
 have HTY := Lib.hid hty
 clear hty
 have HNM := Lib.hid hnm
 clear hnm
 have IHS := Lib.hid ihs
 have IHA := Lib.hid iha
 clear ihs iha
 rw [hlen] at HE ⊢
 clear hlen
 obtain ⟨r, hr⟩ : ∃ r, synE (d + 1) C (.node 10 nm n ty es) = r := ⟨_, rfl⟩
 have HS := Lib.hid hr
 have HX := Lib.hid hr
 rw [hr]
 clear hr
 obtain ⟨w0, hw0, B, hz_w0, XE, FE, XR, FR⟩ := laid2 w #[.int .i64 10, .string nm, .int .i64 n, .int .i64 tk, .slice ta tn tc, .slice (some ⟨b, off, none⟩) 2 sc] 40 #[.int .i64 0, .slice none 0 0] 33
 replace B := Lib.hid B
 go_enter Tryz.func29, Tryz.ntmps29
 go_wp2_with fail
 rw [← hw0]
 clear hw0
 refine (specUnknownType _).mono ?_
 rintro e w1 ⟨rfl, hb⟩
 have hz_w1 := hb.size
 replace B := bb B hb
 replace XE := xb XE hb
 replace FE := fb FE hb
 replace XR := xb XR hb
 replace FR := fb FR hb
 clear hb
 have hn1 : ¬ (w1.heap.size = w.heap.size + 1) := by omega
 have hn2 : ¬ (w.heap.size + 1 = w1.heap.size) := by omega
 have hn3 : ¬ (w1.heap.size = w.heap.size) := by omega
 have hn4 : ¬ (w.heap.size = w1.heap.size) := by omega
 obtain ⟨wa2, hwa2, hb, hy_wa2, XT6, FT6⟩ := laid1 w1 #[.int .i64 1, .slice none 0 0] 33
 have hz_wa2 := hb.size
 replace B := bb B hb
 replace XE := xb XE hb
 replace FE := fb FE hb
 replace XR := xb XR hb
 replace FR := fb FR hb
 clear hb
 have cE_0 := XE.out.2 0
 have cE_1 := XE.out.2 1
 have cE_2 := XE.out.2 2
 have cE_3 := XE.out.2 3
 have cE_4 := XE.out.2 4
 have cE_5 := XE.out.2 5
 have cR_0 := XR.out.2 0
 have cR_1 := XR.out.2 1
 have cT6_0 := XT6.out.2 0
 have cT6_1 := XT6.out.2 1
 have fR_0 := FR.out.2 0
 have fR_1 := FR.out.2 1
 have fT6_0 := FT6.out.2 0
 have fT6_1 := FT6.out.2 1
 rw [hwa2] at cE_0
 rw [hwa2] at cE_1
 rw [hwa2] at cE_2
 rw [hwa2] at cE_3
 rw [hwa2] at cE_4
 rw [hwa2] at cE_5
 rw [hwa2] at cR_0
 rw [hwa2] at cR_1
 rw [hwa2] at cT6_0
 rw [hwa2] at cT6_1
 rw [hwa2] at fR_0
 rw [hwa2] at fR_1
 rw [hwa2] at fT6_0
 rw [hwa2] at fT6_1
 go_wp2_with fail
 clear cE_0 cE_1 cE_2 cE_3 cE_4 cE_5 cR_0 cR_1 cT6_0 cT6_1 fR_0 fR_1 fT6_0 fT6_1
 rw [← hwa2]
 clear hwa2
 have CS := specTwo10 d IHS.out D _ _ C nm n ty es _ (HV.out.below B.out) (HE.out.below B.out) HOK.out
 rw [HS.out] at CS
 refine (CS).mono ?_
 rintro e w3 ⟨DL, lk, la, ln, lc, tt, rfl, ho, hi, hb⟩
 have Ol := Lib.hid ho
 clear ho
 have hz_w3 := hb.size
 replace B := bb B hb
 replace XE := xb XE hb
 replace FE := fb FE hb
 replace XR := xb XR hb
 replace FR := fb FR hb
 replace XT6 := xb XT6 hb
 replace FT6 := fb FT6 hb
 clear hb
 cases r with
 | none =>
  have cR_0 := XR.out.2 0
  have cR_1 := XR.out.2 1
  have cT6_0 := XT6.out.2 0
  have cT6_1 := XT6.out.2 1
  have fR_0 := FR.out.2 0
  have fR_1 := FR.out.2 1
  have fT6_0 := FT6.out.2 0
  have fT6_1 := FT6.out.2 1
  go_wp2_with fail
  clear cR_0 cR_1 cT6_0 cT6_1 fR_0 fR_1 fT6_0 fT6_1
  obtain ⟨ws4, hws4⟩ : ∃ W, W = put2 w3 (w1.heap.size) (.int .i64 lk) (.slice la ln lc) := ⟨_, rfl⟩
  have hy_ws4 : ws4.heap.size = w3.heap.size := by rw [hws4]; exact put2_size
  replace XE := xo hws4 XE (by omega)
  replace FE := fo hws4 FE
  replace XR := xo hws4 XR (by omega)
  replace FR := fo hws4 FR
  replace XT6 := xs hws4 XT6
  replace FT6 := fo hws4 FT6
  replace Ol := oo hws4 Ol (by omega)
  replace B := bo hws4 B (by omega)
  unfold put2 at hws4
  rw [← hws4]
  clear hws4
  have HW : Hid (synE (d + 1) C (.node 10 nm n ty es) = none) := HX
  have XZ := put2_box (u := .int .i64 0) (v := .slice none 0 0) XR.out
  have h0 := XZ.2 0
  have h1 := XZ.2 1
  unfold put2 at h0 h1
  refine bodyPost_ret (v := .tuple #[.agg #[.int .i64 0, .slice none 0 0], .bool false]) (by simp [results, Tryz.results29, go_sem, h0, h1]) rfl ?_
  exact (by (try rw [HW.out]); exact ⟨1, _, _, _, _, rfl, leaf_in _ 0 _ _ (by omega) (by omega) (Nat.le_refl _), put2_below B.out (by omega)⟩)
 | some tx =>
  obtain rfl : tt = tx := hi tx rfl
  have cR_0 := XR.out.2 0
  have cR_1 := XR.out.2 1
  have cT6_0 := XT6.out.2 0
  have cT6_1 := XT6.out.2 1
  have fR_0 := FR.out.2 0
  have fR_1 := FR.out.2 1
  have fT6_0 := FT6.out.2 0
  have fT6_1 := FT6.out.2 1
  go_wp2_with fail
  clear cR_0 cR_1 cT6_0 cT6_1 fR_0 fR_1 fT6_0 fT6_1
  obtain ⟨ws4, hws4⟩ : ∃ W, W = put2 w3 (w1.heap.size) (.int .i64 lk) (.slice la ln lc) := ⟨_, rfl⟩
  have hy_ws4 : ws4.heap.size = w3.heap.size := by rw [hws4]; exact put2_size
  replace XE := xo hws4 XE (by omega)
  replace FE := fo hws4 FE
  replace XR := xo hws4 XR (by omega)
  replace FR := fo hws4 FR
  replace XT6 := xs hws4 XT6
  replace FT6 := fo hws4 FT6
  replace Ol := oo hws4 Ol (by omega)
  replace B := bo hws4 B (by omega)
  unfold put2 at hws4
  rw [← hws4]
  clear hws4
  have HW : Hid (synE (d + 1) C (.node 10 nm n ty es) = some tt) := HX
  have htop := own_top Ol.out
  have XZ := put2_box (u := .int .i64 lk) (v := .slice la ln lc) XR.out
  have h0 := XZ.2 0
  have h1 := XZ.2 1
  unfold put2 at h0 h1
  refine bodyPost_ret (v := .tuple #[.agg #[.int .i64 lk, .slice la ln lc], .bool true]) (by simp [results, Tryz.results29, go_sem, h0, h1]) rfl ?_
  exact (by (try rw [HW.out]); exact ⟨DL, _, _, _, _, rfl, (put2_own Ol.out (by omega)).widen (by omega) (by first | (simp; omega) | simp) (Nat.le_refl _), put2_below B.out (by omega)⟩)
set_option maxRecDepth 100000 in
set_option maxHeartbeats 2000000 in
theorem specSyn11 (d : Nat) (ihs : SpecSynSaid d) (iha : SpecAnaSaid d) (D : Nat) (vc v : Value) (C : List Bi) (nm : ByteArray) (n : Int) (ty : Ty) (es : List Ex) (w : World) (hv : BisAt w D vc C) (he : ExAt w (d + 1) v (.node 11 nm n ty es)) (hok : TypOk C (.node 11 nm n ty es)) :
  Calls Tryz.prog 29 #[vc, v] w (SynEnd (synE (d + 1) C (.node 11 nm n ty es)) w) := by
 have HE := Lib.hid he
 obtain ⟨c3, c4, sl, hx, hk0, hk1, hn0, hn1, hnm, hty, sa, sc, hsl, hcap, hcap2, hat⟩ := he
 subst hsl
 obtain ⟨tk, ta, tn, tc, rfl, rfl⟩ := at_parts hty
 subst hx
 obtain ⟨va, vn, vc1, rfl⟩ : ∃ a n c, vc = .slice a n c := by obtain ⟨a, cap, hv, _⟩ := hv; exact ⟨_, _, _, hv⟩
 have hlen : es.length = 1 := by have h1 := (form_parts hok.1).1; have h2 : arity 11 = 1 := rfl; omega
 have hq0 : 0 < es.length := by omega
 obtain ⟨b, off, q0_0, q0_1, q0_2, q0_3, q0_4, q0_5, e0, hbl, z0_0, z0_1, z0_2, z0_3, z0_4, z0_5, ht0⟩ := hat 0 hq0
 subst e0
 obtain ⟨xk, xnm, xn, xtk, xta, xtn, xtc, xsa, xsm, xsc, rfl, rfl, rfl, rfl, rfl, rfl⟩ := ex_cells ht0
 simp only [Nat.zero_mul, Nat.add_zero] at z0_0 z0_1 z0_2 z0_3 z0_4 z0_5
 have K0_0 := Lib.hid z0_0
 have K0_1 := Lib.hid z0_1
 have K0_2 := Lib.hid z0_2
 have K0_3 := Lib.hid z0_3
 have K0_4 := Lib.hid z0_4
 have K0_5 := Lib.hid z0_5
 clear z0_0 z0_1 z0_2 z0_3 z0_4 z0_5
 have HT0 := Lib.hid ht0
 clear ht0
 have HV := Lib.hid hv
 clear hv
 have HOK := Lib.hid hok
 clear hok hat
 have HTY := Lib.hid hty
 clear hty
 have HNM := Lib.hid hnm
 clear hnm
 have IHS := Lib.hid ihs
 have IHA := Lib.hid iha
 clear ihs iha
 rw [hlen] at HE ⊢
 clear hlen
 obtain ⟨r, hr⟩ : ∃ r, synE (d + 1) C (.node 11 nm n ty es) = r := ⟨_, rfl⟩
 have HS := Lib.hid hr
 have HX := Lib.hid hr
 rw [hr]
 clear hr
 obtain ⟨w0, hw0, B, hz_w0, XE, FE, XR, FR⟩ := laid2 w #[.int .i64 11, .string nm, .int .i64 n, .int .i64 tk, .slice ta tn tc, .slice (some ⟨b, off, none⟩) 1 sc] 40 #[.int .i64 0, .slice none 0 0] 33
 replace B := Lib.hid B
 go_enter Tryz.func29, Tryz.ntmps29
 go_wp2_with fail
 rw [← hw0]
 clear hw0
 refine (specUnknownType _).mono ?_
 rintro e w1 ⟨rfl, hb⟩
 have hz_w1 := hb.size
 replace B := bb B hb
 replace XE := xb XE hb
 replace FE := fb FE hb
 replace XR := xb XR hb
 replace FR := fb FR hb
 clear hb
 have hn1 : ¬ (w1.heap.size = w.heap.size + 1) := by omega
 have hn2 : ¬ (w.heap.size + 1 = w1.heap.size) := by omega
 have hn3 : ¬ (w1.heap.size = w.heap.size) := by omega
 have hn4 : ¬ (w.heap.size = w1.heap.size) := by omega
 obtain ⟨wa2, hwa2, hb, hy_wa2, XT6, FT6⟩ := laid1 w1 #[.int .i64 1, .slice none 0 0] 33
 have hz_wa2 := hb.size
 replace B := bb B hb
 replace XE := xb XE hb
 replace FE := fb FE hb
 replace XR := xb XR hb
 replace FR := fb FR hb
 clear hb
 have cE_0 := XE.out.2 0
 have cE_1 := XE.out.2 1
 have cE_2 := XE.out.2 2
 have cE_3 := XE.out.2 3
 have cE_4 := XE.out.2 4
 have cE_5 := XE.out.2 5
 have cR_0 := XR.out.2 0
 have cR_1 := XR.out.2 1
 have cT6_0 := XT6.out.2 0
 have cT6_1 := XT6.out.2 1
 have fR_0 := FR.out.2 0
 have fR_1 := FR.out.2 1
 have fT6_0 := FT6.out.2 0
 have fT6_1 := FT6.out.2 1
 rw [hwa2] at cE_0
 rw [hwa2] at cE_1
 rw [hwa2] at cE_2
 rw [hwa2] at cE_3
 rw [hwa2] at cE_4
 rw [hwa2] at cE_5
 rw [hwa2] at cR_0
 rw [hwa2] at cR_1
 rw [hwa2] at cT6_0
 rw [hwa2] at cT6_1
 rw [hwa2] at fR_0
 rw [hwa2] at fR_1
 rw [hwa2] at fT6_0
 rw [hwa2] at fT6_1
 go_wp2_with fail
 clear cE_0 cE_1 cE_2 cE_3 cE_4 cE_5 cR_0 cR_1 cT6_0 cT6_1 fR_0 fR_1 fT6_0 fT6_1
 rw [← hwa2]
 clear hwa2
 have CS := specPart11 d IHS.out D _ _ C nm n ty es _ (HV.out.below B.out) (HE.out.below B.out) HOK.out
 rw [HS.out] at CS
 refine (CS).mono ?_
 rintro e w3 ⟨DL, lk, la, ln, lc, rfl, ho, hb⟩
 have Ol := Lib.hid ho
 clear ho
 have hz_w3 := hb.size
 replace B := bb B hb
 replace XE := xb XE hb
 replace FE := fb FE hb
 replace XR := xb XR hb
 replace FR := fb FR hb
 replace XT6 := xb XT6 hb
 replace FT6 := fb FT6 hb
 clear hb
 cases r with
 | none =>
  have cR_0 := XR.out.2 0
  have cR_1 := XR.out.2 1
  have cT6_0 := XT6.out.2 0
  have cT6_1 := XT6.out.2 1
  have fR_0 := FR.out.2 0
  have fR_1 := FR.out.2 1
  have fT6_0 := FT6.out.2 0
  have fT6_1 := FT6.out.2 1
  go_wp2_with fail
  clear cR_0 cR_1 cT6_0 cT6_1 fR_0 fR_1 fT6_0 fT6_1
  obtain ⟨ws4, hws4⟩ : ∃ W, W = put2 w3 (w1.heap.size) (.int .i64 lk) (.slice la ln lc) := ⟨_, rfl⟩
  have hy_ws4 : ws4.heap.size = w3.heap.size := by rw [hws4]; exact put2_size
  replace XE := xo hws4 XE (by omega)
  replace FE := fo hws4 FE
  replace XR := xo hws4 XR (by omega)
  replace FR := fo hws4 FR
  replace XT6 := xs hws4 XT6
  replace FT6 := fo hws4 FT6
  replace Ol := oo hws4 Ol (by omega)
  replace B := bo hws4 B (by omega)
  unfold put2 at hws4
  rw [← hws4]
  clear hws4
  have HW : Hid (synE (d + 1) C (.node 11 nm n ty es) = none) := HX
  have XZ := put2_box (u := .int .i64 0) (v := .slice none 0 0) XR.out
  have h0 := XZ.2 0
  have h1 := XZ.2 1
  unfold put2 at h0 h1
  refine bodyPost_ret (v := .tuple #[.agg #[.int .i64 0, .slice none 0 0], .bool false]) (by simp [results, Tryz.results29, go_sem, h0, h1]) rfl ?_
  exact (by (try rw [HW.out]); exact ⟨1, _, _, _, _, rfl, leaf_in _ 0 _ _ (by omega) (by omega) (Nat.le_refl _), put2_below B.out (by omega)⟩)
 | some tx =>
  have cR_0 := XR.out.2 0
  have cR_1 := XR.out.2 1
  have cT6_0 := XT6.out.2 0
  have cT6_1 := XT6.out.2 1
  have fR_0 := FR.out.2 0
  have fR_1 := FR.out.2 1
  have fT6_0 := FT6.out.2 0
  have fT6_1 := FT6.out.2 1
  go_wp2_with fail
  clear cR_0 cR_1 cT6_0 cT6_1 fR_0 fR_1 fT6_0 fT6_1
  obtain ⟨ws4, hws4⟩ : ∃ W, W = put2 w3 (w1.heap.size) (.int .i64 lk) (.slice la ln lc) := ⟨_, rfl⟩
  have hy_ws4 : ws4.heap.size = w3.heap.size := by rw [hws4]; exact put2_size
  replace XE := xo hws4 XE (by omega)
  replace FE := fo hws4 FE
  replace XR := xo hws4 XR (by omega)
  replace FR := fo hws4 FR
  replace XT6 := xs hws4 XT6
  replace FT6 := fo hws4 FT6
  replace Ol := oo hws4 Ol (by omega)
  replace B := bo hws4 B (by omega)
  unfold put2 at hws4
  rw [← hws4]
  clear hws4
  have HW : Hid (synE (d + 1) C (.node 11 nm n ty es) = some tx) := HX
  have htop := own_top Ol.out
  have XZ := put2_box (u := .int .i64 lk) (v := .slice la ln lc) XR.out
  have h0 := XZ.2 0
  have h1 := XZ.2 1
  unfold put2 at h0 h1
  refine bodyPost_ret (v := .tuple #[.agg #[.int .i64 lk, .slice la ln lc], .bool true]) (by simp [results, Tryz.results29, go_sem, h0, h1]) rfl ?_
  exact (by (try rw [HW.out]); exact ⟨DL, _, _, _, _, rfl, (put2_own Ol.out (by omega)).widen (by omega) (by first | (simp; omega) | simp) (Nat.le_refl _), put2_below B.out (by omega)⟩)
set_option maxRecDepth 100000 in
set_option maxHeartbeats 2000000 in
theorem specSyn12 (d : Nat) (ihs : SpecSynSaid d) (iha : SpecAnaSaid d) (D : Nat) (vc v : Value) (C : List Bi) (nm : ByteArray) (n : Int) (ty : Ty) (es : List Ex) (w : World) (hv : BisAt w D vc C) (he : ExAt w (d + 1) v (.node 12 nm n ty es)) (hok : TypOk C (.node 12 nm n ty es)) :
  Calls Tryz.prog 29 #[vc, v] w (SynEnd (synE (d + 1) C (.node 12 nm n ty es)) w) := by
 have HE := Lib.hid he
 obtain ⟨c3, c4, sl, hx, hk0, hk1, hn0, hn1, hnm, hty, sa, sc, hsl, hcap, hcap2, hat⟩ := he
 subst hsl
 obtain ⟨tk, ta, tn, tc, rfl, rfl⟩ := at_parts hty
 subst hx
 obtain ⟨va, vn, vc1, rfl⟩ : ∃ a n c, vc = .slice a n c := by obtain ⟨a, cap, hv, _⟩ := hv; exact ⟨_, _, _, hv⟩
 have hlen : es.length = 1 := by have h1 := (form_parts hok.1).1; have h2 : arity 12 = 1 := rfl; omega
 have hq0 : 0 < es.length := by omega
 obtain ⟨b, off, q0_0, q0_1, q0_2, q0_3, q0_4, q0_5, e0, hbl, z0_0, z0_1, z0_2, z0_3, z0_4, z0_5, ht0⟩ := hat 0 hq0
 subst e0
 obtain ⟨xk, xnm, xn, xtk, xta, xtn, xtc, xsa, xsm, xsc, rfl, rfl, rfl, rfl, rfl, rfl⟩ := ex_cells ht0
 simp only [Nat.zero_mul, Nat.add_zero] at z0_0 z0_1 z0_2 z0_3 z0_4 z0_5
 have K0_0 := Lib.hid z0_0
 have K0_1 := Lib.hid z0_1
 have K0_2 := Lib.hid z0_2
 have K0_3 := Lib.hid z0_3
 have K0_4 := Lib.hid z0_4
 have K0_5 := Lib.hid z0_5
 clear z0_0 z0_1 z0_2 z0_3 z0_4 z0_5
 have HT0 := Lib.hid ht0
 clear ht0
 have HV := Lib.hid hv
 clear hv
 have HOK := Lib.hid hok
 clear hok hat
 have HTY := Lib.hid hty
 clear hty
 have HNM := Lib.hid hnm
 clear hnm
 have IHS := Lib.hid ihs
 have IHA := Lib.hid iha
 clear ihs iha
 rw [hlen] at HE ⊢
 clear hlen
 obtain ⟨r, hr⟩ : ∃ r, synE (d + 1) C (.node 12 nm n ty es) = r := ⟨_, rfl⟩
 have HS := Lib.hid hr
 have HX := Lib.hid hr
 rw [hr]
 clear hr
 obtain ⟨w0, hw0, B, hz_w0, XE, FE, XR, FR⟩ := laid2 w #[.int .i64 12, .string nm, .int .i64 n, .int .i64 tk, .slice ta tn tc, .slice (some ⟨b, off, none⟩) 1 sc] 40 #[.int .i64 0, .slice none 0 0] 33
 replace B := Lib.hid B
 go_enter Tryz.func29, Tryz.ntmps29
 go_wp2_with fail
 rw [← hw0]
 clear hw0
 refine (specUnknownType _).mono ?_
 rintro e w1 ⟨rfl, hb⟩
 have hz_w1 := hb.size
 replace B := bb B hb
 replace XE := xb XE hb
 replace FE := fb FE hb
 replace XR := xb XR hb
 replace FR := fb FR hb
 clear hb
 have hn1 : ¬ (w1.heap.size = w.heap.size + 1) := by omega
 have hn2 : ¬ (w.heap.size + 1 = w1.heap.size) := by omega
 have hn3 : ¬ (w1.heap.size = w.heap.size) := by omega
 have hn4 : ¬ (w.heap.size = w1.heap.size) := by omega
 obtain ⟨wa2, hwa2, hb, hy_wa2, XT6, FT6⟩ := laid1 w1 #[.int .i64 1, .slice none 0 0] 33
 have hz_wa2 := hb.size
 replace B := bb B hb
 replace XE := xb XE hb
 replace FE := fb FE hb
 replace XR := xb XR hb
 replace FR := fb FR hb
 clear hb
 have cE_0 := XE.out.2 0
 have cE_1 := XE.out.2 1
 have cE_2 := XE.out.2 2
 have cE_3 := XE.out.2 3
 have cE_4 := XE.out.2 4
 have cE_5 := XE.out.2 5
 have cR_0 := XR.out.2 0
 have cR_1 := XR.out.2 1
 have cT6_0 := XT6.out.2 0
 have cT6_1 := XT6.out.2 1
 have fR_0 := FR.out.2 0
 have fR_1 := FR.out.2 1
 have fT6_0 := FT6.out.2 0
 have fT6_1 := FT6.out.2 1
 rw [hwa2] at cE_0
 rw [hwa2] at cE_1
 rw [hwa2] at cE_2
 rw [hwa2] at cE_3
 rw [hwa2] at cE_4
 rw [hwa2] at cE_5
 rw [hwa2] at cR_0
 rw [hwa2] at cR_1
 rw [hwa2] at cT6_0
 rw [hwa2] at cT6_1
 rw [hwa2] at fR_0
 rw [hwa2] at fR_1
 rw [hwa2] at fT6_0
 rw [hwa2] at fT6_1
 go_wp2_with fail
 clear cE_0 cE_1 cE_2 cE_3 cE_4 cE_5 cR_0 cR_1 cT6_0 cT6_1 fR_0 fR_1 fT6_0 fT6_1
 rw [← hwa2]
 clear hwa2
 have CS := specPart12 d IHS.out D _ _ C nm n ty es _ (HV.out.below B.out) (HE.out.below B.out) HOK.out
 rw [HS.out] at CS
 refine (CS).mono ?_
 rintro e w3 ⟨DL, lk, la, ln, lc, rfl, ho, hb⟩
 have Ol := Lib.hid ho
 clear ho
 have hz_w3 := hb.size
 replace B := bb B hb
 replace XE := xb XE hb
 replace FE := fb FE hb
 replace XR := xb XR hb
 replace FR := fb FR hb
 replace XT6 := xb XT6 hb
 replace FT6 := fb FT6 hb
 clear hb
 cases r with
 | none =>
  have cR_0 := XR.out.2 0
  have cR_1 := XR.out.2 1
  have cT6_0 := XT6.out.2 0
  have cT6_1 := XT6.out.2 1
  have fR_0 := FR.out.2 0
  have fR_1 := FR.out.2 1
  have fT6_0 := FT6.out.2 0
  have fT6_1 := FT6.out.2 1
  go_wp2_with fail
  clear cR_0 cR_1 cT6_0 cT6_1 fR_0 fR_1 fT6_0 fT6_1
  obtain ⟨ws4, hws4⟩ : ∃ W, W = put2 w3 (w1.heap.size) (.int .i64 lk) (.slice la ln lc) := ⟨_, rfl⟩
  have hy_ws4 : ws4.heap.size = w3.heap.size := by rw [hws4]; exact put2_size
  replace XE := xo hws4 XE (by omega)
  replace FE := fo hws4 FE
  replace XR := xo hws4 XR (by omega)
  replace FR := fo hws4 FR
  replace XT6 := xs hws4 XT6
  replace FT6 := fo hws4 FT6
  replace Ol := oo hws4 Ol (by omega)
  replace B := bo hws4 B (by omega)
  unfold put2 at hws4
  rw [← hws4]
  clear hws4
  have HW : Hid (synE (d + 1) C (.node 12 nm n ty es) = none) := HX
  have XZ := put2_box (u := .int .i64 0) (v := .slice none 0 0) XR.out
  have h0 := XZ.2 0
  have h1 := XZ.2 1
  unfold put2 at h0 h1
  refine bodyPost_ret (v := .tuple #[.agg #[.int .i64 0, .slice none 0 0], .bool false]) (by simp [results, Tryz.results29, go_sem, h0, h1]) rfl ?_
  exact (by (try rw [HW.out]); exact ⟨1, _, _, _, _, rfl, leaf_in _ 0 _ _ (by omega) (by omega) (Nat.le_refl _), put2_below B.out (by omega)⟩)
 | some tx =>
  have cR_0 := XR.out.2 0
  have cR_1 := XR.out.2 1
  have cT6_0 := XT6.out.2 0
  have cT6_1 := XT6.out.2 1
  have fR_0 := FR.out.2 0
  have fR_1 := FR.out.2 1
  have fT6_0 := FT6.out.2 0
  have fT6_1 := FT6.out.2 1
  go_wp2_with fail
  clear cR_0 cR_1 cT6_0 cT6_1 fR_0 fR_1 fT6_0 fT6_1
  obtain ⟨ws4, hws4⟩ : ∃ W, W = put2 w3 (w1.heap.size) (.int .i64 lk) (.slice la ln lc) := ⟨_, rfl⟩
  have hy_ws4 : ws4.heap.size = w3.heap.size := by rw [hws4]; exact put2_size
  replace XE := xo hws4 XE (by omega)
  replace FE := fo hws4 FE
  replace XR := xo hws4 XR (by omega)
  replace FR := fo hws4 FR
  replace XT6 := xs hws4 XT6
  replace FT6 := fo hws4 FT6
  replace Ol := oo hws4 Ol (by omega)
  replace B := bo hws4 B (by omega)
  unfold put2 at hws4
  rw [← hws4]
  clear hws4
  have HW : Hid (synE (d + 1) C (.node 12 nm n ty es) = some tx) := HX
  have htop := own_top Ol.out
  have XZ := put2_box (u := .int .i64 lk) (v := .slice la ln lc) XR.out
  have h0 := XZ.2 0
  have h1 := XZ.2 1
  unfold put2 at h0 h1
  refine bodyPost_ret (v := .tuple #[.agg #[.int .i64 lk, .slice la ln lc], .bool true]) (by simp [results, Tryz.results29, go_sem, h0, h1]) rfl ?_
  exact (by (try rw [HW.out]); exact ⟨DL, _, _, _, _, rfl, (put2_own Ol.out (by omega)).widen (by omega) (by first | (simp; omega) | simp) (Nat.le_refl _), put2_below B.out (by omega)⟩)
set_option maxRecDepth 100000 in
set_option maxHeartbeats 2000000 in
theorem specSyn14 (d : Nat) (ihs : SpecSynSaid d) (iha : SpecAnaSaid d) (D : Nat) (vc v : Value) (C : List Bi) (nm : ByteArray) (n : Int) (ty : Ty) (es : List Ex) (w : World) (hv : BisAt w D vc C) (he : ExAt w (d + 1) v (.node 14 nm n ty es)) (hok : TypOk C (.node 14 nm n ty es)) :
  Calls Tryz.prog 29 #[vc, v] w (SynEnd (synE (d + 1) C (.node 14 nm n ty es)) w) := by
 have HE := Lib.hid he
 obtain ⟨c3, c4, sl, hx, hk0, hk1, hn0, hn1, hnm, hty, sa, sc, hsl, hcap, hcap2, hat⟩ := he
 subst hsl
 obtain ⟨tk, ta, tn, tc, rfl, rfl⟩ := at_parts hty
 subst hx
 obtain ⟨va, vn, vc1, rfl⟩ : ∃ a n c, vc = .slice a n c := by obtain ⟨a, cap, hv, _⟩ := hv; exact ⟨_, _, _, hv⟩
 have hlen : es.length = 1 := by have h1 := (form_parts hok.1).1; have h2 : arity 14 = 1 := rfl; omega
 have hq0 : 0 < es.length := by omega
 obtain ⟨b, off, q0_0, q0_1, q0_2, q0_3, q0_4, q0_5, e0, hbl, z0_0, z0_1, z0_2, z0_3, z0_4, z0_5, ht0⟩ := hat 0 hq0
 subst e0
 obtain ⟨xk, xnm, xn, xtk, xta, xtn, xtc, xsa, xsm, xsc, rfl, rfl, rfl, rfl, rfl, rfl⟩ := ex_cells ht0
 simp only [Nat.zero_mul, Nat.add_zero] at z0_0 z0_1 z0_2 z0_3 z0_4 z0_5
 have K0_0 := Lib.hid z0_0
 have K0_1 := Lib.hid z0_1
 have K0_2 := Lib.hid z0_2
 have K0_3 := Lib.hid z0_3
 have K0_4 := Lib.hid z0_4
 have K0_5 := Lib.hid z0_5
 clear z0_0 z0_1 z0_2 z0_3 z0_4 z0_5
 have HT0 := Lib.hid ht0
 clear ht0
 have HV := Lib.hid hv
 clear hv
 have HOK := Lib.hid hok
 clear hok hat
 have HTY := Lib.hid hty
 clear hty
 have HNM := Lib.hid hnm
 clear hnm
 have IHS := Lib.hid ihs
 have IHA := Lib.hid iha
 clear ihs iha
 rw [hlen] at HE ⊢
 clear hlen
 obtain ⟨r, hr⟩ : ∃ r, synE (d + 1) C (.node 14 nm n ty es) = r := ⟨_, rfl⟩
 have HS := Lib.hid hr
 have HX := Lib.hid hr
 rw [hr]
 clear hr
 obtain ⟨w0, hw0, B, hz_w0, XE, FE, XR, FR⟩ := laid2 w #[.int .i64 14, .string nm, .int .i64 n, .int .i64 tk, .slice ta tn tc, .slice (some ⟨b, off, none⟩) 1 sc] 40 #[.int .i64 0, .slice none 0 0] 33
 replace B := Lib.hid B
 go_enter Tryz.func29, Tryz.ntmps29
 go_wp2_with fail
 rw [← hw0]
 clear hw0
 refine (specUnknownType _).mono ?_
 rintro e w1 ⟨rfl, hb⟩
 have hz_w1 := hb.size
 replace B := bb B hb
 replace XE := xb XE hb
 replace FE := fb FE hb
 replace XR := xb XR hb
 replace FR := fb FR hb
 clear hb
 have hn1 : ¬ (w1.heap.size = w.heap.size + 1) := by omega
 have hn2 : ¬ (w.heap.size + 1 = w1.heap.size) := by omega
 have hn3 : ¬ (w1.heap.size = w.heap.size) := by omega
 have hn4 : ¬ (w.heap.size = w1.heap.size) := by omega
 obtain ⟨wa2, hwa2, hb, hy_wa2, XT6, FT6⟩ := laid1 w1 #[.int .i64 1, .slice none 0 0] 33
 have hz_wa2 := hb.size
 replace B := bb B hb
 replace XE := xb XE hb
 replace FE := fb FE hb
 replace XR := xb XR hb
 replace FR := fb FR hb
 clear hb
 have cE_0 := XE.out.2 0
 have cE_1 := XE.out.2 1
 have cE_2 := XE.out.2 2
 have cE_3 := XE.out.2 3
 have cE_4 := XE.out.2 4
 have cE_5 := XE.out.2 5
 have cR_0 := XR.out.2 0
 have cR_1 := XR.out.2 1
 have cT6_0 := XT6.out.2 0
 have cT6_1 := XT6.out.2 1
 have fR_0 := FR.out.2 0
 have fR_1 := FR.out.2 1
 have fT6_0 := FT6.out.2 0
 have fT6_1 := FT6.out.2 1
 rw [hwa2] at cE_0
 rw [hwa2] at cE_1
 rw [hwa2] at cE_2
 rw [hwa2] at cE_3
 rw [hwa2] at cE_4
 rw [hwa2] at cE_5
 rw [hwa2] at cR_0
 rw [hwa2] at cR_1
 rw [hwa2] at cT6_0
 rw [hwa2] at cT6_1
 rw [hwa2] at fR_0
 rw [hwa2] at fR_1
 rw [hwa2] at fT6_0
 rw [hwa2] at fT6_1
 go_wp2_with fail
 clear cE_0 cE_1 cE_2 cE_3 cE_4 cE_5 cR_0 cR_1 cT6_0 cT6_1 fR_0 fR_1 fT6_0 fT6_1
 rw [← hwa2]
 clear hwa2
 have CS := specMark d IHS.out D _ _ C nm n ty es _ (HV.out.below B.out) (HE.out.below B.out) HOK.out
 rw [HS.out] at CS
 refine (CS).mono ?_
 rintro e w3 ⟨DL, lk, la, ln, lc, rfl, ho, hb⟩
 have Ol := Lib.hid ho
 clear ho
 have hz_w3 := hb.size
 replace B := bb B hb
 replace XE := xb XE hb
 replace FE := fb FE hb
 replace XR := xb XR hb
 replace FR := fb FR hb
 replace XT6 := xb XT6 hb
 replace FT6 := fb FT6 hb
 clear hb
 cases r with
 | none =>
  have cR_0 := XR.out.2 0
  have cR_1 := XR.out.2 1
  have cT6_0 := XT6.out.2 0
  have cT6_1 := XT6.out.2 1
  have fR_0 := FR.out.2 0
  have fR_1 := FR.out.2 1
  have fT6_0 := FT6.out.2 0
  have fT6_1 := FT6.out.2 1
  go_wp2_with fail
  clear cR_0 cR_1 cT6_0 cT6_1 fR_0 fR_1 fT6_0 fT6_1
  obtain ⟨ws4, hws4⟩ : ∃ W, W = put2 w3 (w1.heap.size) (.int .i64 lk) (.slice la ln lc) := ⟨_, rfl⟩
  have hy_ws4 : ws4.heap.size = w3.heap.size := by rw [hws4]; exact put2_size
  replace XE := xo hws4 XE (by omega)
  replace FE := fo hws4 FE
  replace XR := xo hws4 XR (by omega)
  replace FR := fo hws4 FR
  replace XT6 := xs hws4 XT6
  replace FT6 := fo hws4 FT6
  replace Ol := oo hws4 Ol (by omega)
  replace B := bo hws4 B (by omega)
  unfold put2 at hws4
  rw [← hws4]
  clear hws4
  have HW : Hid (synE (d + 1) C (.node 14 nm n ty es) = none) := HX
  have XZ := put2_box (u := .int .i64 0) (v := .slice none 0 0) XR.out
  have h0 := XZ.2 0
  have h1 := XZ.2 1
  unfold put2 at h0 h1
  refine bodyPost_ret (v := .tuple #[.agg #[.int .i64 0, .slice none 0 0], .bool false]) (by simp [results, Tryz.results29, go_sem, h0, h1]) rfl ?_
  exact (by (try rw [HW.out]); exact ⟨1, _, _, _, _, rfl, leaf_in _ 0 _ _ (by omega) (by omega) (Nat.le_refl _), put2_below B.out (by omega)⟩)
 | some tx =>
  have cR_0 := XR.out.2 0
  have cR_1 := XR.out.2 1
  have cT6_0 := XT6.out.2 0
  have cT6_1 := XT6.out.2 1
  have fR_0 := FR.out.2 0
  have fR_1 := FR.out.2 1
  have fT6_0 := FT6.out.2 0
  have fT6_1 := FT6.out.2 1
  go_wp2_with fail
  clear cR_0 cR_1 cT6_0 cT6_1 fR_0 fR_1 fT6_0 fT6_1
  obtain ⟨ws4, hws4⟩ : ∃ W, W = put2 w3 (w1.heap.size) (.int .i64 lk) (.slice la ln lc) := ⟨_, rfl⟩
  have hy_ws4 : ws4.heap.size = w3.heap.size := by rw [hws4]; exact put2_size
  replace XE := xo hws4 XE (by omega)
  replace FE := fo hws4 FE
  replace XR := xo hws4 XR (by omega)
  replace FR := fo hws4 FR
  replace XT6 := xs hws4 XT6
  replace FT6 := fo hws4 FT6
  replace Ol := oo hws4 Ol (by omega)
  replace B := bo hws4 B (by omega)
  unfold put2 at hws4
  rw [← hws4]
  clear hws4
  have HW : Hid (synE (d + 1) C (.node 14 nm n ty es) = some tx) := HX
  have htop := own_top Ol.out
  have XZ := put2_box (u := .int .i64 lk) (v := .slice la ln lc) XR.out
  have h0 := XZ.2 0
  have h1 := XZ.2 1
  unfold put2 at h0 h1
  refine bodyPost_ret (v := .tuple #[.agg #[.int .i64 lk, .slice la ln lc], .bool true]) (by simp [results, Tryz.results29, go_sem, h0, h1]) rfl ?_
  exact (by (try rw [HW.out]); exact ⟨DL, _, _, _, _, rfl, (put2_own Ol.out (by omega)).widen (by omega) (by first | (simp; omega) | simp) (Nat.le_refl _), put2_below B.out (by omega)⟩)
set_option maxRecDepth 100000 in
set_option maxHeartbeats 2000000 in
theorem specSyn6 (d : Nat) (ihs : SpecSynSaid d) (iha : SpecAnaSaid d) (D : Nat) (vc v : Value) (C : List Bi) (nm : ByteArray) (n : Int) (ty : Ty) (es : List Ex) (w : World) (hv : BisAt w D vc C) (he : ExAt w (d + 1) v (.node 6 nm n ty es)) (hok : TypOk C (.node 6 nm n ty es)) :
  Calls Tryz.prog 29 #[vc, v] w (SynEnd (synE (d + 1) C (.node 6 nm n ty es)) w) := by
 have HE := Lib.hid he
 obtain ⟨c3, c4, sl, hx, hk0, hk1, hn0, hn1, hnm, hty, sa, sc, hsl, hcap, hcap2, hat⟩ := he
 subst hsl
 obtain ⟨tk, ta, tn, tc, rfl, rfl⟩ := at_parts hty
 subst hx
 obtain ⟨va, vn, vc1, rfl⟩ : ∃ a n c, vc = .slice a n c := by obtain ⟨a, cap, hv, _⟩ := hv; exact ⟨_, _, _, hv⟩
 have hlen : es.length = 2 := by have h1 := (form_parts hok.1).1; have h2 : arity 6 = 2 := rfl; omega
 have hq0 : 0 < es.length := by omega
 have hq1 : 1 < es.length := by omega
 obtain ⟨b, off, q0_0, q0_1, q0_2, q0_3, q0_4, q0_5, e0, hbl, z0_0, z0_1, z0_2, z0_3, z0_4, z0_5, ht0⟩ := hat 0 hq0
 subst e0
 obtain ⟨xk, xnm, xn, xtk, xta, xtn, xtc, xsa, xsm, xsc, rfl, rfl, rfl, rfl, rfl, rfl⟩ := ex_cells ht0
 simp only [Nat.zero_mul, Nat.add_zero] at z0_0 z0_1 z0_2 z0_3 z0_4 z0_5
 have K0_0 := Lib.hid z0_0
 have K0_1 := Lib.hid z0_1
 have K0_2 := Lib.hid z0_2
 have K0_3 := Lib.hid z0_3
 have K0_4 := Lib.hid z0_4
 have K0_5 := Lib.hid z0_5
 clear z0_0 z0_1 z0_2 z0_3 z0_4 z0_5
 have HT0 := Lib.hid ht0
 clear ht0
 obtain ⟨b1, off1, q1_0, q1_1, q1_2, q1_3, q1_4, q1_5, e1, hbl1, z1_0, z1_1, z1_2, z1_3, z1_4, z1_5, ht1⟩ := hat 1 hq1
 injection e1 with e1
 injection e1 with ea1 eb1
 subst ea1 eb1
 obtain ⟨yk, ynm, yn, ytk, yta, ytn, ytc, ysa, ysm, ysc, rfl, rfl, rfl, rfl, rfl, rfl⟩ := ex_cells ht1
 simp only [Nat.one_mul] at z1_0 z1_1 z1_2 z1_3 z1_4 z1_5
 have K1_0 := Lib.hid z1_0
 have K1_1 := Lib.hid z1_1
 have K1_2 := Lib.hid z1_2
 have K1_3 := Lib.hid z1_3
 have K1_4 := Lib.hid z1_4
 have K1_5 := Lib.hid z1_5
 clear z1_0 z1_1 z1_2 z1_3 z1_4 z1_5
 have HT1 := Lib.hid ht1
 clear ht1
 have HV := Lib.hid hv
 clear hv
 have HOK := Lib.hid hok
 clear hok hat
 have HTY := Lib.hid hty
 clear hty
 have HNM := Lib.hid hnm
 clear hnm
 have IHS := Lib.hid ihs
 have IHA := Lib.hid iha
 clear ihs iha
 rw [hlen] at HE ⊢
 clear hlen
 have hx2 : synE (d + 1) C (.node 6 nm n ty es) = onlyIf (anaE d C es[0] tyN && anaE d C es[1] tyN) tyN := by rw [synE_succ]; simp only [synStep]; rw [Ex.arg_get hq0, Ex.arg_get hq1]; simp
 have HR := Lib.hid hx2
 clear hx2
 obtain ⟨w0, hw0, B, hz_w0, XE, FE, XR, FR⟩ := laid2 w #[.int .i64 6, .string nm, .int .i64 n, .int .i64 tk, .slice ta tn tc, .slice (some ⟨b, off, none⟩) 2 sc] 40 #[.int .i64 0, .slice none 0 0] 33
 replace B := Lib.hid B
 go_enter Tryz.func29, Tryz.ntmps29
 go_wp2_with fail
 rw [← hw0]
 clear hw0
 refine (specUnknownType _).mono ?_
 rintro e w1 ⟨rfl, hb⟩
 have hz_w1 := hb.size
 replace B := bb B hb
 replace XE := xb XE hb
 replace FE := fb FE hb
 replace XR := xb XR hb
 replace FR := fb FR hb
 clear hb
 have hn1 : ¬ (w1.heap.size = w.heap.size + 1) := by omega
 have hn2 : ¬ (w.heap.size + 1 = w1.heap.size) := by omega
 have hn3 : ¬ (w1.heap.size = w.heap.size) := by omega
 have hn4 : ¬ (w.heap.size = w1.heap.size) := by omega
 obtain ⟨wa2, hwa2, hb, hy_wa2, XT6, FT6⟩ := laid1 w1 #[.int .i64 1, .slice none 0 0] 33
 have hz_wa2 := hb.size
 replace B := bb B hb
 replace XE := xb XE hb
 replace FE := fb FE hb
 replace XR := xb XR hb
 replace FR := fb FR hb
 clear hb
 have cE_0 := XE.out.2 0
 have cE_1 := XE.out.2 1
 have cE_2 := XE.out.2 2
 have cE_3 := XE.out.2 3
 have cE_4 := XE.out.2 4
 have cE_5 := XE.out.2 5
 have cR_0 := XR.out.2 0
 have cR_1 := XR.out.2 1
 have cT6_0 := XT6.out.2 0
 have cT6_1 := XT6.out.2 1
 have fR_0 := FR.out.2 0
 have fR_1 := FR.out.2 1
 have fT6_0 := FT6.out.2 0
 have fT6_1 := FT6.out.2 1
 rw [hwa2] at cE_0
 rw [hwa2] at cE_1
 rw [hwa2] at cE_2
 rw [hwa2] at cE_3
 rw [hwa2] at cE_4
 rw [hwa2] at cE_5
 rw [hwa2] at cR_0
 rw [hwa2] at cR_1
 rw [hwa2] at cT6_0
 rw [hwa2] at cT6_1
 rw [hwa2] at fR_0
 rw [hwa2] at fR_1
 rw [hwa2] at fT6_0
 rw [hwa2] at fT6_1
 go_wp2_with fail
 clear cE_0 cE_1 cE_2 cE_3 cE_4 cE_5 cR_0 cR_1 cT6_0 cT6_1 fR_0 fR_1 fT6_0 fT6_1
 rw [← hwa2]
 clear hwa2
 refine (specNumType _).mono ?_
 rintro e w3 ⟨rfl, hb⟩
 have hz_w3 := hb.size
 replace B := bb B hb
 replace XE := xb XE hb
 replace FE := fb FE hb
 replace XR := xb XR hb
 replace FR := fb FR hb
 replace XT6 := xb XT6 hb
 replace FT6 := fb FT6 hb
 clear hb
 have cR_0 := XR.out.2 0
 have cR_1 := XR.out.2 1
 have cT6_0 := XT6.out.2 0
 have cT6_1 := XT6.out.2 1
 have fT6_0 := FT6.out.2 0
 have fT6_1 := FT6.out.2 1
 go_wp2_with fail
 clear cR_0 cR_1 cT6_0 cT6_1 fT6_0 fT6_1
 obtain ⟨ws4, hws4⟩ : ∃ W, W = put2 w3 (w1.heap.size) (.int .i64 2) (.slice none 0 0) := ⟨_, rfl⟩
 have hy_ws4 : ws4.heap.size = w3.heap.size := by rw [hws4]; exact put2_size
 replace XE := xo hws4 XE (by omega)
 replace FE := fo hws4 FE
 replace XR := xo hws4 XR (by omega)
 replace FR := fo hws4 FR
 replace XT6 := xs hws4 XT6
 replace FT6 := fo hws4 FT6
 replace B := bo hws4 B (by omega)
 unfold put2 at hws4
 rw [← hws4]
 clear hws4
 cases ha0 : anaE d C es[0] tyN with
 | false =>
  have HA0 := Lib.hid ha0
  clear ha0
  have gE_0 := gx XE 0
  have gE_1 := gx XE 1
  have gE_2 := gx XE 2
  have gE_3 := gx XE 3
  have gE_4 := gx XE 4
  have gE_5 := gx XE 5
  have gT6_0 := gx XT6 0
  have gT6_1 := gx XT6 1
  have gk0_0 := gk hbl B K0_0
  have gk0_1 := gk hbl B K0_1
  have gk0_2 := gk hbl B K0_2
  have gk0_3 := gk hbl B K0_3
  have gk0_4 := gk hbl B K0_4
  have gk0_5 := gk hbl B K0_5
  have gk1_0 := gk hbl B K1_0
  have gk1_1 := gk hbl B K1_1
  have gk1_2 := gk hbl B K1_2
  have gk1_3 := gk hbl B K1_3
  have gk1_4 := gk hbl B K1_4
  have gk1_5 := gk hbl B K1_5
  have CA0 : ∀ q : Grown ws4.heap.size ws4, Calls Tryz.prog 45 #[.slice va vn vc1, .agg #[.int .i64 xk, .string xnm, .int .i64 xn, .int .i64 xtk, .slice xta xtn xtc, .slice xsa xsm xsc], .agg #[.int .i64 2, .slice none 0 0]] q.val fun e w' => e = .returned (.bool false) ∧ Below q.val.heap.size q.val w' := fun q => by have h := IHA.out D _ _ _ _ C es[0] tyN q.val ((HV.out.below B.out).below q.old) ((HT0.out.below B.out).below q.old) (leaf_at _ 2 (by omega) (by omega)) (HOK.out.part 0 hq0) (by simp [tyN, Ty.size, Ty.sizes]); rw [HA0.out] at h; exact h
  refine wp_region_grown ws4.heap.size (by kernel_rfl) (by kernel_rfl) ?_
  repeat (go_big_quiet_step ((go_at_call 45; exact grown_of (Nat.le_refl _) (CA0 _))))
  refine wpQuiet_nil ?_
  rintro wq5 ⟨⟨wz, hb⟩, hqe⟩
  have hqe2 : wq5 = wz := hqe
  clear hqe
  subst hqe2
  clear gE_0 gE_1 gE_2 gE_3 gE_4 gE_5 gT6_0 gT6_1 gk0_0 gk0_1 gk0_2 gk0_3 gk0_4 gk0_5 gk1_0 gk1_1 gk1_2 gk1_3 gk1_4 gk1_5 CA0
  have hz_wq5 := hb.size
  replace B := bb B hb
  replace XE := xb XE hb
  replace FE := fb FE hb
  replace XR := xb XR hb
  replace FR := fb FR hb
  replace XT6 := xb XT6 hb
  replace FT6 := fb FT6 hb
  clear hb
  have cR_0 := XR.out.2 0
  have cR_1 := XR.out.2 1
  have cT6_0 := XT6.out.2 0
  have cT6_1 := XT6.out.2 1
  have fR_0 := FR.out.2 0
  have fR_1 := FR.out.2 1
  go_wp2_with fail
  clear cR_0 cR_1 cT6_0 cT6_1 fR_0 fR_1
  have HW : Hid (synE (d + 1) C (.node 6 nm n ty es) = none) := by show _ = _; rw [HR.out, HA0.out]; simp [onlyIf]
  have XZ := put2_box (u := .int .i64 0) (v := .slice none 0 0) XR.out
  have h0 := XZ.2 0
  have h1 := XZ.2 1
  unfold put2 at h0 h1
  refine bodyPost_ret (v := .tuple #[.agg #[.int .i64 0, .slice none 0 0], .bool false]) (by simp [results, Tryz.results29, go_sem, h0, h1]) rfl ?_
  exact (by (try rw [HW.out]); exact ⟨1, _, _, _, _, rfl, leaf_in _ 0 _ _ (by omega) (by omega) (Nat.le_refl _), put2_below B.out (by omega)⟩)
 | true =>
  have HA0 := Lib.hid ha0
  clear ha0
  cases ha1 : anaE d C es[1] tyN with
  | false =>
   have HA1 := Lib.hid ha1
   clear ha1
   have gE_0 := gx XE 0
   have gE_1 := gx XE 1
   have gE_2 := gx XE 2
   have gE_3 := gx XE 3
   have gE_4 := gx XE 4
   have gE_5 := gx XE 5
   have gT6_0 := gx XT6 0
   have gT6_1 := gx XT6 1
   have gk0_0 := gk hbl B K0_0
   have gk0_1 := gk hbl B K0_1
   have gk0_2 := gk hbl B K0_2
   have gk0_3 := gk hbl B K0_3
   have gk0_4 := gk hbl B K0_4
   have gk0_5 := gk hbl B K0_5
   have gk1_0 := gk hbl B K1_0
   have gk1_1 := gk hbl B K1_1
   have gk1_2 := gk hbl B K1_2
   have gk1_3 := gk hbl B K1_3
   have gk1_4 := gk hbl B K1_4
   have gk1_5 := gk hbl B K1_5
   have CA0 : ∀ q : Grown ws4.heap.size ws4, Calls Tryz.prog 45 #[.slice va vn vc1, .agg #[.int .i64 xk, .string xnm, .int .i64 xn, .int .i64 xtk, .slice xta xtn xtc, .slice xsa xsm xsc], .agg #[.int .i64 2, .slice none 0 0]] q.val fun e w' => e = .returned (.bool true) ∧ Below q.val.heap.size q.val w' := fun q => by have h := IHA.out D _ _ _ _ C es[0] tyN q.val ((HV.out.below B.out).below q.old) ((HT0.out.below B.out).below q.old) (leaf_at _ 2 (by omega) (by omega)) (HOK.out.part 0 hq0) (by simp [tyN, Ty.size, Ty.sizes]); rw [HA0.out] at h; exact h
   have CA1 : ∀ q : Grown ws4.heap.size ws4, Calls Tryz.prog 45 #[.slice va vn vc1, .agg #[.int .i64 yk, .string ynm, .int .i64 yn, .int .i64 ytk, .slice yta ytn ytc, .slice ysa ysm ysc], .agg #[.int .i64 2, .slice none 0 0]] q.val fun e w' => e = .returned (.bool false) ∧ Below q.val.heap.size q.val w' := fun q => by have h := IHA.out D _ _ _ _ C es[1] tyN q.val ((HV.out.below B.out).below q.old) ((HT1.out.below B.out).below q.old) (leaf_at _ 2 (by omega) (by omega)) (HOK.out.part 1 hq1) (by simp [tyN, Ty.size, Ty.sizes]); rw [HA1.out] at h; exact h
   refine wp_region_grown ws4.heap.size (by kernel_rfl) (by kernel_rfl) ?_
   repeat (go_big_quiet_step ((go_at_call 45; first | (with_reducible exact grown_of (Nat.le_refl _) (CA0 _)) | (with_reducible exact grown_of (Nat.le_refl _) (CA1 _)))))
   refine wpQuiet_nil ?_
   rintro wq5 ⟨⟨wz, hb⟩, hqe⟩
   have hqe2 : wq5 = wz := hqe
   clear hqe
   subst hqe2
   clear gE_0 gE_1 gE_2 gE_3 gE_4 gE_5 gT6_0 gT6_1 gk0_0 gk0_1 gk0_2 gk0_3 gk0_4 gk0_5 gk1_0 gk1_1 gk1_2 gk1_3 gk1_4 gk1_5 CA0 CA1
   have hz_wq5 := hb.size
   replace B := bb B hb
   replace XE := xb XE hb
   replace FE := fb FE hb
   replace XR := xb XR hb
   replace FR := fb FR hb
   replace XT6 := xb XT6 hb
   replace FT6 := fb FT6 hb
   clear hb
   have cR_0 := XR.out.2 0
   have cR_1 := XR.out.2 1
   have cT6_0 := XT6.out.2 0
   have cT6_1 := XT6.out.2 1
   have fR_0 := FR.out.2 0
   have fR_1 := FR.out.2 1
   go_wp2_with fail
   clear cR_0 cR_1 cT6_0 cT6_1 fR_0 fR_1
   have HW : Hid (synE (d + 1) C (.node 6 nm n ty es) = none) := by show _ = _; rw [HR.out, HA0.out, HA1.out]; simp [onlyIf]
   have XZ := put2_box (u := .int .i64 0) (v := .slice none 0 0) XR.out
   have h0 := XZ.2 0
   have h1 := XZ.2 1
   unfold put2 at h0 h1
   refine bodyPost_ret (v := .tuple #[.agg #[.int .i64 0, .slice none 0 0], .bool false]) (by simp [results, Tryz.results29, go_sem, h0, h1]) rfl ?_
   exact (by (try rw [HW.out]); exact ⟨1, _, _, _, _, rfl, leaf_in _ 0 _ _ (by omega) (by omega) (Nat.le_refl _), put2_below B.out (by omega)⟩)
  | true =>
   have HA1 := Lib.hid ha1
   clear ha1
   have gE_0 := gx XE 0
   have gE_1 := gx XE 1
   have gE_2 := gx XE 2
   have gE_3 := gx XE 3
   have gE_4 := gx XE 4
   have gE_5 := gx XE 5
   have gT6_0 := gx XT6 0
   have gT6_1 := gx XT6 1
   have gk0_0 := gk hbl B K0_0
   have gk0_1 := gk hbl B K0_1
   have gk0_2 := gk hbl B K0_2
   have gk0_3 := gk hbl B K0_3
   have gk0_4 := gk hbl B K0_4
   have gk0_5 := gk hbl B K0_5
   have gk1_0 := gk hbl B K1_0
   have gk1_1 := gk hbl B K1_1
   have gk1_2 := gk hbl B K1_2
   have gk1_3 := gk hbl B K1_3
   have gk1_4 := gk hbl B K1_4
   have gk1_5 := gk hbl B K1_5
   have CA0 : ∀ q : Grown ws4.heap.size ws4, Calls Tryz.prog 45 #[.slice va vn vc1, .agg #[.int .i64 xk, .string xnm, .int .i64 xn, .int .i64 xtk, .slice xta xtn xtc, .slice xsa xsm xsc], .agg #[.int .i64 2, .slice none 0 0]] q.val fun e w' => e = .returned (.bool true) ∧ Below q.val.heap.size q.val w' := fun q => by have h := IHA.out D _ _ _ _ C es[0] tyN q.val ((HV.out.below B.out).below q.old) ((HT0.out.below B.out).below q.old) (leaf_at _ 2 (by omega) (by omega)) (HOK.out.part 0 hq0) (by simp [tyN, Ty.size, Ty.sizes]); rw [HA0.out] at h; exact h
   have CA1 : ∀ q : Grown ws4.heap.size ws4, Calls Tryz.prog 45 #[.slice va vn vc1, .agg #[.int .i64 yk, .string ynm, .int .i64 yn, .int .i64 ytk, .slice yta ytn ytc, .slice ysa ysm ysc], .agg #[.int .i64 2, .slice none 0 0]] q.val fun e w' => e = .returned (.bool true) ∧ Below q.val.heap.size q.val w' := fun q => by have h := IHA.out D _ _ _ _ C es[1] tyN q.val ((HV.out.below B.out).below q.old) ((HT1.out.below B.out).below q.old) (leaf_at _ 2 (by omega) (by omega)) (HOK.out.part 1 hq1) (by simp [tyN, Ty.size, Ty.sizes]); rw [HA1.out] at h; exact h
   refine wp_region_grown ws4.heap.size (by kernel_rfl) (by kernel_rfl) ?_
   repeat (go_big_quiet_step ((go_at_call 45; first | (with_reducible exact grown_of (Nat.le_refl _) (CA0 _)) | (with_reducible exact grown_of (Nat.le_refl _) (CA1 _)))))
   refine wpQuiet_nil ?_
   rintro wq5 ⟨⟨wz, hb⟩, hqe⟩
   have hqe2 : wq5 = wz := hqe
   clear hqe
   subst hqe2
   clear gE_0 gE_1 gE_2 gE_3 gE_4 gE_5 gT6_0 gT6_1 gk0_0 gk0_1 gk0_2 gk0_3 gk0_4 gk0_5 gk1_0 gk1_1 gk1_2 gk1_3 gk1_4 gk1_5 CA0 CA1
   have hz_wq5 := hb.size
   replace B := bb B hb
   replace XE := xb XE hb
   replace FE := fb FE hb
   replace XR := xb XR hb
   replace FR := fb FR hb
   replace XT6 := xb XT6 hb
   replace FT6 := fb FT6 hb
   clear hb
   have cR_0 := XR.out.2 0
   have cR_1 := XR.out.2 1
   have cT6_0 := XT6.out.2 0
   have cT6_1 := XT6.out.2 1
   have fR_0 := FR.out.2 0
   have fR_1 := FR.out.2 1
   go_wp2_with fail
   clear cR_0 cR_1 cT6_0 cT6_1 fR_0 fR_1
   have HW : Hid (synE (d + 1) C (.node 6 nm n ty es) = some (.node 2 [])) := by show _ = _; rw [HR.out, HA0.out, HA1.out]; rfl
   have XZ := put2_box (u := .int .i64 2) (v := .slice none 0 0) XR.out
   have h0 := XZ.2 0
   have h1 := XZ.2 1
   unfold put2 at h0 h1
   refine bodyPost_ret (v := .tuple #[.agg #[.int .i64 2, .slice none 0 0], .bool true]) (by simp [results, Tryz.results29, go_sem, h0, h1]) rfl ?_
   exact (by (try rw [HW.out]); exact ⟨1, _, _, _, _, rfl, leaf_in _ 2 _ _ (by omega) (by omega) (Nat.le_refl _), put2_below B.out (by omega)⟩)
set_option maxRecDepth 100000 in
set_option maxHeartbeats 2000000 in
theorem specSyn7 (d : Nat) (ihs : SpecSynSaid d) (iha : SpecAnaSaid d) (D : Nat) (vc v : Value) (C : List Bi) (nm : ByteArray) (n : Int) (ty : Ty) (es : List Ex) (w : World) (hv : BisAt w D vc C) (he : ExAt w (d + 1) v (.node 7 nm n ty es)) (hok : TypOk C (.node 7 nm n ty es)) :
  Calls Tryz.prog 29 #[vc, v] w (SynEnd (synE (d + 1) C (.node 7 nm n ty es)) w) := by
 have HE := Lib.hid he
 obtain ⟨c3, c4, sl, hx, hk0, hk1, hn0, hn1, hnm, hty, sa, sc, hsl, hcap, hcap2, hat⟩ := he
 subst hsl
 obtain ⟨tk, ta, tn, tc, rfl, rfl⟩ := at_parts hty
 subst hx
 obtain ⟨va, vn, vc1, rfl⟩ : ∃ a n c, vc = .slice a n c := by obtain ⟨a, cap, hv, _⟩ := hv; exact ⟨_, _, _, hv⟩
 have hlen : es.length = 2 := by have h1 := (form_parts hok.1).1; have h2 : arity 7 = 2 := rfl; omega
 have hq0 : 0 < es.length := by omega
 have hq1 : 1 < es.length := by omega
 obtain ⟨b, off, q0_0, q0_1, q0_2, q0_3, q0_4, q0_5, e0, hbl, z0_0, z0_1, z0_2, z0_3, z0_4, z0_5, ht0⟩ := hat 0 hq0
 subst e0
 obtain ⟨xk, xnm, xn, xtk, xta, xtn, xtc, xsa, xsm, xsc, rfl, rfl, rfl, rfl, rfl, rfl⟩ := ex_cells ht0
 simp only [Nat.zero_mul, Nat.add_zero] at z0_0 z0_1 z0_2 z0_3 z0_4 z0_5
 have K0_0 := Lib.hid z0_0
 have K0_1 := Lib.hid z0_1
 have K0_2 := Lib.hid z0_2
 have K0_3 := Lib.hid z0_3
 have K0_4 := Lib.hid z0_4
 have K0_5 := Lib.hid z0_5
 clear z0_0 z0_1 z0_2 z0_3 z0_4 z0_5
 have HT0 := Lib.hid ht0
 clear ht0
 obtain ⟨b1, off1, q1_0, q1_1, q1_2, q1_3, q1_4, q1_5, e1, hbl1, z1_0, z1_1, z1_2, z1_3, z1_4, z1_5, ht1⟩ := hat 1 hq1
 injection e1 with e1
 injection e1 with ea1 eb1
 subst ea1 eb1
 obtain ⟨yk, ynm, yn, ytk, yta, ytn, ytc, ysa, ysm, ysc, rfl, rfl, rfl, rfl, rfl, rfl⟩ := ex_cells ht1
 simp only [Nat.one_mul] at z1_0 z1_1 z1_2 z1_3 z1_4 z1_5
 have K1_0 := Lib.hid z1_0
 have K1_1 := Lib.hid z1_1
 have K1_2 := Lib.hid z1_2
 have K1_3 := Lib.hid z1_3
 have K1_4 := Lib.hid z1_4
 have K1_5 := Lib.hid z1_5
 clear z1_0 z1_1 z1_2 z1_3 z1_4 z1_5
 have HT1 := Lib.hid ht1
 clear ht1
 have HV := Lib.hid hv
 clear hv
 have HOK := Lib.hid hok
 clear hok hat
 have HTY := Lib.hid hty
 clear hty
 have HNM := Lib.hid hnm
 clear hnm
 have IHS := Lib.hid ihs
 have IHA := Lib.hid iha
 clear ihs iha
 rw [hlen] at HE ⊢
 clear hlen
 have hx2 : synE (d + 1) C (.node 7 nm n ty es) = onlyIf (anaE d C es[0] tyN && anaE d C es[1] tyN) tyB := by rw [synE_succ]; simp only [synStep]; rw [Ex.arg_get hq0, Ex.arg_get hq1]; simp
 have HR := Lib.hid hx2
 clear hx2
 obtain ⟨w0, hw0, B, hz_w0, XE, FE, XR, FR⟩ := laid2 w #[.int .i64 7, .string nm, .int .i64 n, .int .i64 tk, .slice ta tn tc, .slice (some ⟨b, off, none⟩) 2 sc] 40 #[.int .i64 0, .slice none 0 0] 33
 replace B := Lib.hid B
 go_enter Tryz.func29, Tryz.ntmps29
 go_wp2_with fail
 rw [← hw0]
 clear hw0
 refine (specUnknownType _).mono ?_
 rintro e w1 ⟨rfl, hb⟩
 have hz_w1 := hb.size
 replace B := bb B hb
 replace XE := xb XE hb
 replace FE := fb FE hb
 replace XR := xb XR hb
 replace FR := fb FR hb
 clear hb
 have hn1 : ¬ (w1.heap.size = w.heap.size + 1) := by omega
 have hn2 : ¬ (w.heap.size + 1 = w1.heap.size) := by omega
 have hn3 : ¬ (w1.heap.size = w.heap.size) := by omega
 have hn4 : ¬ (w.heap.size = w1.heap.size) := by omega
 obtain ⟨wa2, hwa2, hb, hy_wa2, XT6, FT6⟩ := laid1 w1 #[.int .i64 1, .slice none 0 0] 33
 have hz_wa2 := hb.size
 replace B := bb B hb
 replace XE := xb XE hb
 replace FE := fb FE hb
 replace XR := xb XR hb
 replace FR := fb FR hb
 clear hb
 have cE_0 := XE.out.2 0
 have cE_1 := XE.out.2 1
 have cE_2 := XE.out.2 2
 have cE_3 := XE.out.2 3
 have cE_4 := XE.out.2 4
 have cE_5 := XE.out.2 5
 have cR_0 := XR.out.2 0
 have cR_1 := XR.out.2 1
 have cT6_0 := XT6.out.2 0
 have cT6_1 := XT6.out.2 1
 have fR_0 := FR.out.2 0
 have fR_1 := FR.out.2 1
 have fT6_0 := FT6.out.2 0
 have fT6_1 := FT6.out.2 1
 rw [hwa2] at cE_0
 rw [hwa2] at cE_1
 rw [hwa2] at cE_2
 rw [hwa2] at cE_3
 rw [hwa2] at cE_4
 rw [hwa2] at cE_5
 rw [hwa2] at cR_0
 rw [hwa2] at cR_1
 rw [hwa2] at cT6_0
 rw [hwa2] at cT6_1
 rw [hwa2] at fR_0
 rw [hwa2] at fR_1
 rw [hwa2] at fT6_0
 rw [hwa2] at fT6_1
 go_wp2_with fail
 clear cE_0 cE_1 cE_2 cE_3 cE_4 cE_5 cR_0 cR_1 cT6_0 cT6_1 fR_0 fR_1 fT6_0 fT6_1
 rw [← hwa2]
 clear hwa2
 refine (specBoolType _).mono ?_
 rintro e w3 ⟨rfl, hb⟩
 have hz_w3 := hb.size
 replace B := bb B hb
 replace XE := xb XE hb
 replace FE := fb FE hb
 replace XR := xb XR hb
 replace FR := fb FR hb
 replace XT6 := xb XT6 hb
 replace FT6 := fb FT6 hb
 clear hb
 have cR_0 := XR.out.2 0
 have cR_1 := XR.out.2 1
 have cT6_0 := XT6.out.2 0
 have cT6_1 := XT6.out.2 1
 have fT6_0 := FT6.out.2 0
 have fT6_1 := FT6.out.2 1
 go_wp2_with fail
 clear cR_0 cR_1 cT6_0 cT6_1 fT6_0 fT6_1
 obtain ⟨ws4, hws4⟩ : ∃ W, W = put2 w3 (w1.heap.size) (.int .i64 3) (.slice none 0 0) := ⟨_, rfl⟩
 have hy_ws4 : ws4.heap.size = w3.heap.size := by rw [hws4]; exact put2_size
 replace XE := xo hws4 XE (by omega)
 replace FE := fo hws4 FE
 replace XR := xo hws4 XR (by omega)
 replace FR := fo hws4 FR
 replace XT6 := xs hws4 XT6
 replace FT6 := fo hws4 FT6
 replace B := bo hws4 B (by omega)
 unfold put2 at hws4
 rw [← hws4]
 clear hws4
 cases ha0 : anaE d C es[0] tyN with
 | false =>
  have HA0 := Lib.hid ha0
  clear ha0
  have gE_0 := gx XE 0
  have gE_1 := gx XE 1
  have gE_2 := gx XE 2
  have gE_3 := gx XE 3
  have gE_4 := gx XE 4
  have gE_5 := gx XE 5
  have gT6_0 := gx XT6 0
  have gT6_1 := gx XT6 1
  have gk0_0 := gk hbl B K0_0
  have gk0_1 := gk hbl B K0_1
  have gk0_2 := gk hbl B K0_2
  have gk0_3 := gk hbl B K0_3
  have gk0_4 := gk hbl B K0_4
  have gk0_5 := gk hbl B K0_5
  have gk1_0 := gk hbl B K1_0
  have gk1_1 := gk hbl B K1_1
  have gk1_2 := gk hbl B K1_2
  have gk1_3 := gk hbl B K1_3
  have gk1_4 := gk hbl B K1_4
  have gk1_5 := gk hbl B K1_5
  have CA0 : ∀ q : Grown ws4.heap.size ws4, Calls Tryz.prog 45 #[.slice va vn vc1, .agg #[.int .i64 xk, .string xnm, .int .i64 xn, .int .i64 xtk, .slice xta xtn xtc, .slice xsa xsm xsc], .agg #[.int .i64 2, .slice none 0 0]] q.val fun e w' => e = .returned (.bool false) ∧ Below q.val.heap.size q.val w' := fun q => by have h := IHA.out D _ _ _ _ C es[0] tyN q.val ((HV.out.below B.out).below q.old) ((HT0.out.below B.out).below q.old) (leaf_at _ 2 (by omega) (by omega)) (HOK.out.part 0 hq0) (by simp [tyN, Ty.size, Ty.sizes]); rw [HA0.out] at h; exact h
  have CN : ∀ q : Grown ws4.heap.size ws4, Calls Tryz.prog 56 #[] q.val fun e w' => e = .returned (.agg #[.int .i64 2, .slice none 0 0]) ∧ Below q.val.heap.size q.val w' := fun q => specNumType q.val
  refine wp_region_grown ws4.heap.size (by kernel_rfl) (by kernel_rfl) ?_
  repeat (go_big_quiet_step ((first | (go_at_call 45; exact grown_of (Nat.le_refl _) (CA0 _)) | (go_at_call 56; exact grown_of (Nat.le_refl _) (CN _)))))
  refine wpQuiet_nil ?_
  rintro wq5 ⟨⟨wz, hb⟩, hqe⟩
  have hqe2 : wq5 = wz := hqe
  clear hqe
  subst hqe2
  clear gE_0 gE_1 gE_2 gE_3 gE_4 gE_5 gT6_0 gT6_1 gk0_0 gk0_1 gk0_2 gk0_3 gk0_4 gk0_5 gk1_0 gk1_1 gk1_2 gk1_3 gk1_4 gk1_5 CA0 CN
  have hz_wq5 := hb.size
  replace B := bb B hb
  replace XE := xb XE hb
  replace FE := fb FE hb
  replace XR := xb XR hb
  replace FR := fb FR hb
  replace XT6 := xb XT6 hb
  replace FT6 := fb FT6 hb
  clear hb
  have cR_0 := XR.out.2 0
  have cR_1 := XR.out.2 1
  have cT6_0 := XT6.out.2 0
  have cT6_1 := XT6.out.2 1
  have fR_0 := FR.out.2 0
  have fR_1 := FR.out.2 1
  go_wp2_with fail
  clear cR_0 cR_1 cT6_0 cT6_1 fR_0 fR_1
  have HW : Hid (synE (d + 1) C (.node 7 nm n ty es) = none) := by show _ = _; rw [HR.out, HA0.out]; simp [onlyIf]
  have XZ := put2_box (u := .int .i64 0) (v := .slice none 0 0) XR.out
  have h0 := XZ.2 0
  have h1 := XZ.2 1
  unfold put2 at h0 h1
  refine bodyPost_ret (v := .tuple #[.agg #[.int .i64 0, .slice none 0 0], .bool false]) (by simp [results, Tryz.results29, go_sem, h0, h1]) rfl ?_
  exact (by (try rw [HW.out]); exact ⟨1, _, _, _, _, rfl, leaf_in _ 0 _ _ (by omega) (by omega) (Nat.le_refl _), put2_below B.out (by omega)⟩)
 | true =>
  have HA0 := Lib.hid ha0
  clear ha0
  cases ha1 : anaE d C es[1] tyN with
  | false =>
   have HA1 := Lib.hid ha1
   clear ha1
   have gE_0 := gx XE 0
   have gE_1 := gx XE 1
   have gE_2 := gx XE 2
   have gE_3 := gx XE 3
   have gE_4 := gx XE 4
   have gE_5 := gx XE 5
   have gT6_0 := gx XT6 0
   have gT6_1 := gx XT6 1
   have gk0_0 := gk hbl B K0_0
   have gk0_1 := gk hbl B K0_1
   have gk0_2 := gk hbl B K0_2
   have gk0_3 := gk hbl B K0_3
   have gk0_4 := gk hbl B K0_4
   have gk0_5 := gk hbl B K0_5
   have gk1_0 := gk hbl B K1_0
   have gk1_1 := gk hbl B K1_1
   have gk1_2 := gk hbl B K1_2
   have gk1_3 := gk hbl B K1_3
   have gk1_4 := gk hbl B K1_4
   have gk1_5 := gk hbl B K1_5
   have CA0 : ∀ q : Grown ws4.heap.size ws4, Calls Tryz.prog 45 #[.slice va vn vc1, .agg #[.int .i64 xk, .string xnm, .int .i64 xn, .int .i64 xtk, .slice xta xtn xtc, .slice xsa xsm xsc], .agg #[.int .i64 2, .slice none 0 0]] q.val fun e w' => e = .returned (.bool true) ∧ Below q.val.heap.size q.val w' := fun q => by have h := IHA.out D _ _ _ _ C es[0] tyN q.val ((HV.out.below B.out).below q.old) ((HT0.out.below B.out).below q.old) (leaf_at _ 2 (by omega) (by omega)) (HOK.out.part 0 hq0) (by simp [tyN, Ty.size, Ty.sizes]); rw [HA0.out] at h; exact h
   have CA1 : ∀ q : Grown ws4.heap.size ws4, Calls Tryz.prog 45 #[.slice va vn vc1, .agg #[.int .i64 yk, .string ynm, .int .i64 yn, .int .i64 ytk, .slice yta ytn ytc, .slice ysa ysm ysc], .agg #[.int .i64 2, .slice none 0 0]] q.val fun e w' => e = .returned (.bool false) ∧ Below q.val.heap.size q.val w' := fun q => by have h := IHA.out D _ _ _ _ C es[1] tyN q.val ((HV.out.below B.out).below q.old) ((HT1.out.below B.out).below q.old) (leaf_at _ 2 (by omega) (by omega)) (HOK.out.part 1 hq1) (by simp [tyN, Ty.size, Ty.sizes]); rw [HA1.out] at h; exact h
   have CN : ∀ q : Grown ws4.heap.size ws4, Calls Tryz.prog 56 #[] q.val fun e w' => e = .returned (.agg #[.int .i64 2, .slice none 0 0]) ∧ Below q.val.heap.size q.val w' := fun q => specNumType q.val
   refine wp_region_grown ws4.heap.size (by kernel_rfl) (by kernel_rfl) ?_
   repeat (go_big_quiet_step ((first | (go_at_call 45; first | (with_reducible exact grown_of (Nat.le_refl _) (CA0 _)) | (with_reducible exact grown_of (Nat.le_refl _) (CA1 _))) | (go_at_call 56; exact grown_of (Nat.le_refl _) (CN _)))))
   refine wpQuiet_nil ?_
   rintro wq5 ⟨⟨wz, hb⟩, hqe⟩
   have hqe2 : wq5 = wz := hqe
   clear hqe
   subst hqe2
   clear gE_0 gE_1 gE_2 gE_3 gE_4 gE_5 gT6_0 gT6_1 gk0_0 gk0_1 gk0_2 gk0_3 gk0_4 gk0_5 gk1_0 gk1_1 gk1_2 gk1_3 gk1_4 gk1_5 CA0 CA1 CN
   have hz_wq5 := hb.size
   replace B := bb B hb
   replace XE := xb XE hb
   replace FE := fb FE hb
   replace XR := xb XR hb
   replace FR := fb FR hb
   replace XT6 := xb XT6 hb
   replace FT6 := fb FT6 hb
   clear hb
   have cR_0 := XR.out.2 0
   have cR_1 := XR.out.2 1
   have cT6_0 := XT6.out.2 0
   have cT6_1 := XT6.out.2 1
   have fR_0 := FR.out.2 0
   have fR_1 := FR.out.2 1
   go_wp2_with fail
   clear cR_0 cR_1 cT6_0 cT6_1 fR_0 fR_1
   have HW : Hid (synE (d + 1) C (.node 7 nm n ty es) = none) := by show _ = _; rw [HR.out, HA0.out, HA1.out]; simp [onlyIf]
   have XZ := put2_box (u := .int .i64 0) (v := .slice none 0 0) XR.out
   have h0 := XZ.2 0
   have h1 := XZ.2 1
   unfold put2 at h0 h1
   refine bodyPost_ret (v := .tuple #[.agg #[.int .i64 0, .slice none 0 0], .bool false]) (by simp [results, Tryz.results29, go_sem, h0, h1]) rfl ?_
   exact (by (try rw [HW.out]); exact ⟨1, _, _, _, _, rfl, leaf_in _ 0 _ _ (by omega) (by omega) (Nat.le_refl _), put2_below B.out (by omega)⟩)
  | true =>
   have HA1 := Lib.hid ha1
   clear ha1
   have gE_0 := gx XE 0
   have gE_1 := gx XE 1
   have gE_2 := gx XE 2
   have gE_3 := gx XE 3
   have gE_4 := gx XE 4
   have gE_5 := gx XE 5
   have gT6_0 := gx XT6 0
   have gT6_1 := gx XT6 1
   have gk0_0 := gk hbl B K0_0
   have gk0_1 := gk hbl B K0_1
   have gk0_2 := gk hbl B K0_2
   have gk0_3 := gk hbl B K0_3
   have gk0_4 := gk hbl B K0_4
   have gk0_5 := gk hbl B K0_5
   have gk1_0 := gk hbl B K1_0
   have gk1_1 := gk hbl B K1_1
   have gk1_2 := gk hbl B K1_2
   have gk1_3 := gk hbl B K1_3
   have gk1_4 := gk hbl B K1_4
   have gk1_5 := gk hbl B K1_5
   have CA0 : ∀ q : Grown ws4.heap.size ws4, Calls Tryz.prog 45 #[.slice va vn vc1, .agg #[.int .i64 xk, .string xnm, .int .i64 xn, .int .i64 xtk, .slice xta xtn xtc, .slice xsa xsm xsc], .agg #[.int .i64 2, .slice none 0 0]] q.val fun e w' => e = .returned (.bool true) ∧ Below q.val.heap.size q.val w' := fun q => by have h := IHA.out D _ _ _ _ C es[0] tyN q.val ((HV.out.below B.out).below q.old) ((HT0.out.below B.out).below q.old) (leaf_at _ 2 (by omega) (by omega)) (HOK.out.part 0 hq0) (by simp [tyN, Ty.size, Ty.sizes]); rw [HA0.out] at h; exact h
   have CA1 : ∀ q : Grown ws4.heap.size ws4, Calls Tryz.prog 45 #[.slice va vn vc1, .agg #[.int .i64 yk, .string ynm, .int .i64 yn, .int .i64 ytk, .slice yta ytn ytc, .slice ysa ysm ysc], .agg #[.int .i64 2, .slice none 0 0]] q.val fun e w' => e = .returned (.bool true) ∧ Below q.val.heap.size q.val w' := fun q => by have h := IHA.out D _ _ _ _ C es[1] tyN q.val ((HV.out.below B.out).below q.old) ((HT1.out.below B.out).below q.old) (leaf_at _ 2 (by omega) (by omega)) (HOK.out.part 1 hq1) (by simp [tyN, Ty.size, Ty.sizes]); rw [HA1.out] at h; exact h
   have CN : ∀ q : Grown ws4.heap.size ws4, Calls Tryz.prog 56 #[] q.val fun e w' => e = .returned (.agg #[.int .i64 2, .slice none 0 0]) ∧ Below q.val.heap.size q.val w' := fun q => specNumType q.val
   refine wp_region_grown ws4.heap.size (by kernel_rfl) (by kernel_rfl) ?_
   repeat (go_big_quiet_step ((first | (go_at_call 45; first | (with_reducible exact grown_of (Nat.le_refl _) (CA0 _)) | (with_reducible exact grown_of (Nat.le_refl _) (CA1 _))) | (go_at_call 56; exact grown_of (Nat.le_refl _) (CN _)))))
   refine wpQuiet_nil ?_
   rintro wq5 ⟨⟨wz, hb⟩, hqe⟩
   have hqe2 : wq5 = wz := hqe
   clear hqe
   subst hqe2
   clear gE_0 gE_1 gE_2 gE_3 gE_4 gE_5 gT6_0 gT6_1 gk0_0 gk0_1 gk0_2 gk0_3 gk0_4 gk0_5 gk1_0 gk1_1 gk1_2 gk1_3 gk1_4 gk1_5 CA0 CA1 CN
   have hz_wq5 := hb.size
   replace B := bb B hb
   replace XE := xb XE hb
   replace FE := fb FE hb
   replace XR := xb XR hb
   replace FR := fb FR hb
   replace XT6 := xb XT6 hb
   replace FT6 := fb FT6 hb
   clear hb
   have cR_0 := XR.out.2 0
   have cR_1 := XR.out.2 1
   have cT6_0 := XT6.out.2 0
   have cT6_1 := XT6.out.2 1
   have fR_0 := FR.out.2 0
   have fR_1 := FR.out.2 1
   go_wp2_with fail
   clear cR_0 cR_1 cT6_0 cT6_1 fR_0 fR_1
   have HW : Hid (synE (d + 1) C (.node 7 nm n ty es) = some (.node 3 [])) := by show _ = _; rw [HR.out, HA0.out, HA1.out]; rfl
   have XZ := put2_box (u := .int .i64 3) (v := .slice none 0 0) XR.out
   have h0 := XZ.2 0
   have h1 := XZ.2 1
   unfold put2 at h0 h1
   refine bodyPost_ret (v := .tuple #[.agg #[.int .i64 3, .slice none 0 0], .bool true]) (by simp [results, Tryz.results29, go_sem, h0, h1]) rfl ?_
   exact (by (try rw [HW.out]); exact ⟨1, _, _, _, _, rfl, leaf_in _ 3 _ _ (by omega) (by omega) (Nat.le_refl _), put2_below B.out (by omega)⟩)
set_option maxRecDepth 100000 in
set_option maxHeartbeats 2000000 in
theorem specSyn13 (d : Nat) (ihs : SpecSynSaid d) (iha : SpecAnaSaid d) (D : Nat) (vc v : Value) (C : List Bi) (nm : ByteArray) (n : Int) (ty : Ty) (es : List Ex) (w : World) (hv : BisAt w D vc C) (he : ExAt w (d + 1) v (.node 13 nm n ty es)) (hok : TypOk C (.node 13 nm n ty es)) :
  Calls Tryz.prog 29 #[vc, v] w (SynEnd (synE (d + 1) C (.node 13 nm n ty es)) w) := by
 have HE := Lib.hid he
 obtain ⟨c3, c4, sl, hx, hk0, hk1, hn0, hn1, hnm, hty, sa, sc, hsl, hcap, hcap2, hat⟩ := he
 subst hsl
 obtain ⟨tk, ta, tn, tc, rfl, rfl⟩ := at_parts hty
 subst hx
 obtain ⟨va, vn, vc1, rfl⟩ : ∃ a n c, vc = .slice a n c := by obtain ⟨a, cap, hv, _⟩ := hv; exact ⟨_, _, _, hv⟩
 have hlen : es.length = 1 := by have h1 := (form_parts hok.1).1; have h2 : arity 13 = 1 := rfl; omega
 have hq0 : 0 < es.length := by omega
 obtain ⟨b, off, q0_0, q0_1, q0_2, q0_3, q0_4, q0_5, e0, hbl, z0_0, z0_1, z0_2, z0_3, z0_4, z0_5, ht0⟩ := hat 0 hq0
 subst e0
 obtain ⟨xk, xnm, xn, xtk, xta, xtn, xtc, xsa, xsm, xsc, rfl, rfl, rfl, rfl, rfl, rfl⟩ := ex_cells ht0
 simp only [Nat.zero_mul, Nat.add_zero] at z0_0 z0_1 z0_2 z0_3 z0_4 z0_5
 have K0_0 := Lib.hid z0_0
 have K0_1 := Lib.hid z0_1
 have K0_2 := Lib.hid z0_2
 have K0_3 := Lib.hid z0_3
 have K0_4 := Lib.hid z0_4
 have K0_5 := Lib.hid z0_5
 clear z0_0 z0_1 z0_2 z0_3 z0_4 z0_5
 have HT0 := Lib.hid ht0
 clear ht0
 have HV := Lib.hid hv
 clear hv
 have HOK := Lib.hid hok
 clear hok hat
 have HTY := Lib.hid hty
 clear hty
 have HNM := Lib.hid hnm
 clear hnm
 have IHS := Lib.hid ihs
 have IHA := Lib.hid iha
 clear ihs iha
 rw [hlen] at HE ⊢
 clear hlen
 have hx2 : synE (d + 1) C (.node 13 nm n ty es) = onlyIf (anaE d C es[0] ty) ty := by rw [synE_succ]; simp only [synStep]; rw [Ex.arg_get hq0]; simp
 have HR := Lib.hid hx2
 clear hx2
 have htz : ty.size ≤ 15 := note_small ((form_parts HOK.out.1).2.2 (Or.inr rfl))
 obtain ⟨w0, hw0, B, hz_w0, XE, FE, XR, FR⟩ := laid2 w #[.int .i64 13, .string nm, .int .i64 n, .int .i64 tk, .slice ta tn tc, .slice (some ⟨b, off, none⟩) 1 sc] 40 #[.int .i64 0, .slice none 0 0] 33
 replace B := Lib.hid B
 go_enter Tryz.func29, Tryz.ntmps29
 go_wp2_with fail
 rw [← hw0]
 clear hw0
 refine (specUnknownType _).mono ?_
 rintro e w1 ⟨rfl, hb⟩
 have hz_w1 := hb.size
 replace B := bb B hb
 replace XE := xb XE hb
 replace FE := fb FE hb
 replace XR := xb XR hb
 replace FR := fb FR hb
 clear hb
 have hn1 : ¬ (w1.heap.size = w.heap.size + 1) := by omega
 have hn2 : ¬ (w.heap.size + 1 = w1.heap.size) := by omega
 have hn3 : ¬ (w1.heap.size = w.heap.size) := by omega
 have hn4 : ¬ (w.heap.size = w1.heap.size) := by omega
 obtain ⟨wa2, hwa2, hb, hy_wa2, XT6, FT6⟩ := laid1 w1 #[.int .i64 1, .slice none 0 0] 33
 have hz_wa2 := hb.size
 replace B := bb B hb
 replace XE := xb XE hb
 replace FE := fb FE hb
 replace XR := xb XR hb
 replace FR := fb FR hb
 clear hb
 have cE_0 := XE.out.2 0
 have cE_1 := XE.out.2 1
 have cE_2 := XE.out.2 2
 have cE_3 := XE.out.2 3
 have cE_4 := XE.out.2 4
 have cE_5 := XE.out.2 5
 have cR_0 := XR.out.2 0
 have cR_1 := XR.out.2 1
 have cT6_0 := XT6.out.2 0
 have cT6_1 := XT6.out.2 1
 have fR_0 := FR.out.2 0
 have fR_1 := FR.out.2 1
 have fT6_0 := FT6.out.2 0
 have fT6_1 := FT6.out.2 1
 rw [hwa2] at cE_0
 rw [hwa2] at cE_1
 rw [hwa2] at cE_2
 rw [hwa2] at cE_3
 rw [hwa2] at cE_4
 rw [hwa2] at cE_5
 rw [hwa2] at cR_0
 rw [hwa2] at cR_1
 rw [hwa2] at cT6_0
 rw [hwa2] at cT6_1
 rw [hwa2] at fR_0
 rw [hwa2] at fR_1
 rw [hwa2] at fT6_0
 rw [hwa2] at fT6_1
 go_wp2_with fail
 clear cE_0 cE_1 cE_2 cE_3 cE_4 cE_5 cR_0 cR_1 cT6_0 cT6_1 fR_0 fR_1 fT6_0 fT6_1
 rw [← hwa2]
 clear hwa2
 refine (Calls.mono (specCopy d _ ty _ (by omega) (HTY.out.below B.out)) (fun _ _ h => type_e h)).mono ?_
 rintro e w3 ⟨DL, lk, la, ln, lc, rfl, ho, hb⟩
 have Ol := Lib.hid ho
 clear ho
 have hz_w3 := hb.size
 replace B := bb B hb
 replace XE := xb XE hb
 replace FE := fb FE hb
 replace XR := xb XR hb
 replace FR := fb FR hb
 replace XT6 := xb XT6 hb
 replace FT6 := fb FT6 hb
 clear hb
 have cR_0 := XR.out.2 0
 have cR_1 := XR.out.2 1
 have cT6_0 := XT6.out.2 0
 have cT6_1 := XT6.out.2 1
 have fT6_0 := FT6.out.2 0
 have fT6_1 := FT6.out.2 1
 go_wp2_with fail
 clear cR_0 cR_1 cT6_0 cT6_1 fT6_0 fT6_1
 obtain ⟨ws4, hws4⟩ : ∃ W, W = put2 w3 (w1.heap.size) (.int .i64 lk) (.slice la ln lc) := ⟨_, rfl⟩
 have hy_ws4 : ws4.heap.size = w3.heap.size := by rw [hws4]; exact put2_size
 replace XE := xo hws4 XE (by omega)
 replace FE := fo hws4 FE
 replace XR := xo hws4 XR (by omega)
 replace FR := fo hws4 FR
 replace XT6 := xs hws4 XT6
 replace FT6 := fo hws4 FT6
 replace Ol := oo hws4 Ol (by omega)
 replace B := bo hws4 B (by omega)
 unfold put2 at hws4
 rw [← hws4]
 clear hws4
 cases ha0 : anaE d C es[0] ty with
 | false =>
  have HA0 := Lib.hid ha0
  clear ha0
  have gE_0 := gx XE 0
  have gE_1 := gx XE 1
  have gE_2 := gx XE 2
  have gE_3 := gx XE 3
  have gE_4 := gx XE 4
  have gE_5 := gx XE 5
  have gT6_0 := gx XT6 0
  have gT6_1 := gx XT6 1
  have gk0_0 := gk hbl B K0_0
  have gk0_1 := gk hbl B K0_1
  have gk0_2 := gk hbl B K0_2
  have gk0_3 := gk hbl B K0_3
  have gk0_4 := gk hbl B K0_4
  have gk0_5 := gk hbl B K0_5
  have CA0 : ∀ q : Grown ws4.heap.size ws4, Calls Tryz.prog 45 #[.slice va vn vc1, .agg #[.int .i64 xk, .string xnm, .int .i64 xn, .int .i64 xtk, .slice xta xtn xtc, .slice xsa xsm xsc], .agg #[.int .i64 tk, .slice ta tn tc]] q.val fun e w' => e = .returned (.bool false) ∧ Below q.val.heap.size q.val w' := fun q => by have h := IHA.out D _ _ _ _ C es[0] ty q.val ((HV.out.below B.out).below q.old) ((HT0.out.below B.out).below q.old) ((HTY.out.below B.out).below q.old) (HOK.out.part 0 hq0) (by omega); rw [HA0.out] at h; exact h
  refine wp_region_grown ws4.heap.size (by kernel_rfl) (by kernel_rfl) ?_
  repeat (go_big_quiet_step ((go_at_call 45; exact grown_of (Nat.le_refl _) (CA0 _))))
  refine wpQuiet_nil ?_
  rintro wq5 ⟨⟨wz, hb⟩, hqe⟩
  have hqe2 : wq5 = wz := hqe
  clear hqe
  subst hqe2
  clear gE_0 gE_1 gE_2 gE_3 gE_4 gE_5 gT6_0 gT6_1 gk0_0 gk0_1 gk0_2 gk0_3 gk0_4 gk0_5 CA0
  have hz_wq5 := hb.size
  replace B := bb B hb
  replace XE := xb XE hb
  replace FE := fb FE hb
  replace XR := xb XR hb
  replace FR := fb FR hb
  replace XT6 := xb XT6 hb
  replace FT6 := fb FT6 hb
  replace Ol := ob Ol hb
  clear hb
  have cR_0 := XR.out.2 0
  have cR_1 := XR.out.2 1
  have cT6_0 := XT6.out.2 0
  have cT6_1 := XT6.out.2 1
  have fR_0 := FR.out.2 0
  have fR_1 := FR.out.2 1
  go_wp2_with fail
  clear cR_0 cR_1 cT6_0 cT6_1 fR_0 fR_1
  have HW : Hid (synE (d + 1) C (.node 13 nm n ty es) = none) := by show _ = _; rw [HR.out, HA0.out]; rfl
  have XZ := put2_box (u := .int .i64 0) (v := .slice none 0 0) XR.out
  have h0 := XZ.2 0
  have h1 := XZ.2 1
  unfold put2 at h0 h1
  refine bodyPost_ret (v := .tuple #[.agg #[.int .i64 0, .slice none 0 0], .bool false]) (by simp [results, Tryz.results29, go_sem, h0, h1]) rfl ?_
  exact (by (try rw [HW.out]); exact ⟨1, _, _, _, _, rfl, leaf_in _ 0 _ _ (by omega) (by omega) (Nat.le_refl _), put2_below B.out (by omega)⟩)
 | true =>
  have HA0 := Lib.hid ha0
  clear ha0
  have gE_0 := gx XE 0
  have gE_1 := gx XE 1
  have gE_2 := gx XE 2
  have gE_3 := gx XE 3
  have gE_4 := gx XE 4
  have gE_5 := gx XE 5
  have gT6_0 := gx XT6 0
  have gT6_1 := gx XT6 1
  have gk0_0 := gk hbl B K0_0
  have gk0_1 := gk hbl B K0_1
  have gk0_2 := gk hbl B K0_2
  have gk0_3 := gk hbl B K0_3
  have gk0_4 := gk hbl B K0_4
  have gk0_5 := gk hbl B K0_5
  have CA0 : ∀ q : Grown ws4.heap.size ws4, Calls Tryz.prog 45 #[.slice va vn vc1, .agg #[.int .i64 xk, .string xnm, .int .i64 xn, .int .i64 xtk, .slice xta xtn xtc, .slice xsa xsm xsc], .agg #[.int .i64 tk, .slice ta tn tc]] q.val fun e w' => e = .returned (.bool true) ∧ Below q.val.heap.size q.val w' := fun q => by have h := IHA.out D _ _ _ _ C es[0] ty q.val ((HV.out.below B.out).below q.old) ((HT0.out.below B.out).below q.old) ((HTY.out.below B.out).below q.old) (HOK.out.part 0 hq0) (by omega); rw [HA0.out] at h; exact h
  refine wp_region_grown ws4.heap.size (by kernel_rfl) (by kernel_rfl) ?_
  repeat (go_big_quiet_step ((go_at_call 45; exact grown_of (Nat.le_refl _) (CA0 _))))
  refine wpQuiet_nil ?_
  rintro wq5 ⟨⟨wz, hb⟩, hqe⟩
  have hqe2 : wq5 = wz := hqe
  clear hqe
  subst hqe2
  clear gE_0 gE_1 gE_2 gE_3 gE_4 gE_5 gT6_0 gT6_1 gk0_0 gk0_1 gk0_2 gk0_3 gk0_4 gk0_5 CA0
  have hz_wq5 := hb.size
  replace B := bb B hb
  replace XE := xb XE hb
  replace FE := fb FE hb
  replace XR := xb XR hb
  replace FR := fb FR hb
  replace XT6 := xb XT6 hb
  replace FT6 := fb FT6 hb
  replace Ol := ob Ol hb
  clear hb
  have cR_0 := XR.out.2 0
  have cR_1 := XR.out.2 1
  have cT6_0 := XT6.out.2 0
  have cT6_1 := XT6.out.2 1
  have fR_0 := FR.out.2 0
  have fR_1 := FR.out.2 1
  go_wp2_with fail
  clear cR_0 cR_1 cT6_0 cT6_1 fR_0 fR_1
  have HW : Hid (synE (d + 1) C (.node 13 nm n ty es) = some ty) := by show _ = _; rw [HR.out, HA0.out]; rfl
  have htop := own_top Ol.out
  have XZ := put2_box (u := .int .i64 lk) (v := .slice la ln lc) XR.out
  have h0 := XZ.2 0
  have h1 := XZ.2 1
  unfold put2 at h0 h1
  refine bodyPost_ret (v := .tuple #[.agg #[.int .i64 lk, .slice la ln lc], .bool true]) (by simp [results, Tryz.results29, go_sem, h0, h1]) rfl ?_
  exact (by (try rw [HW.out]); exact ⟨DL, _, _, _, _, rfl, (put2_own Ol.out (by omega)).widen (by omega) (by first | (simp; omega) | simp) (Nat.le_refl _), put2_below B.out (by omega)⟩)
theorem specSyn_step (d : Nat) (ihs : SpecSynSaid d) (iha : SpecAnaSaid d) : SpecSynSaid (d + 1) := by
 intro D vc v C t w hv he hok
 cases t with
 | node k nm n ty es =>
  rcases form_kind hok.1 with rfl | rfl | rfl | rfl | rfl | rfl | rfl | rfl | rfl | rfl | rfl | rfl | rfl | rfl
  ·exact specSyn1 d ihs iha D vc v C nm n ty es w hv he hok
  ·exact specSyn2 d ihs iha D vc v C nm n ty es w hv he hok
  ·exact specSyn3 d ihs iha D vc v C nm n ty es w hv he hok
  ·exact specSyn4 d ihs iha D vc v C nm n ty es w hv he hok
  ·exact specSyn5 d ihs iha D vc v C nm n ty es w hv he hok
  ·exact specSyn6 d ihs iha D vc v C nm n ty es w hv he hok
  ·exact specSyn7 d ihs iha D vc v C nm n ty es w hv he hok
  ·exact specSyn8 d ihs iha D vc v C nm n ty es w hv he hok
  ·exact specSyn9 d ihs iha D vc v C nm n ty es w hv he hok
  ·exact specSyn10 d ihs iha D vc v C nm n ty es w hv he hok
  ·exact specSyn11 d ihs iha D vc v C nm n ty es w hv he hok
  ·exact specSyn12 d ihs iha D vc v C nm n ty es w hv he hok
  ·exact specSyn13 d ihs iha D vc v C nm n ty es w hv he hok
  ·exact specSyn14 d ihs iha D vc v C nm n ty es w hv he hok
end Go.Proofs.YteffjeejbdjjpaaGreatDoor
