/-
  Proved: the reference's draws of a type and of a text that may be a type's; the memory that was there stays as it was.
-/
import Derived.Test.YtgoohelkgaklgaaBentTy
import Derived.Test.YtgoohelkgaklgaaCurTurn
import Derived.Test.YtgoohelkgaklgaaSpecFormatType
import Derived.Deep.RegionLaw
namespace Go.Proofs.Ytgoohelkgaklgaa
open Go.RowKit

theorem Code.later {B : Nat} {w w' : World} {v : Value} {n : Nat} (h : Code B w v n) (hB : B ≤ w.heap.size) (hb : Below w.heap.size w w') : Code B w' v n := by
  obtain ⟨a, cap, rfl, hn, h⟩ := h
  refine ⟨a, cap, rfl, hn, fun j hj => ?_⟩
  obtain ⟨b, off, x, ha, hlt, h0, h1, hc⟩ := h j hj
  exact ⟨b, off, x, ha, hlt, h0, h1, by rw [hb.cell (p := ⟨b, off + j, none⟩) (Nat.lt_of_lt_of_le hlt hB)]; exact hc⟩
/-- What drawing one type ends in. -/
def OneTyEnd (w : World) (e : Ending) (w' : World) : Prop :=
  ∃ d v t, e = .returned v ∧ t.size ≤ 65536 ∧ TyAt w' d v t ∧ Below w.heap.size w w'
set_option maxRecDepth 100000 in
set_option maxHeartbeats 2000000 in
theorem drawFormatType (v : Value) (n : Nat) (w : World) (h : Code w.heap.size w v n) :
    Calls Try.prog 6 #[v] w (OneTyEnd w) := by
  have XR : Hid (BoxAt (w.alloc (.cells #[.int .i64 0, .slice none 0 0] 26)) w.heap.size #[.int .i64 0, .slice none 0 0]) := BoxAt.new _ _ _
  have XF : Hid (FreeAt (w.alloc (.cells #[.int .i64 0, .slice none 0 0] 26)) w.heap.size) := FreeAt.new _ _ _
  have HC := Lib.hid (h.later (Nat.le_refl _) (below_alloc w (.cells #[.int .i64 0, .slice none 0 0] 26)))
  have B0 := Lib.hid (below_alloc w (.cells #[.int .i64 0, .slice none 0 0] 26))
  clear h
  go_enter Try.func6, Try.ntmps6
  go_wp2_with fail
  refine (curNew w.heap.size v n _ (by simp) HC.out).mono ?_
  rintro e w1 ⟨rfl, hc1, hb1⟩
  simp only [World.size_alloc] at hc1 ⊢
  have H1 := Lib.hid hc1
  replace XR := Lib.hid (XR.out.below hb1)
  replace XF := Lib.hid (XF.out.below hb1)
  have B1 := Lib.hid (below_thru B0.out (Nat.le_refl _) hb1)
  have hz1 := hb1.size
  simp only [World.size_alloc] at hz1
  clear hc1 hb1 HC B0
  go_wp2_with fail
  refine (bentTy w.heap.size (w.heap.size + 1) _ H1.out).mono ?_
  rintro e w2 ⟨d, v2, t, rfl, ⟨hs, _⟩, hbt, hc2, hg2⟩
  obtain ⟨ak, aa, an, ac, rfl⟩ := hbt.form
  have HT := Lib.hid hbt
  have B2 := Lib.hid (B1.out.grown hg2 (by omega) (fun k e => by cases e; omega))
  have XR2 := XR.out.grownPast hg2 (by omega)
  have XF2 := XF.out.grownPast hg2 (by omega)
  have r0 := XR2.2 0
  have r1 := XR2.2 1
  have q0 := XF2.2 0
  have q1 := XF2.2 1
  have XRH := Lib.hid XR2
  clear XR2 XF2 hbt hc2 hg2
  go_wp2_with fail
  refine bodyPost_ret (v := .agg #[.int .i64 ak, .slice aa an ac]) (by simp [results, Try.results6, go_sem, r0, r1]) rfl ?_
  exact ⟨_, _, t, rfl, hs, ((HT.out.far (grown_set _ w.heap.size 0 _) (by omega)).far (grown_set _ w.heap.size 1 _) (by omega)).at_, (B2.out.setCell (Nat.le_refl _) _).setCell (Nat.le_refl _) _⟩
def turnList : List ByteArray := [⟨#[40]⟩, ⟨#[41]⟩, ⟨#[62]⟩, ⟨#[42]⟩, ⟨#[78]⟩, ⟨#[63]⟩, ⟨#[32]⟩]
theorem format_small (t : Ty) : (formatText t).size ≤ 3 * t.size := by
  unfold formatText
  split
  · exact Ty.text_size t
  · exact Nat.zero_le _
set_option maxRecDepth 100000 in
set_option maxHeartbeats 2000000 in
theorem drawParseType (v : Value) (n : Nat) (w : World) (h : Code w.heap.size w v n) :
    Calls Try.prog 12 #[v] w fun e w' => ∃ u : ByteArray, e = .returned (.string u) ∧ u.size ≤ 300000 ∧ Below w.heap.size w w' := by
  have HC := Lib.hid h
  clear h
  go_enter Try.func12, Try.ntmps12
  go_wp2_with fail
  refine (curNew w.heap.size v n _ (Nat.le_refl _) HC.out).mono ?_
  rintro e w1 ⟨rfl, hc1, hb1⟩
  have H1 := Lib.hid hc1
  have B1 := Lib.hid hb1
  have hz1 := hb1.size
  have hp1 := hc1.inside
  clear hc1 hb1 HC
  go_wp2_with fail
  refine (bentTy w.heap.size w.heap.size _ H1.out).mono ?_
  rintro e w2 ⟨d, v2, t, rfl, ⟨hs, _⟩, hbt, hc2, hg2⟩
  obtain ⟨ak, aa, an, ac, rfl⟩ := hbt.form
  have HT := Lib.hid hbt.at_
  have H2 := Lib.hid hc2
  have B2 := Lib.hid (B1.out.grown hg2 (by omega) (fun k e => by cases e; exact Nat.le_refl _))
  have hz2 := hg2.size
  clear hbt hc2 hg2
  go_wp2_with fail
  refine (specFormatType _ _ t _ HT.out (by omega)).mono ?_
  rintro e w3 ⟨rfl, hb⟩
  have hf := format_small t
  have H3 := Lib.hid (H2.out.beside hb)
  have B3 := Lib.hid (below_thru B2.out (Nat.le_refl _) hb)
  have hz3 := hb.size
  clear hb
  generalize formatText t = s at hf ⊢
  have HA := Lib.hid (H3.out.beside (below_alloc w3 (.cells #[.string ⟨#[40]⟩, .string ⟨#[41]⟩, .string ⟨#[62]⟩, .string ⟨#[42]⟩, .string ⟨#[78]⟩, .string ⟨#[63]⟩, .string ⟨#[32]⟩] 9)))
  have BA := Lib.hid (below_thru B3.out (Nat.le_refl _) (below_alloc w3 (.cells #[.string ⟨#[40]⟩, .string ⟨#[41]⟩, .string ⟨#[62]⟩, .string ⟨#[42]⟩, .string ⟨#[78]⟩, .string ⟨#[63]⟩, .string ⟨#[32]⟩] 9)))
  go_wp2_with fail
  refine (curTurned w.heap.size w.heap.size w3.heap.size 7 turnList (by decide) (by decide) (fun x hx => by simp only [turnList, List.mem_cons, List.not_mem_nil, or_false] at hx; rcases hx with rfl | rfl | rfl | rfl | rfl | rfl | rfl <;> decide) (by omega) _ _ s (by omega) _ (heap_alloc_new _ _) rfl HA.out).mono ?_
  rintro e w4 ⟨u, rfl, hu, hc4, hg4⟩
  have B4 := Lib.hid (BA.out.grown hg4 (by simp; omega) (fun k e => by cases e; exact Nat.le_refl _))
  clear hc4 hg4
  go_wp2_with fail
  go_ret
  exact ⟨u, rfl, by omega, B4.out⟩
end Go.Proofs.Ytgoohelkgaklgaa
