/-
  Proved: impl.nodeAt finds the node at a path, or gives nil; the memory that was there stays as it was.
-/
import Derived.Test.YtfidcblaabeaaaaSubEx
import Derived.Test.YtfidcblaabeaaaaHold
import Derived.Test.YtfidcblaabeaaaaTwo
namespace Go.Proofs.Ytfidcblaabeaaaa
open Go.RowKit

/-- In the world w the pointer s points at a node that reads as e. -/
def PtrAt (w : World) (d : Nat) (s : Value) (e : Ex) : Prop :=
  ∃ b off xk xnm xn xtk xta xtn xtc xa xm xc, s = .pointer (some ⟨b, off, none⟩) ∧ b < w.heap.size ∧ w.cell? ⟨b, off, none⟩ = some (.int .i64 xk) ∧ w.cell? ⟨b, off + 1, none⟩ = some (.string xnm) ∧ w.cell? ⟨b, off + 2, none⟩ = some (.int .i64 xn) ∧ w.cell? ⟨b, off + 3, none⟩ = some (.int .i64 xtk) ∧ w.cell? ⟨b, off + 4, none⟩ = some (.slice xta xtn xtc) ∧ w.cell? ⟨b, off + 5, none⟩ = some (.slice xa xm xc) ∧ ExAt w d (.agg #[.int .i64 xk, .string xnm, .int .i64 xn, .int .i64 xtk, .slice xta xtn xtc, .slice xa xm xc]) e
theorem PtrAt.below {w w' : World} {d : Nat} {s : Value} {e : Ex} (h : PtrAt w d s e) (hb : Below w.heap.size w w') : PtrAt w' d s e := by
  obtain ⟨b, off, xk, xnm, xn, xtk, xta, xtn, xtc, xa, xm, xc, hs, hl, h0, h1, h2, h3, h4, h5, he⟩ := h
  have hk : ∀ o, w'.cell? ⟨b, o, none⟩ = w.cell? ⟨b, o, none⟩ := fun o => hb.cell (p := ⟨b, o, none⟩) hl
  exact ⟨b, off, xk, xnm, xn, xtk, xta, xtn, xtc, xa, xm, xc, hs, Nat.lt_of_lt_of_le hl hb.size, (hk _).trans h0, (hk _).trans h1, (hk _).trans h2, (hk _).trans h3, (hk _).trans h4, (hk _).trans h5, he.below hb⟩
theorem ex_show {w : World} {d : Nat} {c0 c1 c2 c3 c4 c5 : Value} {e : Ex} (h : ExAt w d (.agg #[c0, c1, c2, c3, c4, c5]) e) : ∃ xk xnm xn xtk xta xtn xtc xa xm xc, c0 = .int .i64 xk ∧ c1 = .string xnm ∧ c2 = .int .i64 xn ∧ c3 = .int .i64 xtk ∧ c4 = .slice xta xtn xtc ∧ c5 = .slice xa xm xc := ex_cells h
def NodeAtEnd (d : Nat) (r : Option Ex) (w : World) (e : Ending) (w' : World) : Prop :=
  w' = w ∧ match r with | some x => ∃ s, e = .returned s ∧ PtrAt w d s x | none => e = .returned (.pointer none)
set_option maxRecDepth 100000 in
set_option maxHeartbeats 4000000 in
theorem implNodeAt (d : Nat) (s v : Value) (e : Ex) (ps : List Int) (w : World) (hs : PtrAt w d s e) (hp : Ints w v ps) (hn : ps.length ≤ 1048576) :
    Calls Try.prog 63 #[s, v] w (NodeAtEnd d (e.sub ps) w) := by
  obtain ⟨pa, pc, rfl, hpc, hpat⟩ := hp
  have HP := Lib.hid hpat; clear hpat
  obtain ⟨b0, off0, y0, y1, y2, y3, y4, y5, y6, y7, y8, y9, rfl, hbl0, h00⟩ := id hs
  clear h00 hbl0
  go_enter Try.func63, Try.ntmps63
  go_wp2_with fail
  go_loopw [0, 9] (fun q i wr => ∃ (k : Nat) (x : Ex) (b off : Nat), k ≤ ps.length ∧ i = .int .i64 k ∧ q = .pointer (some ⟨b, off, none⟩) ∧ PtrAt w d q x ∧ e.sub ps = x.sub (ps.drop k) ∧ wr = w) (fun _ i _ => ps.length - (intOf i).toNat)
  case atStart => exact ⟨0, e, b0, off0, by omega, rfl, rfl, hs, by simp, rfl⟩
  case round =>
    obtain ⟨k, x, b, off, hk, rfl, rfl, hx, hsub, hw⟩ := hrel
    subst hw
    have HSUB := Lib.hid hsub; clear hsub
    obtain ⟨b', off', xk, xnm, xn, xtk, xta, xtn, xtc, xa, xm, xc, hptr, hbl, e0, e1, e2, e3, e4, e5, hex⟩ := hx
    injection hptr with hptr
    injection hptr with hptr
    injection hptr with hb1 hb2
    subst hb1 hb2
    by_cases hlt : k < ps.length
    · obtain ⟨bp, offp, rfl, hblp, hcp⟩ := HP.out k hlt
      obtain ⟨rfl, hmc, hc2, hrow⟩ := ex_row hex
      have HROW := Lib.hid hrow; clear hrow
      have HDR := Lib.hid (drop_at ps k hlt)
      obtain ⟨p, hp⟩ : ∃ p, p = ps[k] := ⟨_, rfl⟩
      rw [← hp] at hcp HDR
      clear hp
      by_cases q1 : p < 0
      · have HN : Hid (e.sub ps = none) := by show _ = _; rw [HSUB.out, HDR.out]; exact sub_low q1
        go_wp2_with fail
        go_ret
        exact ⟨rfl, by rw [HN.out]; rfl⟩
      · by_cases q2 : (x.parts.length : Int) ≤ p
        · have HN : Hid (e.sub ps = none) := by show _ = _; rw [HSUB.out, HDR.out]; exact sub_high q2
          go_wp2_with fail
          go_ret
          exact ⟨rfl, by rw [HN.out]; rfl⟩
        · obtain ⟨m, rfl⟩ : ∃ m : Nat, p = m := ⟨p.toNat, by omega⟩
          have hm : m < x.parts.length := by omega
          have HN : Hid (e.sub ps = (x.parts[m]).sub (ps.drop (k + 1))) := by
            show _ = _
            rw [HSUB.out, HDR.out]
            exact sub_step (by omega) (by simpa using hm)
          obtain ⟨bn, offn, z0, z1, z2, z3, z4, z5, rfl, hbn, f0, f1, f2, f3, f4, f5, hz⟩ := HROW.out m hm
          obtain ⟨zk, znm, zn, ztk, zta, ztn, ztc, za, zm, zc, rfl, rfl, rfl, rfl, rfl, rfl⟩ := ex_show hz
          have HX2 : Hid (PtrAt wr d (.pointer (some ⟨bn, offn + m * 6, none⟩)) x.parts[m]) := ⟨bn, offn + m * 6, _, _, _, _, _, _, _, _, _, _, rfl, hbn, f0, f1, f2, f3, f4, f5, hz⟩
          clear f0 f1 f2 f3 f4 f5 hz
          go_wp2_with fail
          exact ⟨⟨k + 1, x.parts[m], bn, offn + m * 6, by omega, by go_num, rfl, HX2.out, HN.out, (by first | trivial | rfl)⟩, by simp [intOf]; omega⟩
    · obtain rfl : k = ps.length := by omega
      have HN : Hid (e.sub ps = some x) := by show _ = _; rw [HSUB.out, List.drop_length]; exact sub_nil x
      have HX2 : Hid (PtrAt wr d (.pointer (some ⟨b, off, none⟩)) x) := ⟨b, off, _, _, _, _, _, _, _, _, _, _, rfl, hbl, e0, e1, e2, e3, e4, e5, hex⟩
      go_wp2_with fail
      go_ret
      refine ⟨rfl, ?_⟩
      rw [HN.out]
      exact ⟨_, rfl, HX2.out⟩
end Go.Proofs.Ytfidcblaabeaaaa
