/-
  Proved: spec.ParsePath reads a text as a path, in new memory; the memory that was there stays as it was. On these terms: a text of at most 2^20 bytes.
-/
import Derived.Test.YtpoafjbndipfeaaDoorPathRead
import Derived.Test.YtpoafjbndipfeaaDoorSpecSplit
import Derived.Test.YtpoafjbndipfeaaDoorSpecParseN
import Derived.Test.YtpoafjbndipfeaaDoorInts
import Derived.Lib.AppendIntMem
namespace Go.Proofs.YtpoafjbndipfeaaDoor
open Go.RowKit

theorem one_int (w : World) (t : TypeId) (x : Value) : ∀ j u, [x][j]? = some u → (w.alloc (.cells #[x] t)).cell? ((⟨w.heap.size, 0, none⟩ : Addr).add j) = some u := by
  intro j u h
  have hj : j = 0 := by
    have := (List.getElem?_eq_some_iff.1 h).1
    simpa using this
  subst hj
  simp at h
  subst h
  rw [addr_add]
  simp
theorem ints_none {w : World} {B : Nat} : w.ownsRow B 3 1 (.slice none 0 0) 0 [] := ⟨rfl, Or.inl ⟨rfl, rfl⟩⟩
theorem piece_at {ss : List ByteArray} {l : List (List UInt8)} (h : ss.map (·.data.toList) = l) (k : Nat) (hk : k < ss.length) : l[k]? = some ss[k].data.toList := by
  rw [← h, List.getElem?_map, List.getElem?_eq_getElem hk]; rfl
theorem piece_len {ss : List ByteArray} {l : List (List UInt8)} (h : ss.map (·.data.toList) = l) : ss.length = l.length := by
  rw [← h, List.length_map]
theorem kept_below {B : Nat} {w w1 w2 : World} {e : TypeId} {v : Value} {n : Nat} {xs : List Value} (h : Below B w w1) (hg : w1.grownBy w2 v.ownBlock) (ho : w1.ownsRow B e 1 v n xs) (hB : B ≤ w1.heap.size) : Below B w w2 :=
  h.grown hg hB fun k hk => (ho.lt k hk).1
/-- What stands at the head of a round. -/
def PathLoop (s : ByteArray) (w : World) (ss : List ByteArray) (v1 : Value) (k : Nat) (out : Value) (wr : World) : Prop :=
  ∃ ns : List Int, ns.length = k ∧ (∀ (j : Nat) (n : Int) (p : List UInt8), ns[j]? = some n → (Num.pieces 46 s.data.toList)[j]? = some p → stepOk p n) ∧ wr.ownsRow w.heap.size 3 1 out k (ns.map (Value.int IntKind.i64)) ∧ wr.ownsRow w.heap.size 9 1 v1 ss.length (ss.map Value.string) ∧ Below w.heap.size w wr
theorem next_ok {s : ByteArray} {ns : List Int} {k : Nat} {n : Int} {p : List UInt8} (h : ∀ (j : Nat) (n : Int) (p : List UInt8), ns[j]? = some n → (Num.pieces 46 s.data.toList)[j]? = some p → stepOk p n) (hl : ns.length = k) (hp : (Num.pieces 46 s.data.toList)[k]? = some p) (hn : stepOk p n) :
    ∀ (j : Nat) (m : Int) (p : List UInt8), (ns ++ [n])[j]? = some m → (Num.pieces 46 s.data.toList)[j]? = some p → stepOk p m := by
  intro j m q h1 h2
  by_cases hj : j < ns.length
  · rw [List.getElem?_append_left hj] at h1
    exact h j m q h1 h2
  · have h3 : j = k := by
      have := (List.getElem?_eq_some_iff.1 h1).1
      simp at this; omega
    subst h3
    rw [List.getElem?_append_right (by omega)] at h1
    rw [hp] at h2
    simp [hl] at h1 h2
    subst h1 h2
    exact hn
theorem row_slice {w : World} {B : Nat} {e : TypeId} {size : Nat} {v : Value} {n : Nat} {xs : List Value} (h : w.ownsRow B e size v n xs) : ∃ a cap, v = .slice a n cap := by
  rcases h.2 with ⟨rfl, hn⟩ | ⟨g, cap, cur, rfl, _⟩
  · exact ⟨none, 0, by rw [hn]⟩
  · exact ⟨_, _, rfl⟩
theorem strs_cell {w : World} {a : Option Addr} {n cap : Nat} {ss : List ByteArray} (h : Strs w (.slice a n cap) ss) (k : Nat) (hk : k < ss.length) : ∃ b off, a = some ⟨b, off, none⟩ ∧ b < w.heap.size ∧ w.cell? ⟨b, off + k, none⟩ = some (.string ss[k]) := by
  obtain ⟨a', cap', e, _, hat⟩ := h
  injection e with e1 e2 e3
  subst e1
  exact hat k hk
theorem _root_.Go.World.ownsRow.base {w : World} {B B' : Nat} {e : TypeId} {size : Nat} {v : Value} {n : Nat} {xs : List Value} (h : w.ownsRow B' e size v n xs) (hB : B ≤ B') : w.ownsRow B e size v n xs := by
  refine ⟨h.1, ?_⟩
  rcases h.2 with h | ⟨g, cap, cur, rfl, r1, r2⟩
  · exact Or.inl h
  · exact Or.inr ⟨g, cap, cur, rfl, Nat.le_trans hB r1, r2⟩
set_option maxRecDepth 100000 in
set_option maxHeartbeats 2000000 in
theorem specPathRead (s : ByteArray) (hs : s.size ≤ 1048576) (w : World) :
    Calls Tryd.prog 18 #[.string s] w (PathEnd s.data.toList w) := by
  obtain ⟨i0, hi, hz0, hz1, hz2⟩ := info_parts info_i
  have HI := Lib.hid hi; clear hi
  have HZ0 := Lib.hid hz0; clear hz0
  have HZ1 := Lib.hid hz1; clear hz1
  have HZ2 := Lib.hid hz2; clear hz2
  cases hq : (s.toList == [45]) with
  | true =>
    have HE := Lib.hid (text_is hq)
    go_enter Tryd.func18, Tryd.ntmps18
    go_wp2_with fail
    go_ret2
    exact ⟨_, [], true, rfl, Or.inl ⟨HE.out, rfl, rfl⟩, by simp, World.ownsRow_made w #[] 0 (Nat.le_refl _) (Nat.zero_le _) rfl, (Below.refl _ _).alloc (Nat.le_refl _) _⟩
  | false =>
    have HE := Lib.hid (text_isnt hq)
    have B0 : Hid (Below w.heap.size w (w.alloc (.cells #[] 3))) := (Below.refl _ _).alloc (Nat.le_refl _) _
    have O0 : Hid ((w.alloc (.cells #[] 3)).ownsRow w.heap.size 3 1 (.slice (some ⟨w.heap.size, 0, none⟩) 0 0) 0 []) := World.ownsRow_made w #[] 0 (Nat.le_refl _) (Nat.zero_le _) rfl
    go_enter Tryd.func18, Tryd.ntmps18
    go_wp2_with fail
    refine (specSplit s 46 hs _).mono ?_
    rintro e w1 ⟨v1, ss, rfl, hp, hn, hown, hb⟩
    have HO := Lib.hid (own_below O0.out hb)
    have HB := Lib.hid (B0.out.trans (hb.mono B0.out.size))
    have HS := Lib.hid (hown.base (B := w.heap.size) B0.out.size)
    clear B0 O0
    have HP := Lib.hid hp
    clear hb hown hp
    have HSZ : Hid (∀ k (h : k < ss.length), ss[k].size ≤ 1048576) := fun k h => by
      have h1 := piece_at HP.out k h
      have h2 := piece_small 46 s.data.toList _ (List.mem_of_getElem? h1)
      rw [Array.length_toList, Array.length_toList] at h2
      exact Nat.le_trans h2 hs
    obtain ⟨a1, cap1, rfl⟩ := row_slice HS.out
    go_wp2_with fail
    go_loopw [4, 6] (fun out i wr => ∃ k : Nat, k ≤ ss.length ∧ i = .int .i64 k ∧ PathLoop s w ss (.slice a1 ss.length cap1) k out wr) (fun _ i _ => ss.length - (intOf i).toNat)
    case atStart => exact ⟨0, by omega, rfl, ⟨[], rfl, fun j n p h => by simp at h, HO.out, HS.out, HB.out⟩⟩
    case round =>
      obtain ⟨k, hk, rfl, ns, hnl, hok, hown, hws, hb⟩ := hrel
      have HOK := Lib.hid hok; clear hok
      have HO1 := Lib.hid hown; clear hown
      have HW1 := Lib.hid hws; clear hws
      have HB1 := Lib.hid hb; clear hb
      by_cases hlt : k < ss.length
      · obtain ⟨b, off, rfl, hbl, hcell⟩ := strs_cell (Strs.of_own HW1.out) k hlt
        have HPK := Lib.hid (piece_at HP.out k hlt)
        go_wp2_with fail
        refine (specParseNumber ss[k] (HSZ.out k hlt) _).mono ?_
        rintro e w2 ⟨n, ok, rfl, hR, hb2⟩
        have HR := Lib.hid hR; clear hR
        have HB2 := Lib.hid (HB1.out.trans (hb2.mono HB1.out.size))
        have HO2 := Lib.hid (own_below HO1.out hb2)
        have HW2 := Lib.hid (own_below HW1.out hb2)
        clear hb2 HO1 HB1 HW1 hcell
        have BAD : Hid (stepBad ss[k].data.toList → PathReads s.data.toList [] false) := fun hbad => Or.inr (Or.inr ⟨HE.out, rfl, rfl, _, List.mem_of_getElem? HPK.out, hbad⟩)
        cases ok with
        | false =>
          go_wp2_with fail
          go_ret2
          exact ⟨_, [], false, rfl, BAD.out (step_bad HR.out (Or.inl rfl)), by simp, World.ownsRow_made _ #[] 0 HB2.out.size (Nat.zero_le _) rfl, HB2.out.alloc HB2.out.size _⟩
        | true =>
          by_cases hbig : 2 < n
          · have HF := Lib.hid (BAD.out (step_bad HR.out (Or.inr hbig)))
            go_wp2_with fail
            go_ret2
            exact ⟨_, [], false, rfl, HF.out, by simp, World.ownsRow_made _ #[] 0 HB2.out.size (Nat.zero_le _) rfl, HB2.out.alloc HB2.out.size _⟩
          · have HN := Lib.hid (next_ok HOK.out hnl HPK.out (step_ok HR.out (by omega)))
            go_wp2_with (at_builtin; go_must (refine wpList_append_own _ rfl (.tmp 36) (.tmp 38) 28 rfl w.heap.size 3 i0 (.int .i64 0) 1 8 Tryd.underlying28 HI.out HZ0.out HZ1.out HZ2.out rfl (by decide) _ _ _ rfl (HO2.out.alloc _) ⟨w2.heap.size, 0, none⟩ 1 1 [.int .i64 n] rfl rfl (one_int _ _ _) (by simp [Value.oneCell']) (by unfold maxLen; omega) (by omega) (by have := HB2.out.size; simp; omega) ?_); intro v2 w3 hown2 hg2 _; refine Hid.out ?_)
            refine Lib.hid ?_
            have hb3 : Below w.heap.size w w3 := (HB2.out.alloc HB2.out.size _).grown hg2 (by have := HB2.out.size; simp; omega) (fun k hk => (HO2.out.lt k hk).1)
            have hw3 := (HW2.out.alloc _).kept hg2 (own_apart HW2.out HO2.out (by decide))
            have hown3 : w3.ownsRow w.heap.size 3 1 v2 (k + 1) ((ns ++ [n]).map (Value.int IntKind.i64)) := by
              rw [List.map_append]; exact hown2
            have HO3 := Lib.hid hown3
            have HW3 := Lib.hid hw3
            have HB3 := Lib.hid hb3
            clear hown2 hg2 hb3 hw3 hown3
            go_wp2_with fail
            exact ⟨⟨k + 1, by omega, by go_num, ns ++ [n], by simp [hnl], HN.out, HO3.out, HW3.out, HB3.out⟩, by simp [intOf]; omega⟩
      · obtain rfl : k = ss.length := by omega
        have HFIN : Hid (PathReads s.data.toList ns true) := Or.inr (Or.inl ⟨HE.out, rfl, by rw [hnl]; exact piece_len HP.out, HOK.out⟩)
        go_wp2_with fail
        go_ret2
        refine ⟨_, ns, true, rfl, HFIN.out, by omega, ?_, HB1.out⟩
        rw [hnl]; exact HO1.out
end Go.Proofs.YtpoafjbndipfeaaDoor
