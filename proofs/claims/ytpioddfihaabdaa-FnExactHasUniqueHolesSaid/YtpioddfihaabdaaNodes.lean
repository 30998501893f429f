/-
  Proved: impl.nodesOf hands the nodes of an expression to the loop's body, each before its parts, for every body that keeps what lay ahead of the loop.
-/
import Derived.RangeFuncNested
import Derived.RangeFuncBound
import Derived.RangeFuncCalls
import Derived.RangeFuncLeaves
import Derived.RangeFuncFrom
import Derived.Shelf.Abstract
import Derived.Shelf.RegionOpen
import Derived.OwnWalkIn
import Derived.TacticsInMore
import Derived.LoopNIn
import Derived.LoopIn
import Derived.Test.YtpioddfihaabdaaExK
import Derived.Test.YtpioddfihaabdaaExHoles
import Derived.Test.YtpioddfihaabdaaTypeArg
namespace Go.Proofs.Ytpioddfihaabdaa
open Go.RowKit Go.Shelf
attribute [local go_sem] Oper.semAt_some

theorem room_of_none {F : Fence} (hd : F.depth = none) (k : Nat) : F.room k := fun d h => by rw [hd] at h; cases h
theorem roundAny {F : Fence} (hd : F.depth = none) {m m' : Nat} {P : Program} {l : Nat} {f : FuncId} {tmps : Array Value} {assign body : Code} {w : World} {R : Ending → World → Prop}
    (h : RoundIn F m P l f tmps assign body w R) : RoundIn F m' P l f tmps assign body w R := ⟨h.1, fun c cs _ => h.2 c cs (room_of_none hd _)⟩
theorem yieldAny {F : Fence} (hd : F.depth = none) {m : Nat} (m' : Nat) {P : Program} {l : Nat} {args : Array Value} {W : World} {R : Ending → World → Prop} (h : YieldAt F m P l args W R) : YieldAt F m' P l args W R := by
  obtain ⟨fn, tmps, assign, body, hy, hR⟩ := h
  exact ⟨fn, tmps, assign, body, hy, roundAny hd hR⟩
/-- A node of the world w0: its block, its place, its kind, its number. -/
abbrev NodeAt (w0 : World) := { x : Nat × Nat × Int × Int // x.1 < w0.heap.size ∧ w0.cell? ⟨x.1, x.2.1, none⟩ = some (.int .i64 x.2.2.1) ∧ w0.cell? ⟨x.1, x.2.1 + 2, none⟩ = some (.int .i64 x.2.2.2) ∧ -9223372036854775808 ≤ x.2.2.2 ∧ x.2.2.2 ≤ 9223372036854775807 }
def nodePtr {w0 : World} (x : NodeAt w0) : Value := .pointer (some ⟨x.1.1, x.1.2.1, none⟩)
/-- How many of the nodes are of the kind K. -/
def kc {w0 : World} (K : Int) : List (NodeAt w0) → Nat
  | [] => 0
  | x :: r => (if x.1.2.2.1 = K then 1 else 0) + kc K r
theorem kc_append {w0 : World} (K : Int) : ∀ (a b : List (NodeAt w0)), kc K (a ++ b) = kc K a + kc K b
  | [], b => by simp [kc]
  | x :: r, b => by simp only [List.cons_append, kc, kc_append K r b]; omega
/-- The nodes of the expression whose root lies at this place, each before its parts. -/
def NodesAt (w0 : World) : Nat → Nat → Nat → Ex → List (NodeAt w0) → Prop
  | 0, _, _, _, _ => False
  | d + 1, b, off, .node kd _ nn _ es, ys => ∃ (x : NodeAt w0) (a : Option Addr) (cap : Nat) (yss : List (List (NodeAt w0))), x.1 = (b, off, kd, nn) ∧ b < w0.heap.size ∧ w0.cell? ⟨b, off + 5, none⟩ = some (.slice a es.length cap) ∧ es.length ≤ cap ∧ cap ≤ 9223372036854775807 ∧
      yss.length = es.length ∧ ys = x :: yss.flatten ∧ ∀ j (h : j < es.length) (h2 : j < yss.length), ∃ g o, a = some ⟨g, o, none⟩ ∧ NodesAt w0 d g (o + j * 6) es[j] yss[j]
theorem kc_flat {w0 : World} (K : Int) : ∀ (es : List Ex) (yss : List (List (NodeAt w0))), yss.length = es.length → (∀ j (h : j < es.length) (h2 : j < yss.length), kc K yss[j] = es[j].kcount K) → kc K yss.flatten = Ex.kcounts K es
  | [], [], _, _ => rfl
  | [], _ :: _, h, _ => by simp at h
  | _ :: _, [], h, _ => by simp at h
  | e :: r, y :: ys, h, hj => by
    have h0 : kc K y = e.kcount K := hj 0 (by simp) (by simp)
    have h1 := kc_flat K r ys (by simpa using h) (fun j h h2 => hj (j + 1) (by simpa using h) (by simpa using h2))
    simp only [List.flatten_cons, kc_append, Ex.kcounts, h0, h1]
/-- The numbers of the holes and marks among the nodes. -/
def hnum {w0 : World} : List (NodeAt w0) → List Int
  | [] => []
  | x :: r => (if x.1.2.2.1 = 1 ∨ x.1.2.2.1 = 14 then [x.1.2.2.2] else []) ++ hnum r
theorem hnum_append {w0 : World} : ∀ (a b : List (NodeAt w0)), hnum (a ++ b) = hnum a ++ hnum b
  | [], b => by simp [hnum]
  | x :: r, b => by simp only [List.cons_append, hnum, hnum_append r b, List.append_assoc]
theorem hnum_flat {w0 : World} : ∀ (es : List Ex) (yss : List (List (NodeAt w0))), yss.length = es.length → (∀ j (h : j < es.length) (h2 : j < yss.length), hnum yss[j] = es[j].holes) → hnum yss.flatten = Ex.holess es
  | [], [], _, _ => rfl
  | [], _ :: _, h, _ => by simp at h
  | _ :: _, [], h, _ => by simp at h
  | e :: r, y :: ys, h, hj => by
    have h0 : hnum y = e.holes := hj 0 (by simp) (by simp)
    have h1 := hnum_flat r ys (by simpa using h) (fun j h h2 => hj (j + 1) (by simpa using h) (by simpa using h2))
    simp only [List.flatten_cons, hnum_append, Ex.holess, h0, h1]
theorem kc_le {w0 : World} (K : Int) : ∀ ys : List (NodeAt w0), kc K ys ≤ ys.length
  | [] => Nat.le_refl _
  | x :: r => by have := kc_le K r; simp only [kc, List.length_cons]; split <;> omega
theorem len_flat {w0 : World} : ∀ (es : List Ex) (yss : List (List (NodeAt w0))), yss.length = es.length → (∀ j (h : j < es.length) (h2 : j < yss.length), yss[j].length ≤ 1 + es[j].bulk) → yss.flatten.length ≤ Ex.bulks es
  | [], [], _, _ => Nat.le_refl _
  | [], _ :: _, h, _ => by simp at h
  | _ :: _, [], h, _ => by simp at h
  | e :: r, y :: ys, h, hj => by
    have h0 : y.length ≤ 1 + e.bulk := hj 0 (by simp) (by simp)
    have h1 := len_flat r ys (by simpa using h) (fun j h h2 => hj (j + 1) (by simpa using h) (by simpa using h2))
    simp only [List.flatten_cons, List.length_append, Ex.bulks]
    omega
theorem nodes_of (w0 : World) : ∀ (d b off : Nat) (t : Ex) (c0 c1 c2 c3 c4 c5 : Value), b < w0.heap.size → w0.cell? ⟨b, off, none⟩ = some c0 ∧ w0.cell? ⟨b, off + 1, none⟩ = some c1 ∧ w0.cell? ⟨b, off + 2, none⟩ = some c2 ∧ w0.cell? ⟨b, off + 3, none⟩ = some c3 ∧ w0.cell? ⟨b, off + 4, none⟩ = some c4 ∧ w0.cell? ⟨b, off + 5, none⟩ = some c5 → ExAt w0 d (.agg #[c0, c1, c2, c3, c4, c5]) t →
    ∃ ys, NodesAt w0 d b off t ys ∧ ys.length ≤ 1 + t.bulk ∧ hnum ys = t.holes ∧ ∀ K, kc K ys = t.kcount K
  | 0, _, _, _, _, _, _, _, _, _, _, _, h => h.elim
  | d + 1, b, off, .node kd nm n ty es, c0, c1, c2, c3, c4, c5, hb, hc, h => by
    obtain ⟨h0, h1, h2, h3, h4, h5⟩ := hc
    obtain ⟨c3', c4', sl, hv, hk0, hk1, hn0, hn1, hnm, hty, a, cap, rfl, hcap, hcap2, hat⟩ := h
    injection hv with hv
    injection hv with hv
    simp only [List.cons.injEq, and_true] at hv
    obtain ⟨rfl, rfl, rfl, rfl, rfl, rfl⟩ := hv
    have each : ∀ j, j < es.length → ∃ ys : List (NodeAt w0), ∃ (hj : j < es.length), ∃ g o, a = some ⟨g, o, none⟩ ∧ NodesAt w0 d g (o + j * 6) es[j] ys ∧ ys.length ≤ 1 + es[j].bulk ∧ hnum ys = es[j].holes ∧ ∀ K, kc K ys = es[j].kcount K := by
      intro j hj
      obtain ⟨g, o, x0, x1, x2, x3, x4, x5, ha, hg, e0, e1, e2, e3, e4, e5, ht⟩ := hat j hj
      obtain ⟨ys, hy, hyl, hyn, hk⟩ := nodes_of w0 d g (o + j * 6) es[j] x0 x1 x2 x3 x4 x5 hg ⟨e0, e1, e2, e3, e4, e5⟩ ht
      exact ⟨ys, hj, g, o, ha, hy, hyl, hyn, hk⟩
    obtain ⟨yss, hl, hys⟩ := list_choose es.length each
    refine ⟨⟨(b, off, kd, n), hb, h0, h2, hn0, hn1⟩ :: yss.flatten, ⟨⟨(b, off, kd, n), hb, h0, h2, hn0, hn1⟩, a, cap, yss, rfl, hb, h5, hcap, hcap2, hl, rfl, fun j hj hj2 => ?_⟩, ?_, ?_, fun K => ?_⟩
    · obtain ⟨_, g, o, ha, hy, _⟩ := hys j hj2
      exact ⟨g, o, ha, hy⟩
    · have h1 := len_flat es yss hl (fun j h h2 => by obtain ⟨_, _, _, _, _, hyl, _, _⟩ := hys j h2; exact hyl)
      have h2 : (Ex.node kd nm n ty es).bulk = nm.size + (ty.size - 1) + Ex.bulks es := rfl
      rw [List.length_cons, h2]; omega
    · have := hnum_flat es yss hl (fun j h h2 => by obtain ⟨_, _, _, _, _, _, hyn, _⟩ := hys j h2; exact hyn)
      simp only [hnum, Ex.holes, this]
    · have := kc_flat K es yss hl (fun j h h2 => by obtain ⟨_, _, _, _, _, _, _, hk⟩ := hys j h2; exact hk K)
      simp only [kc, Ex.kcount, this]
theorem flat_take {w0 : World} (yss : List (List (NodeAt w0))) (k : Nat) (h : k < yss.length) : (yss.take (k + 1)).flatten = (yss.take k).flatten ++ yss[k] := by
  have e : yss.take (k + 1) = yss.take k ++ [yss[k]] := by rw [List.take_add_one, List.getElem?_eq_getElem h]; rfl
  rw [e, List.flatten_append]
  generalize yss.take k = l
  simp
theorem flat_pre {w0 : World} (yss : List (List (NodeAt w0))) (k : Nat) (h : k < yss.length) : (yss.take k).flatten ++ yss[k] <+: yss.flatten := by
  refine ⟨(yss.drop (k + 1)).flatten, ?_⟩
  rw [← flat_take yss k h, ← List.flatten_append, List.take_append_drop]
set_option maxRecDepth 100000 in
set_option maxHeartbeats 2000000 in
theorem yield_in (F : Fence) (hd : F.depth = none) (hf : F.fn 26) (hro : F.round = none) (w0 : World) (l N : Nat) (J Jx : List (NodeAt w0) → World → Prop)
    (hY : ∀ m pre (x : NodeAt w0) W, J pre W → pre.length < N → YieldAt F m Try.prog l #[nodePtr x] W fun e W' =>
      (e = .returned (.bool true) ∧ J (pre ++ [x]) W' ∧ Below w0.heap.size W W') ∨ (e = .returned (.bool false) ∧ Jx (pre ++ [x]) W')) :
    ∀ (d : Nat) (t : Ex) (b off : Nat) (ys : List (NodeAt w0)) (n : Nat) (pre : List (NodeAt w0)) (W : World), NodesAt w0 d b off t ys → Below w0.heap.size w0 W → J pre W → pre.length + ys.length ≤ N →
      CallsIn F n Try.prog 26 #[.pointer (some ⟨b, off, none⟩), .func (.yield l) #[] #[]] W fun e W' =>
        (e = .returned (.bool true) ∧ J (pre ++ ys) W' ∧ Below w0.heap.size W W') ∨ (e = .returned (.bool false) ∧ ∃ q, q <+: ys ∧ Jx (pre ++ q) W')
  | 0, _, _, _, _, _, _, _, h, _, _, _ => h.elim
  | d + 1, .node kd nm nn ty es, b, off, ys, n, pre, W, h, hB, hJ, hN => by
    have IH : Hid (∀ (t : Ex) (b off : Nat) (ys : List (NodeAt w0)) (n : Nat) (pre : List (NodeAt w0)) (W : World), NodesAt w0 d b off t ys → Below w0.heap.size w0 W → J pre W → pre.length + ys.length ≤ N →
      CallsIn F n Try.prog 26 #[.pointer (some ⟨b, off, none⟩), .func (.yield l) #[] #[]] W fun e W' =>
        (e = .returned (.bool true) ∧ J (pre ++ ys) W' ∧ Below w0.heap.size W W') ∨ (e = .returned (.bool false) ∧ ∃ q, q <+: ys ∧ Jx (pre ++ q) W')) := yield_in F hd hf hro w0 l N J Jx hY d
    obtain ⟨x, a, cap, yss, hx, hb, h5, hcap, hcap2, hyl, rfl, hat⟩ := h
    have hdd : ∀ k : Nat, (F.depth.isSome = true → 1 ≤ k) := fun k h => by rw [hd] at h; cases h
    have hy2 : YieldAt F (n - 1) Try.prog l #[nodePtr x] W fun e W' =>
        (e = .returned (.bool true) ∧ J (pre ++ [x]) W' ∧ Below w0.heap.size W W' ∧ W'.cell? ⟨b, off + 5, none⟩ = some (.slice a es.length cap)) ∨ (e = .returned (.bool false) ∧ Jx (pre ++ [x]) W') :=
      YieldAt.mono (hY (n - 1) pre x W hJ (by simp at hN; omega)) fun e W2 h => h.elim (fun ⟨he, hj, hb2⟩ => .inl ⟨he, hj, hb2, ((hB.trans hb2).cell (p := ⟨b, off + 5, none⟩) hb).trans h5⟩) .inr
    obtain ⟨fn, tmps, assign, body, hy, hR⟩ := hy2
    have hxp : nodePtr x = .pointer (some ⟨b, off, none⟩) := by unfold nodePtr; rw [hx]
    rw [hxp] at hy
    have HAT := Lib.hid hat; clear hat
    have HB := Lib.hid hB; clear hB
    have HN := Lib.hid hN; clear hN
    have H5 := Lib.hid h5; clear h5
    have HX := Lib.hid hx; clear hx hxp hJ
    refine callsIn_of_wp Try.func26 rfl hf ?_ hro
    simp only [Try.ntmps26, List.size_toArray, List.length_cons, List.length_nil, Nat.reduceAdd, Nat.reduceSub, Array.replicate_succ, Array.replicate_zero, List.push_toArray, List.append_toArray, List.nil_append, List.cons_append]
    gi_wp2_with ((try refine ⟨hdd _, ?_⟩); refine hR.mono ?_; clear hR; rintro e W1 (⟨rfl, hJ1, hb1, c5⟩ | ⟨rfl, hJx1⟩))
    · have HB1 := Lib.hid (HB.out.trans hb1)
      have HBW := Lib.hid hb1; clear hb1
      clear c5
      gi_loopw [15] (fun i wr => ∃ k : Nat, k ≤ es.length ∧ i = .int .i64 k ∧ J (pre ++ [x] ++ (yss.take k).flatten) wr ∧ Below w0.heap.size W wr) (fun i _ => es.length - (intOf i).toNat)
      case atStart => exact ⟨0, by omega, rfl, by simpa using hJ1, HBW.out⟩
      case round =>
        obtain ⟨k, hk, rfl, hJk, hbk⟩ := hrel
        have HBR := Lib.hid (HB.out.trans hbk)
        have HBK := Lib.hid hbk; clear hbk
        by_cases hlt : k < es.length
        · have hlt2 : k < yss.length := by omega
          obtain ⟨g, o, rfl, hn⟩ := HAT.out k hlt hlt2
          have c5 : wr.cell? ⟨b, off + 5, none⟩ = some (.slice (some ⟨g, o, none⟩) es.length cap) := (HBR.out.cell (p := ⟨b, off + 5, none⟩) hb).trans H5.out
          have hlen : (pre ++ [x] ++ (yss.take k).flatten).length + yss[k].length ≤ N := by
            have h1 := HN.out
            obtain ⟨r, hr⟩ := flat_pre yss k hlt2
            have h2 := congrArg List.length hr
            simp only [List.length_append, List.length_cons, List.length_nil] at h1 h2 ⊢
            omega
          have hc := Lib.hid (IH.out es[k] g (o + k * 6) yss[k] (n - 1) _ wr hn HBR.out hJk hlen)
          have hft := Lib.hid (flat_take yss k hlt2)
          have hfp := Lib.hid (flat_pre yss k hlt2)
          clear hn hlen hJk
          gi_wp2_with ((try refine ⟨hdd _, ?_⟩); gi_at_call 26; refine hc.out.mono ?_; clear hc; rintro e W3 (⟨rfl, hJ3, hb3⟩ | ⟨rfl, q, hq, hx3⟩))
          · have hJ4 : J (pre ++ [x] ++ (yss.take (k + 1)).flatten) W3 := by rw [hft.out, ← List.append_assoc]; exact hJ3
            go_roundw
            case rel => exact ⟨k + 1, by omega, by go_num, hJ4, HBK.out.trans hb3⟩
            case measure => simp [intOf]; omega
          · gi_wp2
            go_ret
            obtain ⟨r, hr⟩ := hq
            obtain ⟨r2, hr2⟩ := hfp.out
            refine .inr ⟨rfl, x :: ((yss.take k).flatten ++ q), ⟨r ++ r2, ?_⟩, ?_⟩
            · rw [← hr2, ← hr]; simp [List.append_assoc]
            · simpa [List.append_assoc] using hx3
        · obtain rfl : k = es.length := by omega
          gi_wp2
          go_ret
          have e : yss.take es.length = yss := List.take_of_length_le (by omega)
          rw [e] at hJk
          exact .inl ⟨rfl, by simpa [List.append_assoc] using hJk, HBK.out⟩
    · go_ret
      exact .inr ⟨rfl, [x], ⟨yss.flatten, rfl⟩, hJx1⟩
set_option maxRecDepth 100000 in
set_option maxHeartbeats 2000000 in
theorem nodes1_in (F : Fence) (hd : F.depth = none) (n : Nat) (h5 : F.fn 25) (h6 : F.fn 26) (hro : F.round = none) (w0 : World) (l Bt d b off : Nat) (t : Ex) (ys : List (NodeAt w0)) (J Jx : List (NodeAt w0) → World → Prop)
    (hY : ∀ pre (x : NodeAt w0) W, J pre W → pre.length < ys.length → YieldAt F (n - 1) Try.prog l #[nodePtr x] W fun e W' =>
      (e = .returned (.bool true) ∧ J (pre ++ [x]) W' ∧ Below w0.heap.size W W') ∨ (e = .returned (.bool false) ∧ Jx (pre ++ [x]) W'))
    (W : World) (hBt : W.cell? ⟨Bt, 0, none⟩ = some (.pointer (some ⟨b, off, none⟩))) (hT : NodesAt w0 d b off t ys) (hB : Below w0.heap.size w0 W) (h0 : J [] W) :
    CallsIn F n Try.prog 25 #[.func (.yield l) #[] #[], .pointer (some ⟨Bt, 0, none⟩)] W fun e W' => (∃ v, e = .returned v) ∧
      ((∃ zs, zs = ys ∧ J zs W') ∨ (∃ pre, pre <+: ys ∧ Jx pre W')) := by
  have hdd : ∀ k : Nat, (F.depth.isSome = true → 1 ≤ k) := fun k h => by rw [hd] at h; cases h
  have hp := yield_in F hd h6 hro w0 l ys.length J Jx (fun m pre x W hj hl => yieldAny hd m (hY pre x W hj hl)) d t b off ys (n - 1) [] W hT hB h0 (by simp)
  refine callsIn_of_wp Try.func25 rfl h5 ?_ hro
  simp only [Try.ntmps25, List.size_toArray, List.length_cons, List.length_nil, Nat.reduceAdd, Nat.reduceSub, Array.replicate_succ, Array.replicate_zero, List.push_toArray, List.append_toArray, List.nil_append, List.cons_append]
  gi_wp2_with ((try refine ⟨hdd _, ?_⟩); gi_at_call 26; refine hp.mono ?_; clear hp; rintro e W1 (⟨rfl, hJ1, _⟩ | ⟨rfl, q, hq, hx⟩))
  · go_end0
    exact ⟨⟨_, rfl⟩, .inl ⟨_, rfl, by simpa using hJ1⟩⟩
  · go_end0
    exact ⟨⟨_, rfl⟩, .inr ⟨q, hq, by simpa using hx⟩⟩
set_option maxRecDepth 100000 in
set_option maxHeartbeats 2000000 in
theorem nodes_in (F : Fence) (n : Nat) (h4 : F.fn 17) (hro : F.round = none) (p0 : Option Addr) (w : World) :
    CallsIn F n Try.prog 17 #[.pointer p0] w fun e w' => e = .returned (.func (.func 25) #[] #[.pointer (some ⟨w.heap.size, 0, none⟩)]) ∧ w' = w.alloc (.cells #[.pointer p0] 48) := by
  refine callsIn_of_wp Try.func17 rfl h4 ?_ hro
  simp only [Try.ntmps17, List.size_toArray, List.length_cons, List.length_nil, Nat.reduceAdd, Nat.reduceSub, Array.replicate_succ, Array.replicate_zero, List.push_toArray, List.append_toArray, List.nil_append, List.cons_append]
  gi_wp2
  go_ret
  exact ⟨rfl, rfl⟩
theorem nodes_stops (F : Fence) (hd : F.depth = none) (n : Nat) (h5 : F.fn 25) (h6 : F.fn 26) (hro : F.round = none) (w0 : World) (Bt d b off : Nat) (t : Ex) (ys : List (NodeAt w0)) (w : World) (hBt : Bt < w.heap.size) (hn : w0.heap.size ≤ w.heap.size) (hB : Below w0.heap.size w0 w)
    (hc : w.cell? ⟨Bt, 0, none⟩ = some (.pointer (some ⟨b, off, none⟩))) (hT : NodesAt w0 d b off t ys) :
    SeqStopsK F n Try.prog 25 #[.pointer (some ⟨Bt, 0, none⟩)] (fun x : NodeAt w0 => #[nodePtr x]) (Below w0.heap.size) (fun zs => zs = ys) (fun pre => pre <+: ys) ys.length w := fun l J Jx W hW _ _ hY h0 =>
  nodes1_in F hd n h5 h6 hro w0 l Bt d b off t ys J Jx hY W ((hW.cell (p := ⟨Bt, 0, none⟩) hBt).trans hc) hT (hB.trans (hW.mono hn)) h0
end Go.Proofs.Ytpioddfihaabdaa
