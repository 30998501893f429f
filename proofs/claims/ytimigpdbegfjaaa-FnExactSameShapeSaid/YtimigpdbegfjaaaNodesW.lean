/-
  Proved: impl.nodesOf hands the nodes of an expression to the loop's body, each before its parts, for every body that keeps where the parts lie.
-/
import Derived.RangeFuncNested
import Derived.RangeFuncBound
import Derived.RangeFuncCalls
import Derived.RangeFuncLeaves
import Derived.RangeFuncFrom
import Derived.Shelf.Abstract
import Derived.Shelf.RegionOpen
import Derived.OwnWalkIn
import Derived.TacticsInMore
import Derived.LoopNIn
import Derived.LoopIn
import Derived.Test.YtimigpdbegfjaaaExHolesP
import Derived.Test.YtimigpdbegfjaaaTypeArg
namespace Go.Proofs.Ytimigpdbegfjaaa
open Go.RowKit Go.Shelf
attribute [local go_sem] Oper.semAt_some

theorem room_of_noneW {F : Fence} (hd : F.depth = none) (k : Nat) : F.room k := fun d h => by rw [hd] at h; cases h
theorem roundAnyW {F : Fence} (hd : F.depth = none) {m m' : Nat} {P : Program} {l : Nat} {f : FuncId} {tmps : Array Value} {assign body : Code} {w : World} {R : Ending → World → Prop}
    (h : RoundIn F m P l f tmps assign body w R) : RoundIn F m' P l f tmps assign body w R := ⟨h.1, fun c cs _ => h.2 c cs (room_of_noneW hd _)⟩
theorem yieldAnyW {F : Fence} (hd : F.depth = none) {m : Nat} (m' : Nat) {P : Program} {l : Nat} {args : Array Value} {W : World} {R : Ending → World → Prop} (h : YieldAt F m P l args W R) : YieldAt F m' P l args W R := by
  obtain ⟨fn, tmps, assign, body, hy, hR⟩ := h
  exact ⟨fn, tmps, assign, body, hy, roundAnyW hd hR⟩
/-- A node: its block, its place, its kind, its number, and where its parts lie. -/
structure NodeP where
  b : Nat
  off : Nat
  kd : Int
  num : Int
def NodeP.ptr (x : NodeP) : Value := .pointer (some ⟨x.b, x.off, none⟩)
/-- The nodes of the expression whose root lies at this place in w0, each before its parts. -/
def NodesP (w0 : World) : Nat → Nat → Nat → Ex → List NodeP → Prop
  | 0, _, _, _, _ => False
  | d + 1, b, off, .node kd _ nn _ es, ys => ∃ (a : Option Addr) (cap : Nat) (yss : List (List NodeP)), b < w0.heap.size ∧ w0.cell? ⟨b, off + 5, none⟩ = some (.slice a es.length cap) ∧ es.length ≤ cap ∧ cap ≤ 9223372036854775807 ∧
      yss.length = es.length ∧ ys = ⟨b, off, kd, nn⟩ :: yss.flatten ∧ ∀ j (h : j < es.length) (h2 : j < yss.length), ∃ g o, a = some ⟨g, o, none⟩ ∧ NodesP w0 d g (o + j * 6) es[j] yss[j]
/-- Where the parts of these nodes lie has not changed. -/
def RowsK (all : List NodeP) (A B : World) : Prop := ∀ x, x ∈ all → B.cell? ⟨x.b, x.off + 5, none⟩ = A.cell? ⟨x.b, x.off + 5, none⟩
theorem RowsK.refl (all : List NodeP) (A : World) : RowsK all A A := fun _ _ => rfl
theorem RowsK.trans {all : List NodeP} {A B C : World} (h1 : RowsK all A B) (h2 : RowsK all B C) : RowsK all A C := fun x hx => (h2 x hx).trans (h1 x hx)
abbrev NodeIn (all : List NodeP) := { x : NodeP // x ∈ all }
theorem flat_takeZ {α : Type} (yss : List (List α)) (k : Nat) (h : k < yss.length) : (yss.take (k + 1)).flatten = (yss.take k).flatten ++ yss[k] := by
  have e : yss.take (k + 1) = yss.take k ++ [yss[k]] := by rw [List.take_add_one, List.getElem?_eq_getElem h]; rfl
  rw [e, List.flatten_append]
  generalize yss.take k = l
  simp
theorem flat_preZ {α : Type} (yss : List (List α)) (k : Nat) (h : k < yss.length) : (yss.take k).flatten ++ yss[k] <+: yss.flatten := by
  refine ⟨(yss.drop (k + 1)).flatten, ?_⟩
  rw [← flat_takeZ yss k h, ← List.flatten_append, List.take_append_drop]
theorem split_flat {all : List NodeP} : ∀ (yss : List (List NodeP)) (zr : List (NodeIn all)), zr.map Subtype.val = yss.flatten → ∃ zss : List (List (NodeIn all)), zr = zss.flatten ∧ zss.map (List.map Subtype.val) = yss
  | [], zr, h => ⟨[], List.map_eq_nil_iff.1 (by rw [List.flatten_nil] at h; exact h), rfl⟩
  | y :: r, zr, h => by
    rw [List.flatten_cons] at h
    obtain ⟨a, b, rfl, h1, h2⟩ := List.map_eq_append_iff.1 h
    obtain ⟨zss, rfl, h3⟩ := split_flat r b h2
    exact ⟨a :: zss, rfl, by simp [h1, h3]⟩
set_option maxRecDepth 100000 in
set_option maxHeartbeats 2000000 in
theorem yield_inW (F : Fence) (hd : F.depth = none) (hf : F.fn 113) (hro : F.round = none) (w0 : World) (all : List NodeP) (l N : Nat) (J Jx : List (NodeIn all) → World → Prop)
    (hY : ∀ m pre (x : NodeIn all) W, J pre W → pre.length < N → YieldAt F m Try.prog l #[x.1.ptr] W fun e W' =>
      (e = .returned (.bool true) ∧ J (pre ++ [x]) W' ∧ RowsK all W W') ∨ (e = .returned (.bool false) ∧ Jx (pre ++ [x]) W')) :
    ∀ (d : Nat) (t : Ex) (b off : Nat) (ys : List NodeP) (zs : List (NodeIn all)) (n : Nat) (pre : List (NodeIn all)) (W : World), NodesP w0 d b off t ys → zs.map Subtype.val = ys → RowsK all w0 W → J pre W → pre.length + zs.length ≤ N →
      CallsIn F n Try.prog 113 #[.pointer (some ⟨b, off, none⟩), .func (.yield l) #[] #[]] W fun e W' =>
        (e = .returned (.bool true) ∧ J (pre ++ zs) W' ∧ RowsK all W W') ∨ (e = .returned (.bool false) ∧ ∃ q, q <+: zs ∧ Jx (pre ++ q) W')
  | 0, _, _, _, _, _, _, _, _, h, _, _, _, _ => h.elim
  | d + 1, .node kd nm nn ty es, b, off, ys, zs, n, pre, W, h, hzs, hB, hJ, hN => by
    have IH : Hid (∀ (t : Ex) (b off : Nat) (ys : List NodeP) (zs : List (NodeIn all)) (n : Nat) (pre : List (NodeIn all)) (W : World), NodesP w0 d b off t ys → zs.map Subtype.val = ys → RowsK all w0 W → J pre W → pre.length + zs.length ≤ N →
      CallsIn F n Try.prog 113 #[.pointer (some ⟨b, off, none⟩), .func (.yield l) #[] #[]] W fun e W' =>
        (e = .returned (.bool true) ∧ J (pre ++ zs) W' ∧ RowsK all W W') ∨ (e = .returned (.bool false) ∧ ∃ q, q <+: zs ∧ Jx (pre ++ q) W')) := yield_inW F hd hf hro w0 all l N J Jx hY d
    obtain ⟨a, cap, yss, hb, h5, hcap, hcap2, hyl, rfl, hat⟩ := h
    obtain ⟨x, zr, rfl, hx, hzr⟩ : ∃ (x : NodeIn all) (zr : List (NodeIn all)), zs = x :: zr ∧ x.1 = ⟨b, off, kd, nn⟩ ∧ zr.map Subtype.val = yss.flatten := by
      cases zs with
      | nil => simp at hzs
      | cons x zr => simp only [List.map_cons, List.cons.injEq] at hzs; exact ⟨x, zr, rfl, hzs.1, hzs.2⟩
    obtain ⟨zss, rfl, hzss⟩ : ∃ zss : List (List (NodeIn all)), zr = zss.flatten ∧ zss.map (List.map Subtype.val) = yss := split_flat yss zr hzr
    have hzl : zss.length = es.length := by rw [← hyl, ← hzss, List.length_map]
    clear hzs hzr
    have hdd : ∀ k : Nat, (F.depth.isSome = true → 1 ≤ k) := fun k h => by rw [hd] at h; cases h
    have hy2 : YieldAt F (n - 1) Try.prog l #[x.1.ptr] W fun e W' =>
        (e = .returned (.bool true) ∧ J (pre ++ [x]) W' ∧ RowsK all W W' ∧ W'.cell? ⟨b, off + 5, none⟩ = some (.slice a es.length cap)) ∨ (e = .returned (.bool false) ∧ Jx (pre ++ [x]) W') :=
      YieldAt.mono (hY (n - 1) pre x W hJ (by simp at hN; omega)) fun e W2 h => h.elim (fun ⟨he, hj, hb2⟩ => .inl ⟨he, hj, hb2, by
        have := (hB.trans hb2) x.1 x.2
        rw [hx] at this
        exact this.trans h5⟩) .inr
    obtain ⟨fn, tmps, assign, body, hy, hR⟩ := hy2
    have hxp : x.1.ptr = .pointer (some ⟨b, off, none⟩) := by unfold NodeP.ptr; rw [hx]
    rw [hxp] at hy
    have HAT := Lib.hid hat; clear hat
    have HB := Lib.hid hB; clear hB
    have HN := Lib.hid hN; clear hN
    have H5 := Lib.hid h5; clear h5
    have HX := Lib.hid hx
    have HZS := Lib.hid hzss; clear hzss
    clear hx hxp hJ
    refine callsIn_of_wp Try.func113 rfl hf ?_ hro
    simp only [Try.ntmps113, List.size_toArray, List.length_cons, List.length_nil, Nat.reduceAdd, Nat.reduceSub, Array.replicate_succ, Array.replicate_zero, List.push_toArray, List.append_toArray, List.nil_append, List.cons_append]
    gi_wp2_with ((try refine ⟨hdd _, ?_⟩); refine hR.mono ?_; clear hR; rintro e W1 (⟨rfl, hJ1, hb1, c5⟩ | ⟨rfl, hJx1⟩))
    · have HBW := Lib.hid hb1
      have HB1 := Lib.hid (HB.out.trans hb1); clear hb1
      clear c5
      gi_loopw [15] (fun i wr => ∃ k : Nat, k ≤ es.length ∧ i = .int .i64 k ∧ J (pre ++ [x] ++ (zss.take k).flatten) wr ∧ RowsK all W wr) (fun i _ => es.length - (intOf i).toNat)
      case atStart => exact ⟨0, by omega, rfl, by simpa using hJ1, HBW.out⟩
      case round =>
        obtain ⟨k, hk, rfl, hJk, hbk⟩ := hrel
        have HBR := Lib.hid (HB.out.trans hbk)
        have HBK := Lib.hid hbk; clear hbk
        by_cases hlt : k < es.length
        · have hlt2 : k < yss.length := by omega
          have hlt3 : k < zss.length := by omega
          obtain ⟨g, o, rfl, hn⟩ := HAT.out k hlt hlt2
          have c5 : wr.cell? ⟨b, off + 5, none⟩ = some (.slice (some ⟨g, o, none⟩) es.length cap) := by
            have := HBR.out x.1 x.2
            rw [HX.out] at this
            exact this.trans H5.out
          have hzk : (zss[k]).map Subtype.val = yss[k] := by
            have : (zss.map (List.map Subtype.val))[k]? = yss[k]? := by rw [HZS.out]
            rw [List.getElem?_map, List.getElem?_eq_getElem hlt3, List.getElem?_eq_getElem hlt2] at this
            simpa using this
          have hlen : (pre ++ [x] ++ (zss.take k).flatten).length + zss[k].length ≤ N := by
            have h1 := HN.out
            obtain ⟨r, hr⟩ := flat_preZ zss k hlt3
            have h2 := congrArg List.length hr
            simp only [List.length_append, List.length_cons, List.length_nil] at h1 h2 ⊢
            omega
          have hc := Lib.hid (IH.out es[k] g (o + k * 6) yss[k] zss[k] (n - 1) _ wr hn hzk HBR.out hJk hlen)
          have hft := Lib.hid (flat_takeZ zss k hlt3)
          have hfp := Lib.hid (flat_preZ zss k hlt3)
          clear hn hlen hJk hzk
          gi_wp2_with ((try refine ⟨hdd _, ?_⟩); gi_at_call 113; refine hc.out.mono ?_; clear hc; rintro e W3 (⟨rfl, hJ3, hb3⟩ | ⟨rfl, q, hq, hx3⟩))
          · have hJ4 : J (pre ++ [x] ++ (zss.take (k + 1)).flatten) W3 := by rw [hft.out, ← List.append_assoc]; exact hJ3
            go_roundw
            case rel => exact ⟨k + 1, by omega, by go_num, hJ4, HBK.out.trans hb3⟩
            case measure => simp [intOf]; omega
          · gi_wp2
            go_ret
            obtain ⟨r, hr⟩ := hq
            obtain ⟨r2, hr2⟩ := hfp.out
            refine .inr ⟨rfl, x :: ((zss.take k).flatten ++ q), ⟨r ++ r2, ?_⟩, ?_⟩
            · rw [← hr2, ← hr]; simp [List.append_assoc]
            · simpa [List.append_assoc] using hx3
        · obtain rfl : k = es.length := by omega
          gi_wp2
          go_ret
          have e : zss.take es.length = zss := List.take_of_length_le (by omega)
          rw [e] at hJk
          exact .inl ⟨rfl, by simpa [List.append_assoc] using hJk, HBK.out⟩
    · go_ret
      exact .inr ⟨rfl, [x], ⟨zss.flatten, rfl⟩, hJx1⟩
set_option maxRecDepth 100000 in
set_option maxHeartbeats 2000000 in
theorem nodes1_inW (F : Fence) (hd : F.depth = none) (n : Nat) (h5 : F.fn 112) (h6 : F.fn 113) (hro : F.round = none) (w0 : World) (all : List NodeP) (l Bt d b off : Nat) (t : Ex) (zs : List (NodeIn all)) (J Jx : List (NodeIn all) → World → Prop)
    (hY : ∀ pre (x : NodeIn all) W, J pre W → pre.length < zs.length → YieldAt F (n - 1) Try.prog l #[x.1.ptr] W fun e W' =>
      (e = .returned (.bool true) ∧ J (pre ++ [x]) W' ∧ RowsK all W W') ∨ (e = .returned (.bool false) ∧ Jx (pre ++ [x]) W'))
    (W : World) (hBt : W.cell? ⟨Bt, 0, none⟩ = some (.pointer (some ⟨b, off, none⟩))) (hT : NodesP w0 d b off t all) (hz : zs.map Subtype.val = all) (hB : RowsK all w0 W) (h0 : J [] W) :
    CallsIn F n Try.prog 112 #[.func (.yield l) #[] #[], .pointer (some ⟨Bt, 0, none⟩)] W fun e W' => (∃ v, e = .returned v) ∧
      ((∃ xs, xs = zs ∧ J xs W') ∨ (∃ pre, pre <+: zs ∧ Jx pre W')) := by
  have hdd : ∀ k : Nat, (F.depth.isSome = true → 1 ≤ k) := fun k h => by rw [hd] at h; cases h
  have hp := yield_inW F hd h6 hro w0 all l zs.length J Jx (fun m pre x W hj hl => yieldAnyW hd m (hY pre x W hj hl)) d t b off all zs (n - 1) [] W hT hz hB h0 (by simp)
  refine callsIn_of_wp Try.func112 rfl h5 ?_ hro
  simp only [Try.ntmps112, List.size_toArray, List.length_cons, List.length_nil, Nat.reduceAdd, Nat.reduceSub, Array.replicate_succ, Array.replicate_zero, List.push_toArray, List.append_toArray, List.nil_append, List.cons_append]
  gi_wp2_with ((try refine ⟨hdd _, ?_⟩); gi_at_call 113; refine hp.mono ?_; clear hp; rintro e W1 (⟨rfl, hJ1, _⟩ | ⟨rfl, q, hq, hx⟩))
  · go_end0
    exact ⟨⟨_, rfl⟩, .inl ⟨_, rfl, by simpa using hJ1⟩⟩
  · go_end0
    exact ⟨⟨_, rfl⟩, .inr ⟨q, hq, by simpa using hx⟩⟩
set_option maxRecDepth 100000 in
set_option maxHeartbeats 2000000 in
theorem nodes_inW (F : Fence) (n : Nat) (h4 : F.fn 70) (hro : F.round = none) (p0 : Option Addr) (w : World) :
    CallsIn F n Try.prog 70 #[.pointer p0] w fun e w' => e = .returned (.func (.func 112) #[] #[.pointer (some ⟨w.heap.size, 0, none⟩)]) ∧ w' = w.alloc (.cells #[.pointer p0] 86) := by
  refine callsIn_of_wp Try.func70 rfl h4 ?_ hro
  simp only [Try.ntmps70, List.size_toArray, List.length_cons, List.length_nil, Nat.reduceAdd, Nat.reduceSub, Array.replicate_succ, Array.replicate_zero, List.push_toArray, List.append_toArray, List.nil_append, List.cons_append]
  gi_wp2
  go_ret
  exact ⟨rfl, rfl⟩
theorem nodes_stopsW (F : Fence) (hd : F.depth = none) (n : Nat) (h5 : F.fn 112) (h6 : F.fn 113) (hro : F.round = none) (w0 : World) (all : List NodeP) (zs : List (NodeIn all)) (hz : zs.map Subtype.val = all) (Bt d b off : Nat) (t : Ex) (w : World) (hBt : Bt < w.heap.size) (hlt : ∀ x, x ∈ all → x.b < w.heap.size) (hB : RowsK all w0 w)
    (hc : w.cell? ⟨Bt, 0, none⟩ = some (.pointer (some ⟨b, off, none⟩))) (hT : NodesP w0 d b off t all) :
    SeqStopsK F n Try.prog 112 #[.pointer (some ⟨Bt, 0, none⟩)] (fun x : NodeIn all => #[x.1.ptr]) (RowsK all) (fun xs => xs = zs) (fun pre => pre <+: zs) zs.length w := fun l J Jx W hW _ _ hY h0 =>
  nodes1_inW F hd n h5 h6 hro w0 all l Bt d b off t zs J Jx hY W ((hW.cell (p := ⟨Bt, 0, none⟩) hBt).trans hc) hT hz (hB.trans fun x hx => hW.cell (p := ⟨x.b, x.off + 5, none⟩) (hlt x hx)) h0
end Go.Proofs.Ytimigpdbegfjaaa
