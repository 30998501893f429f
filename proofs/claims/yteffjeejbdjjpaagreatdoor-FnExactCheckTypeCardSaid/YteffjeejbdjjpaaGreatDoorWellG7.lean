/-
  Proved: the pinned table of the pairs of kinds that agree holds what the program's text says.
-/
import Derived.WalkKit
import Derived.ProofKit
import Derived.OpenShut
import Derived.Carry
import Derived.Lib.Hide
import Derived.Lib.LaidTab
import Derived.LaidMore
import Derived.Stop.LaidErr
import Derived.Deep.DeepHandedRow
import Derived.Deep.DeepWitnessRowRef
import Derived.Lib.AppendIntMem
import Derived.WalkSmall
import Derived.Test.YteffjeejbdjjpaaGreatDoorProg
import Derived.WalkSpells
import Derived.WalkLawsBesides
import Derived.BigQuiet
import Derived.Deep.QuietTactic
import Derived.OpenVars
import Derived.Test.YteffjeejbdjjpaaGreatDoorRows
/-
  Proved: a law that returns true and leaves all memory that was there before as it was meets its row's end: 'true; each argument reads as it did'. On these terms: the arguments' types can be read, and the row names no variable to be read again.
-/
namespace Go.Proofs.YteffjeejbdjjpaaGreatDoor.Law
open Go.ChangeShapes Go.WideShapes Go.ChangeAt Go.RowKit
variable {H : Type} {enc : TypeId × Value → H} {P : Program} {W W' : World}

/-- All arguments read as they did, where below the old heap nothing has changed. -/
theorem trodAll_below (hl : laidOutB P = true) (hb : Below W.heap.size W W') :
    ∀ {ts : List TypeId} {vs : List Value} {ds : List (DataW H)} {ps : List MemPlace}, (ts.all fun t => P.readableRec t && decide (t < P.types.size)) = true →
      DataW.TrodAll enc P W 0 (fun _ => true) true ts vs ds ps → (∀ x ∈ ps, x.block < W.heap.size) →
      DataW.TrodAll enc P W' 0 (fun b => decide (b < W.heap.size)) true ts vs ds ps
  | [], [], [], _, _, h, _ => h
  | [], [], _ :: _, _, _, h, _ => h.elim
  | [], _ :: _, _, _, _, h, _ => h.elim
  | _ :: _, [], _, _, _, h, _ => h.elim
  | _ :: _, _ :: _, [], _, _, h, _ => h.elim
  | t :: ts, v :: vs, d :: ds, ps, hr, h, hlt => by
    obtain ⟨p, q, h1, h2, rfl⟩ := h
    simp only [List.all_cons, Bool.and_eq_true, decide_eq_true_eq] at hr
    exact ⟨p, q, Below.trod hl hr.1.1 hr.1.2 h1 hb (fun x hx => hlt x (List.mem_append.2 (Or.inl hx))),
      trodAll_below hl hb (by simpa using hr.2) h2 (fun x hx => hlt x (List.mem_append.2 (Or.inr hx))), rfl⟩

/-- THE END OF EVERY LAW: it has returned true, and below the old heap nothing has changed. -/
theorem law_post {f : Func} {s : ChangeSpec} {args : Array Value} {ds gs : List (DataW H)} {before : List MemPlace} {tb : TypeId}
    (hW : DataW.Whole enc P f.params.toList s.vars false W args.toList ds gs before) (hv : s.vars = [])
    (hres : f.resultTypes = #[tb]) (ub : P.underlying tb = some .bool) (hl : laidOutB P = true)
    (hr : (f.params.toList.all fun t => P.readableRec t && decide (t < P.types.size)) = true)
    (hfn : gs = [] → s.fn H (ds ++ gs) = { results := [.lit (.bool true)], args := ds })
    (hb : Below W.heap.size W W') : s.post enc P f false true false false W args (.bool true) W' := by
  have hlt := hW.lt
  have hW' := hW
  obtain ⟨p, q, hA, hV, rfl, hfz, hnd⟩ := hW
  rw [hv] at hV
  obtain ⟨rfl, rfl⟩ := trodVars_none hV
  have e := hfn rfl
  refine ⟨ds, [], _, [], p, [], hW', ?_, ?_, ?_, hb.frame _, fun h => by cases h⟩
  · rw [hres, e]
    exact trodAll_mk1 (shut_bool ub true)
  · rw [e]
    exact trodAll_below hl hb hr hA (fun x hx => hlt x (by simp [hx]))
  · rw [e, hv]; rfl
/-- A variable that a world holds lies below the heap's end: so it reads as it did. -/
theorem var_below {n : String} {cs : Array Value} (h : Below W.heap.size W W') (hv : W.var? P n = some cs) : W'.var? P n = some cs := by
  unfold World.var? at hv ⊢
  cases hg : P.globalNamed n with
  | none => rw [hg] at hv; cases hv
  | some g =>
    rw [hg] at hv
    simp only [Option.bind_some] at hv ⊢
    have hlt : g < W.heap.size := by
      cases hh : W.heap[g]? with
      | none => rw [hh] at hv; cases hv
      | some o => exact (Array.getElem?_eq_some_iff.1 hh).1
    rw [h.block g hlt]; exact hv
theorem tab_below {n : String} {k : IntKind} {zs : List Int} (h : Below W.heap.size W W') (hv : Lib.TabIs P W n k zs) : Lib.TabIs P W' n k zs := var_below h hv
end Go.Proofs.YteffjeejbdjjpaaGreatDoor.Law
/-
  Proved: spec.l1In says whether a number lies between two others; the world stays as it was.
-/
namespace Go.Proofs.YteffjeejbdjjpaaGreatDoor
open Go.RowKit

set_option maxRecDepth 100000 in
theorem specIn (a b c : Int) (w : World) : Calls Tryz.prog 95 #[.int .i64 a, .int .i64 b, .int .i64 c] w fun e w' => e = .returned (.bool (decide (b ≤ a) && decide (a ≤ c))) ∧ w' = w := by
  by_cases h1 : b ≤ a
  · by_cases h2 : a ≤ c
    · go_enter Tryz.func95, Tryz.ntmps95
      go_wp2_with fail
      go_ret
      exact ⟨by simp [h1, h2], rfl⟩
    · go_enter Tryz.func95, Tryz.ntmps95
      go_wp2_with fail
      go_ret
      exact ⟨by simp [h2], rfl⟩
  · go_enter Tryz.func95, Tryz.ntmps95
    go_wp2_with fail
    go_ret
    exact ⟨by simp; intro; omega, rfl⟩
end Go.Proofs.YteffjeejbdjjpaaGreatDoor
/-
  Proved: impl.ArityOf and spec.ArityOf give the number of Args of a kind; the memory that was there stays as it was.
-/
namespace Go.Proofs.YteffjeejbdjjpaaGreatDoor
open Go.RowKit

/-- The numbers of Args, by kind. -/
abbrev arTab : List Int := [0, 0, 0, 1, 2, 0, 2, 2, 0, 3, 2, 1, 1, 1, 1]
def arity (n : Int) : Int := if 1 ≤ n ∧ n ≤ 14 then arTab.getD n.toNat 0 else -1
theorem arity_out {n : Int} (h : ¬ (1 ≤ n ∧ n ≤ 14)) : arity n = -1 := if_neg h
set_option maxRecDepth 100000 in
set_option maxHeartbeats 2000000 in
theorem implArity (n : Int) (w : World) (htab : Lib.TabIs Tryz.prog w "loop.example/g00585/impl.arities" .i64 arTab) :
    Calls Tryz.prog 113 #[.int .i64 n] w fun e w' => e = .returned (.int .i64 (arity n)) ∧ Below w.heap.size w w' := by
  have hg : Tryz.prog.globalNamed "loop.example/g00585/impl.arities" = some 1 := by kernel_rfl
  by_cases q : 1 ≤ n ∧ n ≤ 14
  · rcases (by omega : n = 1 ∨ n = 2 ∨ n = 3 ∨ n = 4 ∨ n = 5 ∨ n = 6 ∨ n = 7 ∨ n = 8 ∨ n = 9 ∨ n = 10 ∨ n = 11 ∨ n = 12 ∨ n = 13 ∨ n = 14) with rfl | rfl | rfl | rfl | rfl | rfl | rfl | rfl | rfl | rfl | rfl | rfl | rfl | rfl
    · have c := htab.cell hg 1 (by decide)
      go_enter Tryz.func113, Tryz.ntmps113
      go_wp2_with fail
      go_ret
      exact ⟨rfl, Below.refl _ _⟩
    · have c := htab.cell hg 2 (by decide)
      go_enter Tryz.func113, Tryz.ntmps113
      go_wp2_with fail
      go_ret
      exact ⟨rfl, Below.refl _ _⟩
    · have c := htab.cell hg 3 (by decide)
      go_enter Tryz.func113, Tryz.ntmps113
      go_wp2_with fail
      go_ret
      exact ⟨rfl, Below.refl _ _⟩
    · have c := htab.cell hg 4 (by decide)
      go_enter Tryz.func113, Tryz.ntmps113
      go_wp2_with fail
      go_ret
      exact ⟨rfl, Below.refl _ _⟩
    · have c := htab.cell hg 5 (by decide)
      go_enter Tryz.func113, Tryz.ntmps113
      go_wp2_with fail
      go_ret
      exact ⟨rfl, Below.refl _ _⟩
    · have c := htab.cell hg 6 (by decide)
      go_enter Tryz.func113, Tryz.ntmps113
      go_wp2_with fail
      go_ret
      exact ⟨rfl, Below.refl _ _⟩
    · have c := htab.cell hg 7 (by decide)
      go_enter Tryz.func113, Tryz.ntmps113
      go_wp2_with fail
      go_ret
      exact ⟨rfl, Below.refl _ _⟩
    · have c := htab.cell hg 8 (by decide)
      go_enter Tryz.func113, Tryz.ntmps113
      go_wp2_with fail
      go_ret
      exact ⟨rfl, Below.refl _ _⟩
    · have c := htab.cell hg 9 (by decide)
      go_enter Tryz.func113, Tryz.ntmps113
      go_wp2_with fail
      go_ret
      exact ⟨rfl, Below.refl _ _⟩
    · have c := htab.cell hg 10 (by decide)
      go_enter Tryz.func113, Tryz.ntmps113
      go_wp2_with fail
      go_ret
      exact ⟨rfl, Below.refl _ _⟩
    · have c := htab.cell hg 11 (by decide)
      go_enter Tryz.func113, Tryz.ntmps113
      go_wp2_with fail
      go_ret
      exact ⟨rfl, Below.refl _ _⟩
    · have c := htab.cell hg 12 (by decide)
      go_enter Tryz.func113, Tryz.ntmps113
      go_wp2_with fail
      go_ret
      exact ⟨rfl, Below.refl _ _⟩
    · have c := htab.cell hg 13 (by decide)
      go_enter Tryz.func113, Tryz.ntmps113
      go_wp2_with fail
      go_ret
      exact ⟨rfl, Below.refl _ _⟩
    · have c := htab.cell hg 14 (by decide)
      go_enter Tryz.func113, Tryz.ntmps113
      go_wp2_with fail
      go_ret
      exact ⟨rfl, Below.refl _ _⟩
  · by_cases q1 : n < 1
    · go_enter Tryz.func113, Tryz.ntmps113
      go_wp2_with fail
      go_ret
      exact ⟨by rw [arity_out q]; rfl, Below.refl _ _⟩
    · have q2 : 14 < n := by omega
      go_enter Tryz.func113, Tryz.ntmps113
      go_wp2_with fail
      go_ret
      exact ⟨by rw [arity_out q]; rfl, Below.refl _ _⟩
set_option maxRecDepth 100000 in
set_option maxHeartbeats 2000000 in
theorem specArity (n : Int) (w : World) :
    Calls Tryz.prog 100 #[.int .i64 n] w fun e w' => e = .returned (.int .i64 (arity n)) ∧ Below w.heap.size w w' := by
  by_cases q : 1 ≤ n ∧ n ≤ 14
  · rcases (by omega : n = 1 ∨ n = 2 ∨ n = 3 ∨ n = 4 ∨ n = 5 ∨ n = 6 ∨ n = 7 ∨ n = 8 ∨ n = 9 ∨ n = 10 ∨ n = 11 ∨ n = 12 ∨ n = 13 ∨ n = 14) with rfl | rfl | rfl | rfl | rfl | rfl | rfl | rfl | rfl | rfl | rfl | rfl | rfl | rfl
    · go_enter Tryz.func100, Tryz.ntmps100
      go_wp2_with fail
      refine (specIn _ _ _ _).mono ?_
      rintro e w1 ⟨rfl, rfl⟩
      go_wp2_with fail
      go_ret
      exact ⟨rfl, (Below.refl _ _).alloc (Nat.le_refl _) _⟩
    · go_enter Tryz.func100, Tryz.ntmps100
      go_wp2_with fail
      refine (specIn _ _ _ _).mono ?_
      rintro e w1 ⟨rfl, rfl⟩
      go_wp2_with fail
      go_ret
      exact ⟨rfl, (Below.refl _ _).alloc (Nat.le_refl _) _⟩
    · go_enter Tryz.func100, Tryz.ntmps100
      go_wp2_with fail
      refine (specIn _ _ _ _).mono ?_
      rintro e w1 ⟨rfl, rfl⟩
      go_wp2_with fail
      go_ret
      exact ⟨rfl, (Below.refl _ _).alloc (Nat.le_refl _) _⟩
    · go_enter Tryz.func100, Tryz.ntmps100
      go_wp2_with fail
      refine (specIn _ _ _ _).mono ?_
      rintro e w1 ⟨rfl, rfl⟩
      go_wp2_with fail
      go_ret
      exact ⟨rfl, (Below.refl _ _).alloc (Nat.le_refl _) _⟩
    · go_enter Tryz.func100, Tryz.ntmps100
      go_wp2_with fail
      refine (specIn _ _ _ _).mono ?_
      rintro e w1 ⟨rfl, rfl⟩
      go_wp2_with fail
      go_ret
      exact ⟨rfl, (Below.refl _ _).alloc (Nat.le_refl _) _⟩
    · go_enter Tryz.func100, Tryz.ntmps100
      go_wp2_with fail
      refine (specIn _ _ _ _).mono ?_
      rintro e w1 ⟨rfl, rfl⟩
      go_wp2_with fail
      go_ret
      exact ⟨rfl, (Below.refl _ _).alloc (Nat.le_refl _) _⟩
    · go_enter Tryz.func100, Tryz.ntmps100
      go_wp2_with fail
      refine (specIn _ _ _ _).mono ?_
      rintro e w1 ⟨rfl, rfl⟩
      go_wp2_with fail
      go_ret
      exact ⟨rfl, (Below.refl _ _).alloc (Nat.le_refl _) _⟩
    · go_enter Tryz.func100, Tryz.ntmps100
      go_wp2_with fail
      refine (specIn _ _ _ _).mono ?_
      rintro e w1 ⟨rfl, rfl⟩
      go_wp2_with fail
      go_ret
      exact ⟨rfl, (Below.refl _ _).alloc (Nat.le_refl _) _⟩
    · go_enter Tryz.func100, Tryz.ntmps100
      go_wp2_with fail
      refine (specIn _ _ _ _).mono ?_
      rintro e w1 ⟨rfl, rfl⟩
      go_wp2_with fail
      go_ret
      exact ⟨rfl, (Below.refl _ _).alloc (Nat.le_refl _) _⟩
    · go_enter Tryz.func100, Tryz.ntmps100
      go_wp2_with fail
      refine (specIn _ _ _ _).mono ?_
      rintro e w1 ⟨rfl, rfl⟩
      go_wp2_with fail
      go_ret
      exact ⟨rfl, (Below.refl _ _).alloc (Nat.le_refl _) _⟩
    · go_enter Tryz.func100, Tryz.ntmps100
      go_wp2_with fail
      refine (specIn _ _ _ _).mono ?_
      rintro e w1 ⟨rfl, rfl⟩
      go_wp2_with fail
      go_ret
      exact ⟨rfl, (Below.refl _ _).alloc (Nat.le_refl _) _⟩
    · go_enter Tryz.func100, Tryz.ntmps100
      go_wp2_with fail
      refine (specIn _ _ _ _).mono ?_
      rintro e w1 ⟨rfl, rfl⟩
      go_wp2_with fail
      go_ret
      exact ⟨rfl, (Below.refl _ _).alloc (Nat.le_refl _) _⟩
    · go_enter Tryz.func100, Tryz.ntmps100
      go_wp2_with fail
      refine (specIn _ _ _ _).mono ?_
      rintro e w1 ⟨rfl, rfl⟩
      go_wp2_with fail
      go_ret
      exact ⟨rfl, (Below.refl _ _).alloc (Nat.le_refl _) _⟩
    · go_enter Tryz.func100, Tryz.ntmps100
      go_wp2_with fail
      refine (specIn _ _ _ _).mono ?_
      rintro e w1 ⟨rfl, rfl⟩
      go_wp2_with fail
      go_ret
      exact ⟨rfl, (Below.refl _ _).alloc (Nat.le_refl _) _⟩
  · have q3 : (decide (1 ≤ n) && decide (n ≤ 14)) = false := by
      by_cases a : 1 ≤ n
      · have b : ¬ n ≤ 14 := fun b => q ⟨a, b⟩
        simp [b]
      · simp [a]
    go_enter Tryz.func100, Tryz.ntmps100
    go_wp2_with fail
    refine (specIn _ _ _ _).mono ?_
    rintro e w1 ⟨rfl, rfl⟩
    go_wp2_with fail
    go_ret
    exact ⟨by rw [arity_out q]; rfl, Below.refl _ _⟩
end Go.Proofs.YteffjeejbdjjpaaGreatDoor
/-
  Proved: a law that returns true and leaves all memory that was there before as it was meets its row's end, also where the row names variables to be read again.
-/
namespace Go.Proofs.YteffjeejbdjjpaaGreatDoor.Law
open Go.ChangeShapes Go.WideShapes Go.ChangeAt Go.RowKit
variable {H : Type} {enc : TypeId × Value → H} {P : Program} {W W' : World}

theorem law_post_vars {f : Func} {s : ChangeSpec} {args : Array Value} {ds gs : List (DataW H)} {before : List MemPlace} {tb : TypeId}
    (hW : DataW.Whole enc P f.params.toList s.vars false W args.toList ds gs before) (hv : varsRowed P s.vars = true)
    (hres : f.resultTypes = #[tb]) (ub : P.underlying tb = some .bool) (hl : laidOutB P = true)
    (hr : (f.params.toList.all fun t => P.readableRec t && decide (t < P.types.size)) = true)
    (hfn : s.fn H (ds ++ gs) = { results := [.lit (.bool true)], args := ds, vars := gs })
    (hb : Below W.heap.size W W') : s.post enc P f false true false false W args (.bool true) W' := by
  have hlt := hW.lt
  have hW' := hW
  obtain ⟨p, q, hA, hV, rfl, hfz, hnd⟩ := hW
  refine ⟨ds, gs, _, [], p, q, hW', ?_, ?_, ?_, hb.frame _, fun h => by cases h⟩
  · rw [hres, hfn]
    exact trodAll_mk1 (shut_bool ub true)
  · rw [hfn]
    exact trodAll_below hl hb hr hA (fun x hx => hlt x (by simp [hx]))
  · rw [hfn]
    exact Below.trodVars hl hb hv hV
end Go.Proofs.YteffjeejbdjjpaaGreatDoor.Law
namespace Go.Proofs.YteffjeejbdjjpaaGreatDoor
open Go.RowKit Go.ChangeShapes Go.WideShapes Go.ChangeAt

def meetCells : Array Value := #[.int .i64 1, .int .i64 1, .int .i64 0, .int .i64 1, .int .i64 2, .int .i64 1, .int .i64 1, .int .i64 3, .int .i64 1, .int .i64 1, .int .i64 4, .int .i64 1, .int .i64 1, .int .i64 5, .int .i64 1, .int .i64 2, .int .i64 1, .int .i64 0, .int .i64 3, .int .i64 1, .int .i64 0, .int .i64 4, .int .i64 1, .int .i64 0, .int .i64 5, .int .i64 1, .int .i64 0, .int .i64 2, .int .i64 2, .int .i64 0, .int .i64 3, .int .i64 3, .int .i64 0, .int .i64 4, .int .i64 4, .int .i64 2, .int .i64 5, .int .i64 5, .int .i64 2]
theorem arr_cells {H : Type} {enc : TypeId × Value → H} {P : Program} {w : World} {base : Nat} {sp : Nat → Bool} {held : Bool} {fuel : Nat} {t e : TypeId} {n c : Nat} {cs : List Value} {ds : List (DataW H)} {p : List MemPlace}
    (ht : P.underlying t = some (.array n e)) (hce : P.cellsOf e = c) (h : DataW.trod enc P w base sp held fuel t cs = some (.agg ds, p)) :
    cs.length = P.cellsOf t ∧ ∀ i : Nat, i < n → ∃ m d q, DataW.trod enc P w base sp held m e ((cs.drop (i * c)).take c) = some (d, q) ∧ ds[i]? = some d := by
  cases fuel with
  | zero => simp [DataW.trod] at h
  | succ fuel =>
    simp only [DataW.trod, ht, hce] at h
    split at h
    · rename_i hl
      refine ⟨hl, fun i hi => ?_⟩
      obtain ⟨xs, hm, hx⟩ := Option.map_eq_some_iff.1 h
      obtain ⟨b, hb, hf⟩ := Lib.mapM_at hm i i (by simp [hi])
      have hxs : xs.map (·.1) = ds := by have := congrArg Prod.fst hx; simpa using this
      exact ⟨fuel, b.1, b.2, hf, by rw [← hxs]; simp [hb]⟩
    · cases h
theorem und_meets : Tryz.prog.underlying 140 = some (.array 13 139) := by kernel_rfl
theorem und_meeting : Tryz.prog.underlying 139 = some (.struct #[⟨"kinds", 137, 0, false, "", "loop.example/g00585/impl", 0⟩, ⟨"keeps", 3, 2, false, "", "loop.example/g00585/impl", 16⟩]) := by kernel_rfl
theorem und_two : Tryz.prog.underlying 137 = some (.array 2 3) := by kernel_rfl
theorem cells_meeting : Tryz.prog.cellsOf 139 = 3 := by kernel_rfl
theorem cells_meets : Tryz.prog.cellsOf 140 = 39 := by kernel_rfl
theorem cells_two : Tryz.prog.cellsOf 137 = 2 := by kernel_rfl
theorem cells_mint : Tryz.prog.cellsOf 3 = 1 := by kernel_rfl
theorem int_cell {H : Type} {enc : TypeId × Value → H} {w : World} {base : Nat} {sp : Nat → Bool} {held : Bool} {n : Nat} {l : List Value} {y : DataW H × List MemPlace} {z : Int}
    (h : DataW.trod enc Tryz.prog w base sp held n 3 (l.take 1) = some y) (hy : y.1 = .lit (.int .i64 z)) : l[0]? = some (.int .i64 z) := by
  obtain ⟨b, hb, rfl, _⟩ := DataW.trod_int Tryz.underlying3 h
  simp at hy; subst hy
  have := congrArg (·[0]?) hb
  simpa [List.getElem?_take] using this
theorem twoList_of {α : Type} {xs : List α} (h : xs.length = 2) : ∃ a b, xs = [a, b] := by
  match xs, h with
  | [a, b], _ => exact ⟨a, b, rfl⟩
set_option maxRecDepth 100000 in
theorem meet_row {H : Type} {enc : TypeId × Value → H} {w : World} {base : Nat} {sp : Nat → Bool} {held : Bool} {fuel : Nat} {cs : List Value} {ds : List (DataW H)} {p : List MemPlace}
    (h : DataW.trod enc Tryz.prog w base sp held fuel 140 cs = some (.agg ds, p)) (i : Nat) (hi : i < 13) (a b c : Int)
    (hd : ds[i]? = some (.agg [.agg [.lit (.int .i64 a), .lit (.int .i64 b)], .lit (.int .i64 c)])) :
    cs[i * 3]? = some (.int .i64 a) ∧ cs[i * 3 + 1]? = some (.int .i64 b) ∧ cs[i * 3 + 2]? = some (.int .i64 c) := by
  obtain ⟨m, d, q, hm, hdd⟩ := (arr_cells und_meets cells_meeting h).2 i hi
  rw [hd] at hdd
  obtain rfl := Option.some.inj hdd
  obtain ⟨xs, n1, _, hx, hl, hlen, hf⟩ := DataW.trod_struct und_meeting hm
  obtain ⟨x0, x1, rfl⟩ := twoList_of (show xs.length = 2 from hlen)
  have hmap := congrArg Prod.fst hx
  simp only [List.map_cons, List.map_nil, DataW.agg.injEq, List.cons.injEq, and_true] at hmap
  obtain ⟨m0, m1⟩ := hmap
  have g0 : DataW.trod enc Tryz.prog w base sp held n1 137 ((((cs.drop (i * 3)).take 3).drop 0).take (Tryz.prog.cellsOf 137)) = some x0 := hf 0 ⟨"kinds", 137, 0, false, "", "loop.example/g00585/impl", 0⟩ rfl
  have g1 : DataW.trod enc Tryz.prog w base sp held n1 3 ((((cs.drop (i * 3)).take 3).drop 2).take (Tryz.prog.cellsOf 3)) = some x1 := hf 1 ⟨"keeps", 3, 2, false, "", "loop.example/g00585/impl", 16⟩ rfl
  rw [cells_two] at g0
  rw [cells_mint] at g1
  have r2 := int_cell g1 m1.symm
  obtain ⟨x0a, x0b⟩ := x0
  simp only at m0
  subst m0
  have hq := (arr_cells und_two cells_mint g0).2
  obtain ⟨m2, d2, q2, h2, e2⟩ := hq 0 (by decide)
  obtain ⟨m3, d3, q3, h3, e3⟩ := hq 1 (by decide)
  simp at e2 e3
  subst e2
  subst e3
  have r0 := int_cell h2 rfl
  have r1 := int_cell h3 rfl
  refine ⟨?_, ?_, ?_⟩
  · simpa [List.getElem?_take, List.getElem?_drop] using r0
  · simpa [List.getElem?_take, List.getElem?_drop] using r1
  · simpa [List.getElem?_take, List.getElem?_drop] using r2
/-- The table as the program reads it. -/
def MeetTab (w : World) : Prop := 2 < w.heap.size ∧ ∃ t fr, w.heap[2]? = some (.cells meetCells t fr)
theorem MeetTab.below {w w' : World} (h : MeetTab w) (hb : Below w.heap.size w w') : MeetTab w' :=
  ⟨Nat.lt_of_lt_of_le h.1 hb.size, by obtain ⟨t, fr, h2⟩ := h.2; exact ⟨t, fr, (hb.block _ h.1).trans h2⟩⟩
set_option maxRecDepth 100000 in
theorem meetTab_of {W : World} (h : laidMet Tryz.prog [("loop.example/g00585/impl.meetings", Rows.laid_loop_example_g00585_impl_meetings)] W) : MeetTab W := by
  have hg : Tryz.prog.globalNamed "loop.example/g00585/impl.meetings" = some 2 := by kernel_rfl
  have hty : (Tryz.prog.globals[2]?).map (·.type) = some 140 := by kernel_rfl
  obtain ⟨ps, ⟨g', t', cs, fuel, p, q, hg', ht', hvar, hd, _, _⟩, _⟩ := h
  obtain rfl := Option.some.inj (hg.symm.trans hg')
  obtain rfl := Option.some.inj (hty.symm.trans ht')
  have hlen : cs.toList.length = 39 := by have := (arr_cells und_meets cells_meeting hd).1; rw [cells_meets] at this; exact this
  obtain ⟨r0, r1, r2⟩ := meet_row hd 0 (by decide) 1 1 0 rfl
  obtain ⟨r3, r4, r5⟩ := meet_row hd 1 (by decide) 1 2 1 rfl
  obtain ⟨r6, r7, r8⟩ := meet_row hd 2 (by decide) 1 3 1 rfl
  obtain ⟨r9, r10, r11⟩ := meet_row hd 3 (by decide) 1 4 1 rfl
  obtain ⟨r12, r13, r14⟩ := meet_row hd 4 (by decide) 1 5 1 rfl
  obtain ⟨r15, r16, r17⟩ := meet_row hd 5 (by decide) 2 1 0 rfl
  obtain ⟨r18, r19, r20⟩ := meet_row hd 6 (by decide) 3 1 0 rfl
  obtain ⟨r21, r22, r23⟩ := meet_row hd 7 (by decide) 4 1 0 rfl
  obtain ⟨r24, r25, r26⟩ := meet_row hd 8 (by decide) 5 1 0 rfl
  obtain ⟨r27, r28, r29⟩ := meet_row hd 9 (by decide) 2 2 0 rfl
  obtain ⟨r30, r31, r32⟩ := meet_row hd 10 (by decide) 3 3 0 rfl
  obtain ⟨r33, r34, r35⟩ := meet_row hd 11 (by decide) 4 4 2 rfl
  obtain ⟨r36, r37, r38⟩ := meet_row hd 12 (by decide) 5 5 2 rfl
  have hcs : cs = meetCells := by
    apply Array.ext'
    apply List.ext_getElem?
    intro i
    by_cases hi : i < 39
    · match i, hi with
      | 0, _ => exact r0
      | 1, _ => exact r1
      | 2, _ => exact r2
      | 3, _ => exact r3
      | 4, _ => exact r4
      | 5, _ => exact r5
      | 6, _ => exact r6
      | 7, _ => exact r7
      | 8, _ => exact r8
      | 9, _ => exact r9
      | 10, _ => exact r10
      | 11, _ => exact r11
      | 12, _ => exact r12
      | 13, _ => exact r13
      | 14, _ => exact r14
      | 15, _ => exact r15
      | 16, _ => exact r16
      | 17, _ => exact r17
      | 18, _ => exact r18
      | 19, _ => exact r19
      | 20, _ => exact r20
      | 21, _ => exact r21
      | 22, _ => exact r22
      | 23, _ => exact r23
      | 24, _ => exact r24
      | 25, _ => exact r25
      | 26, _ => exact r26
      | 27, _ => exact r27
      | 28, _ => exact r28
      | 29, _ => exact r29
      | 30, _ => exact r30
      | 31, _ => exact r31
      | 32, _ => exact r32
      | 33, _ => exact r33
      | 34, _ => exact r34
      | 35, _ => exact r35
      | 36, _ => exact r36
      | 37, _ => exact r37
      | 38, _ => exact r38
      | _ + 39, h => exact absurd h (by omega)
    · rw [List.getElem?_eq_none (by omega), List.getElem?_eq_none (by show 39 ≤ i; omega)]
  subst hcs
  have hh : ∃ t fr, W.heap[2]? = some (.cells meetCells t fr) := by
    simp only [World.var?, hg, Option.bind_some] at hvar
    split at hvar
    · rename_i c t fr hb
      cases hvar
      exact ⟨t, fr, hb⟩
    · cases hvar
  refine ⟨?_, hh⟩
  obtain ⟨t, fr, h2⟩ := hh
  exact (Array.getElem?_eq_some_iff.1 h2).1
end Go.Proofs.YteffjeejbdjjpaaGreatDoor
