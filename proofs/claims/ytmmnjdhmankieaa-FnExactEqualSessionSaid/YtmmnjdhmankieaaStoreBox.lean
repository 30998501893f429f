/-
  Proved: a store of a struct's cells into a box lays them one after another; the world behind it is named without writing the cells out.
-/
import Derived.Test.YtmmnjdhmankieaaRecBase
namespace Go.Proofs.Ytmmnjdhmankieaa
open Go.RowKit

theorem run_store_all {P : Program} {p : Nat} : ∀ (us old pre rest : List Value) (w : World), BoxAt w p (pre ++ (old ++ rest)).toArray → FreeAt w p → us.length = old.length → (∀ u ∈ us, u.oneCell' = true) →
    (storeCells ⟨p, 0, none⟩ us pre.length).run P w = .ok () (allStored p pre.length us w)
  | [], [], _, _, w, _, _, _, _ => rfl
  | [], _ :: _, _, _, _, _, _, h, _ => by simp at h
  | _ :: _, [], _, _, _, _, _, h, _ => by simp at h
  | u :: r, o :: s, pre, rest, w, h, hf, hl, h1 => by
    have hc : w.cell? ⟨p, pre.length, none⟩ = some o := by rw [h.2 pre.length]; simp
    have hz : w.frozen? ⟨p, pre.length, none⟩ = false := hf.2 pre.length
    have e : (store ((⟨p, 0, none⟩ : Addr).add pre.length) u).run P w = .ok () (w.setCell ⟨p, pre.length, none⟩ u) := by
      rw [show (⟨p, 0, none⟩ : Addr).add pre.length = ⟨p, pre.length, none⟩ by rw [addr_add, Nat.zero_add]]
      rw [run_store P w _ u .plain (h1 u (by simp)), hc, hz]
      rfl
    have h2 := h.put (j := pre.length) (u := u) (by simp)
    have e1 : (pre ++ (o :: s ++ rest)).toArray.setIfInBounds pre.length u = ((pre ++ [u]) ++ (s ++ rest)).toArray := by simp
    rw [e1] at h2
    have h3 := run_store_all (P := P) r s (pre ++ [u]) rest (w.setCell ⟨p, pre.length, none⟩ u) h2 hf.put (by simpa using hl) (fun x hx => h1 x (by simp [hx]))
    rw [List.length_append] at h3
    unfold storeCells
    rw [Sem.run_bind, e]
    exact h3
/-- A store of a whole struct into a box of the call's own. -/
theorem wpList_store_box {P : Program} {w : World} {ops : Array Oper} {rest : List Oper} {o : Oper} {a : Act} {Q : Exit → Act → World → Prop} (hgd : o.guard = none) (t : TypeId) (x v : Operand) (ho : o.op = .store t x v)
    (p : Nat) (us old : List Value) (hx : a.eval x = .pointer (some ⟨p, 0, none⟩)) (hv : a.eval v = .agg us.toArray) (hfl : (Value.agg us.toArray).cells = us.toArray) (hsz : (sizeOf t).run P w = .ok us.length w)
    (h1 : ∀ u ∈ us, u.oneCell' = true) (hb : BoxAt w p old.toArray) (hf : FreeAt w p) (hl : us.length = old.length) (h : wpList P ops Q rest (a.put o.dst undef) (allStored p 0 us w)) : wpList P ops Q (o :: rest) a w :=
  wpList_plain hgd fun K hK => by
    have hr := run_store_all (P := P) us old [] [] w (by simpa using hb) hf hl h1
    have hs : (Instr.storeAt t (.pointer (some ⟨p, 0, none⟩)) (.agg us.toArray)).run P w = .ok () (allStored p 0 us w) := by
      unfold Instr.storeAt Instr.sureAddr storeVar
      simp only [Sem.run_bind, Sem.run_pure, Result.andThen_ok, hfl, hsz]
      simpa using hr
    unfold Oper.wp execOp
    simp only [ho, Sem.run_bind, Sem.run_pure, Result.andThen_ok, hx, hv, hs]
    exact hK _ _ h
end Go.Proofs.Ytmmnjdhmankieaa
