/-
  Proved: the end that both contracts of MeetType share, as one tree in memory of its own and a Bool.
-/
import Derived.Test.YtimigpdbegfjaaaDoorSpecMeetTop
import Derived.Test.YtimigpdbegfjaaaDoorMade
namespace Go.Proofs.YtimigpdbegfjaaaDoor
open Go.RowKit

def Ty.both (t1 t2 : Ty) : Ty := if t1.okay t2 then t1.meet t2 else .node 0 []
mutual
theorem Ty.meet_size : ∀ (a b : Ty), (a.meet b).size ≤ a.size + b.size
  | .node k cs, .node l bs => by
    have h := Ty.meets_size cs bs
    unfold Ty.meet
    split
    · omega
    · split
      · omega
      · simp only [Ty.size] at h ⊢; omega
theorem Ty.meets_size : ∀ (cs bs : List Ty), Ty.sizes (Ty.meets cs bs) ≤ Ty.sizes cs + Ty.sizes bs
  | [], bs => by simp [Ty.meets, Ty.sizes]
  | _ :: _, [] => by simp [Ty.meets, Ty.sizes]
  | a :: r, b :: s => by
    have h1 := Ty.meet_size a b
    have h2 := Ty.meets_size r s
    simp only [Ty.meets, Ty.sizes]; omega
end
theorem Ty.both_size (a b : Ty) : (a.both b).size ≤ a.size + b.size := by
  unfold Ty.both
  split
  · exact Ty.meet_size a b
  · have := a.size_pos; have := b.size_pos
    simp only [Ty.size, Ty.sizes]; omega
theorem own_zero (w : World) (d : Nat) : TyOwn w (d + 1) (.agg #[.int .i64 0, .slice none 0 0]) (.node 0 []) [] :=
  ⟨_, rfl, by omega, by omega, none, 0, [], [], rfl, Nat.le_refl _, by omega, rfl, rfl, (fun b hb => by cases hb), fun j hj => by simp at hj⟩
theorem meet_end {d : Nat} {t1 t2 : Ty} {w w' : World} {v1 : Value} {w0 : World} {e : Ending} (h1 : TyAt w0 d v1 t1) (h : MeetTop d t1 t2 w e w') :
    ∃ o fp, e = .returned (.tuple #[o, .bool (t1.okay t2)]) ∧ TyOwn w' d o (t1.both t2) fp ∧ Fp w.heap.size w'.heap.size fp ∧ Below w.heap.size w w' := by
  cases d with
  | zero => exact h1.elim
  | succ d =>
    obtain ⟨k, a, n, c, fp, he, hy, hn, hb⟩ := h
    cases hok : t1.okay t2 with
    | true =>
      obtain ⟨ht, hf⟩ := hy hok
      rw [hok] at he
      refine ⟨_, fp, he, ?_, hf, hb⟩
      unfold Ty.both; rw [if_pos hok]; exact ht
    | false =>
      obtain ⟨rfl, rfl, rfl, rfl⟩ := hn hok
      rw [hok] at he
      refine ⟨_, [], he, ?_, Fp.nil _ _, hb⟩
      unfold Ty.both; rw [if_neg (by rw [hok]; exact Bool.false_ne_true)]; exact own_zero _ _
/-- One tree in memory of its own, and a Bool. -/
def MeetL (d : Nat) (t1 t2 : Ty) (w : World) (e : Ending) (w' : World) : Prop :=
  ∃ o fp, e = .returned (.tuple #[o, .bool (t1.okay t2)]) ∧ TyOwn w' d o (t1.both t2) fp ∧ Fp w.heap.size w'.heap.size fp ∧ Below w.heap.size w w'
theorem specMeetL (d : Nat) (v1 v2 : Value) (t1 t2 : Ty) (w : World) (hn1 : t1.size ≤ 1048577) (hn2 : t2.size ≤ 1048577) (h1 : TyAt w d v1 t1) (h2 : TyAt w d v2 t2) :
    Calls Tryd.prog 6 #[v1, v2] w (MeetL d t1 t2 w) :=
  (specMeetType d v1 v2 t1 t2 w h1 h2 hn1 hn2).mono fun _ _ h => meet_end h1 h
theorem implMeetL (d : Nat) (v1 v2 : Value) (t1 t2 : Ty) (w : World) (hn1 : t1.size ≤ 1048577) (hn2 : t2.size ≤ 1048577) (h1 : TyAt w d v1 t1) (h2 : TyAt w d v2 t2) (htab : MeetTab w) :
    Calls Tryd.prog 8 #[v1, v2] w (MeetL d t1 t2 w) :=
  (implMeetType d v1 v2 t1 t2 w h1 h2 hn1 hn2 htab).mono fun _ _ h => meet_end h1 h
end Go.Proofs.YtimigpdbegfjaaaDoor
