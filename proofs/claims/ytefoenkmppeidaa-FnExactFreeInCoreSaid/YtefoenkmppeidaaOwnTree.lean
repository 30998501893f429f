/-
  Proved: plain facts on trees whose rows lie each in a block of its own (the list of those blocks goes along), free to be written.
-/
import Derived.Test.YtefoenkmppeidaaTree
namespace Go.Proofs.Ytefoenkmppeidaa
open Go.RowKit

/-- The slice value v reads as a row of trees, each by R; hd is the row's own block (none where the row is empty), and the rest of fp belongs to the trees, in their order. -/
def RowOwn (R : Value → Ty → List Nat → Prop) (w : World) (v : Value) (ts : List Ty) (fp : List Nat) : Prop :=
  ∃ a cap hd fps, v = .slice a ts.length cap ∧ ts.length ≤ cap ∧ cap ≤ 9223372036854775807 ∧ fps.length = ts.length ∧ fp = hd ++ List.flatten fps ∧ (∀ b, b ∈ hd → b < w.heap.size) ∧
    ∀ j (h : j < ts.length), ∃ g off c0 c1 f, a = some ⟨g, off, none⟩ ∧ hd = [g] ∧ g < w.heap.size ∧ w.cell? ⟨g, off + j * 2, none⟩ = some c0 ∧ w.frozen? ⟨g, off + j * 2, none⟩ = false ∧ w.cell? ⟨g, off + j * 2 + 1, none⟩ = some c1 ∧ fps[j]? = some f ∧ R (.agg #[c0, c1]) ts[j] f
def TyOwn (w : World) : Nat → Value → Ty → List Nat → Prop
  | 0, _, _, _ => False
  | d + 1, v, .node k ts, fp => ∃ sl, v = .agg #[.int .i64 k, sl] ∧ -9223372036854775808 ≤ k ∧ k ≤ 9223372036854775807 ∧ RowOwn (TyOwn w d) w sl ts fp
def TysOwn (w : World) (d : Nat) (v : Value) (ts : List Ty) (fp : List Nat) : Prop := RowOwn (TyOwn w d) w v ts fp

theorem RowOwn.imp {R S : Value → Ty → List Nat → Prop} {w w' : World} {v : Value} {ts : List Ty} {fp : List Nat} (hz : w.heap.size ≤ w'.heap.size) (hb : ∀ b, b ∈ fp → w'.heap[b]? = w.heap[b]?)
    (hRS : ∀ v t f, (∀ b, b ∈ f → b ∈ fp) → R v t f → S v t f) (h : RowOwn R w v ts fp) : RowOwn S w' v ts fp := by
  obtain ⟨a, cap, hd, fps, hv, hc, hm, hl, hf, hlt, h⟩ := h
  refine ⟨a, cap, hd, fps, hv, hc, hm, hl, hf, fun b hb => Nat.lt_of_lt_of_le (hlt b hb) hz, fun j hj => ?_⟩
  obtain ⟨g, off, c0, c1, f, ha, hh, hg, hc0, hf0, hc1, hfj, hr⟩ := h j hj
  have hgb : w'.heap[g]? = w.heap[g]? := hb g (by rw [hf, hh]; simp)
  refine ⟨g, off, c0, c1, f, ha, hh, by omega, by rw [World.cell?_of_block hgb]; exact hc0, by rw [World.frozen?_of_block hgb]; exact hf0, by rw [World.cell?_of_block hgb]; exact hc1, hfj, hRS _ _ _ (fun b hbf => ?_) hr⟩
  rw [hf]
  exact List.mem_append_right _ (List.mem_flatten.2 ⟨f, List.mem_of_getElem? hfj, hbf⟩)
theorem TyOwn.kept {w w' : World} (hz : w.heap.size ≤ w'.heap.size) : ∀ {d : Nat} {v : Value} {t : Ty} {fp : List Nat}, (∀ b, b ∈ fp → w'.heap[b]? = w.heap[b]?) → TyOwn w d v t fp → TyOwn w' d v t fp
  | 0, _, _, _, _, h => h.elim
  | d + 1, v, .node k ts, fp, hb, h => by
    obtain ⟨sl, hv, h0, h1, h⟩ := h
    exact ⟨sl, hv, h0, h1, h.imp hz hb fun v t f hf h => TyOwn.kept hz (fun b hbf => hb b (hf b hbf)) h⟩
theorem TysOwn.kept {w w' : World} {d : Nat} {v : Value} {ts : List Ty} {fp : List Nat} (h : TysOwn w d v ts fp) (hz : w.heap.size ≤ w'.heap.size) (hb : ∀ b, b ∈ fp → w'.heap[b]? = w.heap[b]?) : TysOwn w' d v ts fp :=
  RowOwn.imp hz hb (fun _ _ _ hf h => h.kept hz fun b hbf => hb b (hf b hbf)) h
theorem TyOwn.at_ {w : World} : ∀ {d : Nat} {v : Value} {t : Ty} {fp : List Nat}, TyOwn w d v t fp → TyAt w d v t
  | 0, _, _, _, h => h.elim
  | d + 1, v, .node k ts, fp, h => by
    obtain ⟨sl, hv, h0, h1, a, cap, hd, fps, hs, hc, hm, hl, hf, hlt, h⟩ := h
    refine ⟨sl, hv, h0, h1, a, cap, hs, hc, hm, fun j hj => ?_⟩
    obtain ⟨g, off, c0, c1, f, ha, hh, hg, hc0, hf0, hc1, hfj, hr⟩ := h j hj
    exact ⟨g, off, c0, c1, ha, hg, hc0, hc1, hr.at_⟩
theorem TysOwn.at_ {w : World} {d : Nat} {v : Value} {ts : List Ty} {fp : List Nat} (h : TysOwn w d v ts fp) : TysAt w d v ts := by
  obtain ⟨a, cap, hd, fps, hs, hc, hm, hl, hf, hlt, h⟩ := h
  refine ⟨a, cap, hs, hc, hm, fun j hj => ?_⟩
  obtain ⟨g, off, c0, c1, f, ha, hh, hg, hc0, hf0, hc1, hfj, hr⟩ := h j hj
  exact ⟨g, off, c0, c1, ha, hg, hc0, hc1, hr.at_⟩
theorem TyOwn.lt {w : World} : ∀ {d : Nat} {v : Value} {t : Ty} {fp : List Nat}, TyOwn w d v t fp → ∀ b, b ∈ fp → b < w.heap.size
  | 0, _, _, _, h => h.elim
  | d + 1, v, .node k ts, fp, h => by
    obtain ⟨sl, hv, h0, h1, a, cap, hd, fps, hs, hc, hm, hl, hf, hlt, h⟩ := h
    intro b hb
    rw [hf] at hb
    rcases List.mem_append.1 hb with hb | hb
    · exact hlt b hb
    · obtain ⟨f, hf1, hf2⟩ := List.mem_flatten.1 hb
      obtain ⟨j, hj, rfl⟩ := List.getElem_of_mem hf1
      obtain ⟨g, off, c0, c1, f, _, _, _, _, _, _, hfj, hr⟩ := h j (by omega)
      rw [List.getElem?_eq_getElem hj] at hfj
      cases hfj
      exact hr.lt b hf2
/-- The blocks of fp lie from lo on and below hi, none twice. -/
def Fp (lo hi : Nat) (fp : List Nat) : Prop := fp.Nodup ∧ ∀ b, b ∈ fp → lo ≤ b ∧ b < hi
theorem Fp.mono {lo lo' hi hi' : Nat} {fp : List Nat} (h : Fp lo hi fp) (h1 : lo' ≤ lo) (h2 : hi ≤ hi') : Fp lo' hi' fp :=
  ⟨h.1, fun b hb => ⟨Nat.le_trans h1 (h.2 b hb).1, Nat.lt_of_lt_of_le (h.2 b hb).2 h2⟩⟩
theorem Fp.nil (lo hi : Nat) : Fp lo hi [] := ⟨List.nodup_nil, fun b hb => by cases hb⟩
theorem Fp.join {lo mid hi : Nat} {f g : List Nat} (h1 : Fp lo mid f) (h2 : Fp mid hi g) (h3 : lo ≤ mid) (h4 : mid ≤ hi) : Fp lo hi (f ++ g) := by
  refine ⟨List.nodup_append.2 ⟨h1.1, h2.1, fun a ha b hb e => ?_⟩, fun b hb => ?_⟩
  · have e1 := h1.2 a ha
    have e2 := h2.2 b hb
    omega
  · rcases List.mem_append.1 hb with hb | hb
    · have := h1.2 b hb; omega
    · have := h2.2 b hb; omega
theorem Fp.one {lo hi g : Nat} (h1 : lo ≤ g) (h2 : g < hi) : Fp lo hi [g] :=
  ⟨by simp, fun b hb => by cases List.mem_singleton.1 hb; exact ⟨h1, h2⟩⟩
end Go.Proofs.Ytefoenkmppeidaa
