/-
  Proved: how a core expression lies in memory, and plain facts on such trees.
-/
import Derived.Test.YtefoenkmppeidaaOwnTree
namespace Go.Proofs.Ytefoenkmppeidaa
open Go.RowKit

/-- A core expression: its fields; the environment as its names and its values. -/
inductive Co where
  | node (kind : Int) (name : ByteArray) (n : Int) (fr ty : Ty) (args : List Co) (ns : List ByteArray) (vs : List Co)
def txs : List ByteArray → Nat
  | [] => 0
  | a :: r => a.size + txs r
mutual
/-- What a core expression holds below its root. -/
def Co.bulk : Co → Nat
  | .node _ nm _ fr ty es ns vs => nm.size + (fr.size - 1) + (ty.size - 1) + Co.bulks es + (txs ns + Co.bulks vs)
def Co.bulks : List Co → Nat
  | [] => 0
  | e :: r => 1 + e.bulk + Co.bulks r
end
theorem txs_take (es : List ByteArray) : ∀ k (h : k < es.length), txs (es.take (k + 1)) = txs (es.take k) + es[k].size := by
  induction es with
  | nil => intro k h; simp at h
  | cons s r ih =>
    intro k h
    cases k with
    | zero => simp [txs]
    | succ k =>
      simp only [List.take_succ_cons, txs, List.getElem_cons_succ]
      rw [ih k (by simpa using h)]; omega
theorem txs_le (es : List ByteArray) (k : Nat) : txs (es.take k) ≤ txs es := by
  induction es generalizing k with
  | nil => simp
  | cons s r ih =>
    cases k with
    | zero => simp [txs]
    | succ k => simp only [List.take_succ_cons, txs]; have := ih k; omega
theorem txs_get (es : List ByteArray) (k : Nat) (h : k < es.length) : es[k].size ≤ txs es := by
  have h1 := txs_take es k h
  have h2 := txs_le es (k + 1)
  omega
theorem Co.bulks_take (es : List Co) : ∀ k (h : k < es.length), Co.bulks (es.take (k + 1)) = Co.bulks (es.take k) + (1 + es[k].bulk) := by
  induction es with
  | nil => intro k h; simp at h
  | cons s r ih =>
    intro k h
    cases k with
    | zero => simp [Co.bulks]
    | succ k =>
      simp only [List.take_succ_cons, Co.bulks, List.getElem_cons_succ]
      rw [ih k (by simpa using h)]; omega
theorem Co.bulks_le (es : List Co) (k : Nat) : Co.bulks (es.take k) ≤ Co.bulks es := by
  induction es generalizing k with
  | nil => simp
  | cons s r ih =>
    cases k with
    | zero => simp [Co.bulks]
    | succ k => simp only [List.take_succ_cons, Co.bulks]; have := ih k; omega
theorem Co.bulk_get (es : List Co) (k : Nat) (h : k < es.length) : 1 + es[k].bulk ≤ Co.bulks es := by
  have h1 := Co.bulks_take es k h
  have h2 := Co.bulks_le es (k + 1)
  omega
theorem Co.length_le (es : List Co) : es.length ≤ Co.bulks es := by
  induction es with
  | nil => simp
  | cons s r ih => simp only [List.length_cons, Co.bulks]; omega

def RowCo (R : Value → Co → Prop) (w : World) (v : Value) (es : List Co) : Prop :=
  ∃ a cap, v = .slice a es.length cap ∧ es.length ≤ cap ∧ cap ≤ 9223372036854775807 ∧
    ∀ j (h : j < es.length), ∃ b off c0 c1 c2 c3 c4 c5 c6 c7 c8, a = some ⟨b, off, none⟩ ∧ b < w.heap.size ∧ w.cell? ⟨b, off + j * 9, none⟩ = some c0 ∧ w.cell? ⟨b, off + j * 9 + 1, none⟩ = some c1 ∧ w.cell? ⟨b, off + j * 9 + 2, none⟩ = some c2 ∧ w.cell? ⟨b, off + j * 9 + 3, none⟩ = some c3 ∧ w.cell? ⟨b, off + j * 9 + 4, none⟩ = some c4 ∧ w.cell? ⟨b, off + j * 9 + 5, none⟩ = some c5 ∧ w.cell? ⟨b, off + j * 9 + 6, none⟩ = some c6 ∧ w.cell? ⟨b, off + j * 9 + 7, none⟩ = some c7 ∧ w.cell? ⟨b, off + j * 9 + 8, none⟩ = some c8 ∧ R (.agg #[c0, c1, c2, c3, c4, c5, c6, c7, c8]) es[j]
def RowCb (R : Value → Co → Prop) (w : World) (v : Value) (ns : List ByteArray) (vs : List Co) : Prop :=
  ns.length = vs.length ∧ ∃ a cap, v = .slice a vs.length cap ∧ vs.length ≤ cap ∧ cap ≤ 9223372036854775807 ∧
    ∀ j (h : j < vs.length) (h2 : j < ns.length), ∃ b off c0 c1 c2 c3 c4 c5 c6 c7 c8, a = some ⟨b, off, none⟩ ∧ b < w.heap.size ∧ ns[j].size ≤ 9223372036854775807 ∧ w.cell? ⟨b, off + j * 10, none⟩ = some (.string ns[j]) ∧ w.cell? ⟨b, off + j * 10 + 1, none⟩ = some c0 ∧ w.cell? ⟨b, off + j * 10 + 2, none⟩ = some c1 ∧ w.cell? ⟨b, off + j * 10 + 3, none⟩ = some c2 ∧ w.cell? ⟨b, off + j * 10 + 4, none⟩ = some c3 ∧ w.cell? ⟨b, off + j * 10 + 5, none⟩ = some c4 ∧ w.cell? ⟨b, off + j * 10 + 6, none⟩ = some c5 ∧ w.cell? ⟨b, off + j * 10 + 7, none⟩ = some c6 ∧ w.cell? ⟨b, off + j * 10 + 8, none⟩ = some c7 ∧ w.cell? ⟨b, off + j * 10 + 9, none⟩ = some c8 ∧ R (.agg #[c0, c1, c2, c3, c4, c5, c6, c7, c8]) vs[j]
/-- In the world w the value v reads as the core expression e, at most d deep. -/
def CoAt (w : World) : Nat → Value → Co → Prop
  | 0, _, _ => False
  | d + 1, v, .node k nm n fr ty es ns vs => ∃ c3 c4 c5 c6 sl el, v = .agg #[.int .i64 k, .string nm, .int .i64 n, c3, c4, c5, c6, sl, el] ∧ -9223372036854775808 ≤ k ∧ k ≤ 9223372036854775807 ∧ -9223372036854775808 ≤ n ∧ n ≤ 9223372036854775807 ∧ nm.size ≤ 9223372036854775807 ∧
      TyAt w d (.agg #[c3, c4]) fr ∧ TyAt w d (.agg #[c5, c6]) ty ∧ RowCo (CoAt w d) w sl es ∧ RowCb (CoAt w d) w el ns vs
def CosAt (w : World) (d : Nat) (v : Value) (es : List Co) : Prop := RowCo (CoAt w d) w v es
def CbsAt (w : World) (d : Nat) (v : Value) (ns : List ByteArray) (vs : List Co) : Prop := RowCb (CoAt w d) w v ns vs
theorem RowCo.imp {R S : Value → Co → Prop} {w w' : World} {v : Value} {es : List Co} (hb : Below w.heap.size w w') (hRS : ∀ v e, R v e → S v e) (h : RowCo R w v es) : RowCo S w' v es := by
  obtain ⟨a, cap, hv, hc, hm, h⟩ := h
  refine ⟨a, cap, hv, hc, hm, fun j hj => ?_⟩
  obtain ⟨b, off, c0, c1, c2, c3, c4, c5, c6, c7, c8, ha, hlt, h0, h1, h2, h3, h4, h5, h6, h7, h8, hr⟩ := h j hj
  have hk : ∀ o, w'.cell? ⟨b, o, none⟩ = w.cell? ⟨b, o, none⟩ := fun o => hb.cell (p := ⟨b, o, none⟩) hlt
  exact ⟨b, off, c0, c1, c2, c3, c4, c5, c6, c7, c8, ha, Nat.lt_of_lt_of_le hlt hb.size, (hk _).trans h0, (hk _).trans h1, (hk _).trans h2, (hk _).trans h3, (hk _).trans h4, (hk _).trans h5, (hk _).trans h6, (hk _).trans h7, (hk _).trans h8, hRS _ _ hr⟩
theorem RowCb.imp {R S : Value → Co → Prop} {w w' : World} {v : Value} {ns : List ByteArray} {es : List Co} (hb : Below w.heap.size w w') (hRS : ∀ v e, R v e → S v e) (h : RowCb R w v ns es) : RowCb S w' v ns es := by
  obtain ⟨hl, a, cap, hv, hc, hm, h⟩ := h
  refine ⟨hl, a, cap, hv, hc, hm, fun j hj hj2 => ?_⟩
  obtain ⟨b, off, c0, c1, c2, c3, c4, c5, c6, c7, c8, ha, hlt, hnz, hn, h0, h1, h2, h3, h4, h5, h6, h7, h8, hr⟩ := h j hj hj2
  have hk : ∀ o, w'.cell? ⟨b, o, none⟩ = w.cell? ⟨b, o, none⟩ := fun o => hb.cell (p := ⟨b, o, none⟩) hlt
  exact ⟨b, off, c0, c1, c2, c3, c4, c5, c6, c7, c8, ha, Nat.lt_of_lt_of_le hlt hb.size, hnz, (hk _).trans hn, (hk _).trans h0, (hk _).trans h1, (hk _).trans h2, (hk _).trans h3, (hk _).trans h4, (hk _).trans h5, (hk _).trans h6, (hk _).trans h7, (hk _).trans h8, hRS _ _ hr⟩
theorem CoAt.below {w w' : World} (hb : Below w.heap.size w w') : ∀ {d : Nat} {v : Value} {e : Co}, CoAt w d v e → CoAt w' d v e
  | 0, _, _, h => h.elim
  | d + 1, v, .node k nm n fr ty es ns vs, h => by
    obtain ⟨c3, c4, c5, c6, sl, el, hv, h0, h1, h2, h3, h4, hf, ht, h, he⟩ := h
    exact ⟨c3, c4, c5, c6, sl, el, hv, h0, h1, h2, h3, h4, hf.below hb, ht.below hb, h.imp hb fun v e h => CoAt.below hb h, he.imp hb fun v e h => CoAt.below hb h⟩
theorem CosAt.below {w w' : World} {d : Nat} {v : Value} {es : List Co} (h : CosAt w d v es) (hb : Below w.heap.size w w') : CosAt w' d v es :=
  RowCo.imp hb (fun _ _ h => h.below hb) h
theorem CbsAt.below {w w' : World} {d : Nat} {v : Value} {ns : List ByteArray} {es : List Co} (h : CbsAt w d v ns es) (hb : Below w.heap.size w w') : CbsAt w' d v ns es :=
  RowCb.imp hb (fun _ _ h => h.below hb) h
/-- A binding of an environment. -/
def CbAt (w : World) (d : Nat) (v : Value) (nm : ByteArray) (e : Co) : Prop := nm.size ≤ 9223372036854775807 ∧ ∃ c0 c1 c2 c3 c4 c5 c6 c7 c8, v = .agg #[.string nm, c0, c1, c2, c3, c4, c5, c6, c7, c8] ∧ CoAt w d (.agg #[c0, c1, c2, c3, c4, c5, c6, c7, c8]) e
/-- Trees whose rows lie each in a block of its own; the blocks' list goes along. -/
def RowCoOwn (R : Value → Co → List Nat → Prop) (w : World) (v : Value) (es : List Co) (fp : List Nat) : Prop :=
  ∃ a cap hd fps, v = .slice a es.length cap ∧ es.length ≤ cap ∧ cap ≤ 9223372036854775807 ∧ fps.length = es.length ∧ fp = hd ++ List.flatten fps ∧ (∀ b, b ∈ hd → b < w.heap.size) ∧
    ∀ j (h : j < es.length), ∃ g off c0 c1 c2 c3 c4 c5 c6 c7 c8 f, a = some ⟨g, off, none⟩ ∧ hd = [g] ∧ g < w.heap.size ∧ w.cell? ⟨g, off + j * 9, none⟩ = some c0 ∧ w.cell? ⟨g, off + j * 9 + 1, none⟩ = some c1 ∧ w.cell? ⟨g, off + j * 9 + 2, none⟩ = some c2 ∧ w.cell? ⟨g, off + j * 9 + 3, none⟩ = some c3 ∧ w.cell? ⟨g, off + j * 9 + 4, none⟩ = some c4 ∧ w.cell? ⟨g, off + j * 9 + 5, none⟩ = some c5 ∧ w.cell? ⟨g, off + j * 9 + 6, none⟩ = some c6 ∧ w.cell? ⟨g, off + j * 9 + 7, none⟩ = some c7 ∧ w.cell? ⟨g, off + j * 9 + 8, none⟩ = some c8 ∧ (∀ o, w.frozen? ⟨g, o, none⟩ = false) ∧ fps[j]? = some f ∧ R (.agg #[c0, c1, c2, c3, c4, c5, c6, c7, c8]) es[j] f
def RowCbOwn (R : Value → Co → List Nat → Prop) (w : World) (v : Value) (ns : List ByteArray) (es : List Co) (fp : List Nat) : Prop :=
  ns.length = es.length ∧ ∃ a cap hd fps, v = .slice a es.length cap ∧ es.length ≤ cap ∧ cap ≤ 9223372036854775807 ∧ fps.length = es.length ∧ fp = hd ++ List.flatten fps ∧ (∀ b, b ∈ hd → b < w.heap.size) ∧
    ∀ j (h : j < es.length) (h2 : j < ns.length), ∃ g off c0 c1 c2 c3 c4 c5 c6 c7 c8 f, a = some ⟨g, off, none⟩ ∧ hd = [g] ∧ g < w.heap.size ∧ ns[j].size ≤ 9223372036854775807 ∧ w.cell? ⟨g, off + j * 10, none⟩ = some (.string ns[j]) ∧ w.cell? ⟨g, off + j * 10 + 1, none⟩ = some c0 ∧ w.cell? ⟨g, off + j * 10 + 2, none⟩ = some c1 ∧ w.cell? ⟨g, off + j * 10 + 3, none⟩ = some c2 ∧ w.cell? ⟨g, off + j * 10 + 4, none⟩ = some c3 ∧ w.cell? ⟨g, off + j * 10 + 5, none⟩ = some c4 ∧ w.cell? ⟨g, off + j * 10 + 6, none⟩ = some c5 ∧ w.cell? ⟨g, off + j * 10 + 7, none⟩ = some c6 ∧ w.cell? ⟨g, off + j * 10 + 8, none⟩ = some c7 ∧ w.cell? ⟨g, off + j * 10 + 9, none⟩ = some c8 ∧ (∀ o, w.frozen? ⟨g, o, none⟩ = false) ∧ fps[j]? = some f ∧ R (.agg #[c0, c1, c2, c3, c4, c5, c6, c7, c8]) es[j] f
def CoOwn (w : World) : Nat → Value → Co → List Nat → Prop
  | 0, _, _, _ => False
  | d + 1, v, .node k nm n fr ty es ns vs, fp => ∃ c3 c4 c5 c6 sl el f1 f2 f3 f4, v = .agg #[.int .i64 k, .string nm, .int .i64 n, c3, c4, c5, c6, sl, el] ∧ -9223372036854775808 ≤ k ∧ k ≤ 9223372036854775807 ∧ -9223372036854775808 ≤ n ∧ n ≤ 9223372036854775807 ∧ nm.size ≤ 9223372036854775807 ∧
      fp = f1 ++ (f2 ++ (f3 ++ f4)) ∧ TyOwn w d (.agg #[c3, c4]) fr f1 ∧ TyOwn w d (.agg #[c5, c6]) ty f2 ∧ RowCoOwn (CoOwn w d) w sl es f3 ∧ RowCbOwn (CoOwn w d) w el ns vs f4
def CosOwn (w : World) (d : Nat) (v : Value) (es : List Co) (fp : List Nat) : Prop := RowCoOwn (CoOwn w d) w v es fp
def CbsOwn (w : World) (d : Nat) (v : Value) (ns : List ByteArray) (es : List Co) (fp : List Nat) : Prop := RowCbOwn (CoOwn w d) w v ns es fp
def CbOwn (w : World) (d : Nat) (v : Value) (nm : ByteArray) (e : Co) (fp : List Nat) : Prop := nm.size ≤ 9223372036854775807 ∧ ∃ c0 c1 c2 c3 c4 c5 c6 c7 c8, v = .agg #[.string nm, c0, c1, c2, c3, c4, c5, c6, c7, c8] ∧ CoOwn w d (.agg #[c0, c1, c2, c3, c4, c5, c6, c7, c8]) e fp
theorem RowCoOwn.imp {R S : Value → Co → List Nat → Prop} {w w' : World} {v : Value} {es : List Co} {fp : List Nat} (hz : w.heap.size ≤ w'.heap.size) (hb : ∀ b, b ∈ fp → w'.heap[b]? = w.heap[b]?)
    (hRS : ∀ v e f, (∀ b, b ∈ f → b ∈ fp) → R v e f → S v e f) (h : RowCoOwn R w v es fp) : RowCoOwn S w' v es fp := by
  obtain ⟨a, cap, hd, fps, hv, hc, hm, hl, hf, hlt, h⟩ := h
  refine ⟨a, cap, hd, fps, hv, hc, hm, hl, hf, fun b hb => Nat.lt_of_lt_of_le (hlt b hb) hz, fun j hj => ?_⟩
  obtain ⟨g, off, c0, c1, c2, c3, c4, c5, c6, c7, c8, f, ha, hh, hg, h0, h1, h2, h3, h4, h5, h6, h7, h8, hfr, hfj, hr⟩ := h j hj
  have hgb : w'.heap[g]? = w.heap[g]? := hb g (by rw [hf, hh]; simp)
  have hk : ∀ o, w'.cell? ⟨g, o, none⟩ = w.cell? ⟨g, o, none⟩ := fun o => World.cell?_of_block (a := ⟨g, o, none⟩) hgb
  refine ⟨g, off, c0, c1, c2, c3, c4, c5, c6, c7, c8, f, ha, hh, by omega, (hk _).trans h0, (hk _).trans h1, (hk _).trans h2, (hk _).trans h3, (hk _).trans h4, (hk _).trans h5, (hk _).trans h6, (hk _).trans h7, (hk _).trans h8, fun o => (World.frozen?_of_block (a := ⟨g, o, none⟩) hgb).trans (hfr o), hfj, hRS _ _ _ (fun b hbf => ?_) hr⟩
  rw [hf]
  exact List.mem_append_right _ (List.mem_flatten.2 ⟨f, List.mem_of_getElem? hfj, hbf⟩)
theorem RowCbOwn.imp {R S : Value → Co → List Nat → Prop} {w w' : World} {v : Value} {ns : List ByteArray} {es : List Co} {fp : List Nat} (hz : w.heap.size ≤ w'.heap.size) (hb : ∀ b, b ∈ fp → w'.heap[b]? = w.heap[b]?)
    (hRS : ∀ v e f, (∀ b, b ∈ f → b ∈ fp) → R v e f → S v e f) (h : RowCbOwn R w v ns es fp) : RowCbOwn S w' v ns es fp := by
  obtain ⟨hln, a, cap, hd, fps, hv, hc, hm, hl, hf, hlt, h⟩ := h
  refine ⟨hln, a, cap, hd, fps, hv, hc, hm, hl, hf, fun b hb => Nat.lt_of_lt_of_le (hlt b hb) hz, fun j hj hj2 => ?_⟩
  obtain ⟨g, off, c0, c1, c2, c3, c4, c5, c6, c7, c8, f, ha, hh, hg, hnz, hn, h0, h1, h2, h3, h4, h5, h6, h7, h8, hfr, hfj, hr⟩ := h j hj hj2
  have hgb : w'.heap[g]? = w.heap[g]? := hb g (by rw [hf, hh]; simp)
  have hk : ∀ o, w'.cell? ⟨g, o, none⟩ = w.cell? ⟨g, o, none⟩ := fun o => World.cell?_of_block (a := ⟨g, o, none⟩) hgb
  refine ⟨g, off, c0, c1, c2, c3, c4, c5, c6, c7, c8, f, ha, hh, by omega, hnz, (hk _).trans hn, (hk _).trans h0, (hk _).trans h1, (hk _).trans h2, (hk _).trans h3, (hk _).trans h4, (hk _).trans h5, (hk _).trans h6, (hk _).trans h7, (hk _).trans h8, fun o => (World.frozen?_of_block (a := ⟨g, o, none⟩) hgb).trans (hfr o), hfj, hRS _ _ _ (fun b hbf => ?_) hr⟩
  rw [hf]
  exact List.mem_append_right _ (List.mem_flatten.2 ⟨f, List.mem_of_getElem? hfj, hbf⟩)
theorem CoOwn.kept {w w' : World} (hz : w.heap.size ≤ w'.heap.size) : ∀ {d : Nat} {v : Value} {e : Co} {fp : List Nat}, (∀ b, b ∈ fp → w'.heap[b]? = w.heap[b]?) → CoOwn w d v e fp → CoOwn w' d v e fp
  | 0, _, _, _, _, h => h.elim
  | d + 1, v, .node k nm n fr ty es ns vs, fp, hb, h => by
    obtain ⟨c3, c4, c5, c6, sl, el, f1, f2, f3, f4, hv, h0, h1, h2, h3, h4, hf, hfr, ht, h, he⟩ := h
    have b1 : ∀ b, b ∈ f1 → b ∈ fp := fun b hb => by rw [hf]; simp [hb]
    have b2 : ∀ b, b ∈ f2 → b ∈ fp := fun b hb => by rw [hf]; simp [hb]
    have b3 : ∀ b, b ∈ f3 → b ∈ fp := fun b hb => by rw [hf]; simp [hb]
    have b4 : ∀ b, b ∈ f4 → b ∈ fp := fun b hb => by rw [hf]; simp [hb]
    exact ⟨c3, c4, c5, c6, sl, el, f1, f2, f3, f4, hv, h0, h1, h2, h3, h4, hf, hfr.kept hz fun b hbf => hb b (b1 b hbf), ht.kept hz fun b hbf => hb b (b2 b hbf),
      h.imp hz (fun b hbf => hb b (b3 b hbf)) fun v e f hsub h => CoOwn.kept hz (fun b hbf => hb b (b3 b (hsub b hbf))) h,
      he.imp hz (fun b hbf => hb b (b4 b hbf)) fun v e f hsub h => CoOwn.kept hz (fun b hbf => hb b (b4 b (hsub b hbf))) h⟩
theorem CosOwn.kept {w w' : World} {d : Nat} {v : Value} {es : List Co} {fp : List Nat} (h : CosOwn w d v es fp) (hz : w.heap.size ≤ w'.heap.size) (hb : ∀ b, b ∈ fp → w'.heap[b]? = w.heap[b]?) : CosOwn w' d v es fp :=
  RowCoOwn.imp hz hb (fun _ _ _ hf h => h.kept hz fun b hbf => hb b (hf b hbf)) h
theorem CbsOwn.kept {w w' : World} {d : Nat} {v : Value} {ns : List ByteArray} {es : List Co} {fp : List Nat} (h : CbsOwn w d v ns es fp) (hz : w.heap.size ≤ w'.heap.size) (hb : ∀ b, b ∈ fp → w'.heap[b]? = w.heap[b]?) : CbsOwn w' d v ns es fp :=
  RowCbOwn.imp hz hb (fun _ _ _ hf h => h.kept hz fun b hbf => hb b (hf b hbf)) h
theorem CoOwn.at_ {w : World} : ∀ {d : Nat} {v : Value} {e : Co} {fp : List Nat}, CoOwn w d v e fp → CoAt w d v e
  | 0, _, _, _, h => h.elim
  | d + 1, v, .node k nm n fr ty es ns vs, fp, h => by
    obtain ⟨c3, c4, c5, c6, sl, el, f1, f2, f3, f4, hv, h0, h1, h2, h3, h4, hf, hfr, ht, ⟨a, cap, hd, fps, hs, hc, hm, hl, hf2, hlt, h⟩, hle, a', cap', hd', fps', hs', hc', hm', hl', hf2', hlt', h'⟩ := h
    refine ⟨c3, c4, c5, c6, sl, el, hv, h0, h1, h2, h3, h4, hfr.at_, ht.at_, ⟨a, cap, hs, hc, hm, fun j hj => ?_⟩, hle, a', cap', hs', hc', hm', fun j hj hj2 => ?_⟩
    · obtain ⟨g, off, c0, c1, c2, c3, c4, c5, c6, c7, c8, f, ha, hh, hg, h0, h1, h2, h3, h4, h5, h6, h7, h8, hfr, hfj, hr⟩ := h j hj
      exact ⟨g, off, c0, c1, c2, c3, c4, c5, c6, c7, c8, ha, hg, h0, h1, h2, h3, h4, h5, h6, h7, h8, hr.at_⟩
    · obtain ⟨g, off, c0, c1, c2, c3, c4, c5, c6, c7, c8, f, ha, hh, hg, hnz, hn, h0, h1, h2, h3, h4, h5, h6, h7, h8, hfr, hfj, hr⟩ := h' j hj hj2
      exact ⟨g, off, c0, c1, c2, c3, c4, c5, c6, c7, c8, ha, hg, hnz, hn, h0, h1, h2, h3, h4, h5, h6, h7, h8, hr.at_⟩
theorem CosOwn.at_ {w : World} {d : Nat} {v : Value} {es : List Co} {fp : List Nat} (h : CosOwn w d v es fp) : CosAt w d v es := by
  obtain ⟨a, cap, hd, fps, hs, hc, hm, hl, hf2, hlt, h⟩ := h
  refine ⟨a, cap, hs, hc, hm, fun j hj => ?_⟩
  obtain ⟨g, off, c0, c1, c2, c3, c4, c5, c6, c7, c8, f, ha, hh, hg, h0, h1, h2, h3, h4, h5, h6, h7, h8, hfr, hfj, hr⟩ := h j hj
  exact ⟨g, off, c0, c1, c2, c3, c4, c5, c6, c7, c8, ha, hg, h0, h1, h2, h3, h4, h5, h6, h7, h8, hr.at_⟩
theorem CbsOwn.at_ {w : World} {d : Nat} {v : Value} {ns : List ByteArray} {es : List Co} {fp : List Nat} (h : CbsOwn w d v ns es fp) : CbsAt w d v ns es := by
  obtain ⟨hle, a, cap, hd, fps, hs, hc, hm, hl, hf2, hlt, h⟩ := h
  refine ⟨hle, a, cap, hs, hc, hm, fun j hj hj2 => ?_⟩
  obtain ⟨g, off, c0, c1, c2, c3, c4, c5, c6, c7, c8, f, ha, hh, hg, hnz, hn, h0, h1, h2, h3, h4, h5, h6, h7, h8, hfr, hfj, hr⟩ := h j hj hj2
  exact ⟨g, off, c0, c1, c2, c3, c4, c5, c6, c7, c8, ha, hg, hnz, hn, h0, h1, h2, h3, h4, h5, h6, h7, h8, hr.at_⟩
theorem co_parts {w : World} {d : Nat} {v : Value} {e : Co} (h : CoAt w d v e) : ∃ k nm n fk fa fn fc tk ta tn tc sa sn sc ea en ec, v = .agg #[.int .i64 k, .string nm, .int .i64 n, .int .i64 fk, .slice fa fn fc, .int .i64 tk, .slice ta tn tc, .slice sa sn sc, .slice ea en ec] := by
  cases d with
  | zero => exact h.elim
  | succ d =>
    cases e with
    | node k nm n fr ty es ns vs =>
      obtain ⟨c3, c4, c5, c6, sl, el, rfl, h0, h1, h2, h3, h4, hfr, ht, ⟨a, cap, rfl, _⟩, _, a2, cap2, rfl, _⟩ := h
      cases d with
      | zero => exact ht.elim
      | succ d =>
        cases ty with
        | node tk ts =>
        cases fr with
        | node fk fs =>
          obtain ⟨s, hs, _, _, ta, tc, rfl, _⟩ := ht
          injection hs with hs
          injection hs with hs
          simp at hs
          obtain ⟨rfl, rfl⟩ := hs
          obtain ⟨s, hs, _, _, fa, fc, rfl, _⟩ := hfr
          injection hs with hs
          injection hs with hs
          simp at hs
          obtain ⟨rfl, rfl⟩ := hs
          exact ⟨_, _, _, _, _, _, _, _, _, _, _, _, _, _, _, _, _, rfl⟩
theorem co_cells {w : World} {d : Nat} {c0 c1 c2 c3 c4 c5 c6 c7 c8 : Value} {e : Co} (h : CoAt w d (.agg #[c0, c1, c2, c3, c4, c5, c6, c7, c8]) e) : ∃ k nm n fk fa fn fc tk ta tn tc sa sn sc ea en ec, c0 = .int .i64 k ∧ c1 = .string nm ∧ c2 = .int .i64 n ∧ c3 = .int .i64 fk ∧ c4 = .slice fa fn fc ∧ c5 = .int .i64 tk ∧ c6 = .slice ta tn tc ∧ c7 = .slice sa sn sc ∧ c8 = .slice ea en ec := by
  obtain ⟨k, nm, n, fk, fa, fn, fc, tk, ta, tn, tc, sa, sn, sc, ea, en, ec, hv⟩ := co_parts h
  injection hv with hv
  injection hv with hv
  simp at hv
  exact ⟨k, nm, n, fk, fa, fn, fc, tk, ta, tn, tc, sa, sn, sc, ea, en, ec, hv.1, hv.2.1, hv.2.2.1, hv.2.2.2.1, hv.2.2.2.2.1, hv.2.2.2.2.2.1, hv.2.2.2.2.2.2.1, hv.2.2.2.2.2.2.2.1, hv.2.2.2.2.2.2.2.2⟩
theorem cb_parts {w : World} {d : Nat} {v : Value} {nm0 : ByteArray} {e : Co} (h : CbAt w d v nm0 e) : ∃ k nm n fk fa fn fc tk ta tn tc sa sn sc ea en ec, v = .agg #[.string nm0, .int .i64 k, .string nm, .int .i64 n, .int .i64 fk, .slice fa fn fc, .int .i64 tk, .slice ta tn tc, .slice sa sn sc, .slice ea en ec] := by
  obtain ⟨_, c0, c1, c2, c3, c4, c5, c6, c7, c8, rfl, h⟩ := h
  obtain ⟨k, nm, n, fk, fa, fn, fc, tk, ta, tn, tc, sa, sn, sc, ea, en, ec, rfl, rfl, rfl, rfl, rfl, rfl, rfl, rfl, rfl⟩ := co_cells h
  exact ⟨_, _, _, _, _, _, _, _, _, _, _, _, _, _, _, _, _, rfl⟩
theorem CbAt.below {w w' : World} {d : Nat} {v : Value} {nm : ByteArray} {e : Co} (h : CbAt w d v nm e) (hb : Below w.heap.size w w') : CbAt w' d v nm e := by
  obtain ⟨h1, c0, c1, c2, c3, c4, c5, c6, c7, c8, h2, h⟩ := h
  exact ⟨h1, c0, c1, c2, c3, c4, c5, c6, c7, c8, h2, h.below hb⟩
theorem CbOwn.at_ {w : World} {d : Nat} {v : Value} {nm : ByteArray} {e : Co} {fp : List Nat} (h : CbOwn w d v nm e fp) : CbAt w d v nm e := by
  obtain ⟨h1, c0, c1, c2, c3, c4, c5, c6, c7, c8, h2, h⟩ := h
  exact ⟨h1, c0, c1, c2, c3, c4, c5, c6, c7, c8, h2, h.at_⟩
end Go.Proofs.Ytefoenkmppeidaa
