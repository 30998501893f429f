/-
  Proved: a record of 22 cells that is stored into a box: the box holds it; its cells read.
-/
import Derived.Test.YtmmnjdhmankieaaStoreBox
namespace Go.Proofs.Ytmmnjdhmankieaa
open Go.RowKit

set_option maxRecDepth 100000 in
theorem box22 {w : World} {p : Nat} {c0 c1 c2 c3 c4 c5 c6 c7 c8 c9 c10 c11 c12 c13 c14 c15 c16 c17 c18 c19 c20 c21 o0 o1 o2 o3 o4 o5 o6 o7 o8 o9 o10 o11 o12 o13 o14 o15 o16 o17 o18 o19 o20 o21 : Value} (X : BoxAt w p #[o0, o1, o2, o3, o4, o5, o6, o7, o8, o9, o10, o11, o12, o13, o14, o15, o16, o17, o18, o19, o20, o21]) : BoxAt (allStored p 0 [c0, c1, c2, c3, c4, c5, c6, c7, c8, c9, c10, c11, c12, c13, c14, c15, c16, c17, c18, c19, c20, c21] w) p #[c0, c1, c2, c3, c4, c5, c6, c7, c8, c9, c10, c11, c12, c13, c14, c15, c16, c17, c18, c19, c20, c21] := by
  have h := BoxAt.storeAll [c0, c1, c2, c3, c4, c5, c6, c7, c8, c9, c10, c11, c12, c13, c14, c15, c16, c17, c18, c19, c20, c21] [o0, o1, o2, o3, o4, o5, o6, o7, o8, o9, o10, o11, o12, o13, o14, o15, o16, o17, o18, o19, o20, o21] [] [] w (by rw [List.append_nil, List.nil_append]; exact X) (by simp only [List.length_cons, List.length_nil])
  rw [List.append_nil, List.nil_append] at h
  exact h
set_option maxRecDepth 100000 in
theorem st_0_9 {w : World} {p : Nat} {c0 c1 c2 c3 c4 c5 c6 c7 c8 o0 o1 o2 o3 o4 o5 o6 o7 o8 o9 o10 o11 o12 o13 o14 o15 o16 o17 o18 o19 o20 o21 : Value} (X : BoxAt w p #[o0, o1, o2, o3, o4, o5, o6, o7, o8, o9, o10, o11, o12, o13, o14, o15, o16, o17, o18, o19, o20, o21]) : BoxAt (((((((((w.setCell ⟨p, 0, none⟩ c0).setCell ⟨p, 1, none⟩ c1).setCell ⟨p, 2, none⟩ c2).setCell ⟨p, 3, none⟩ c3).setCell ⟨p, 4, none⟩ c4).setCell ⟨p, 5, none⟩ c5).setCell ⟨p, 6, none⟩ c6).setCell ⟨p, 7, none⟩ c7).setCell ⟨p, 8, none⟩ c8) p #[c0, c1, c2, c3, c4, c5, c6, c7, c8, o9, o10, o11, o12, o13, o14, o15, o16, o17, o18, o19, o20, o21] := by
  have h := BoxAt.storeAll [c0, c1, c2, c3, c4, c5, c6, c7, c8] [o0, o1, o2, o3, o4, o5, o6, o7, o8] [] [o9, o10, o11, o12, o13, o14, o15, o16, o17, o18, o19, o20, o21] w (by simp only [List.cons_append, List.nil_append]; exact X) (by simp only [List.length_cons, List.length_nil])
  simp only [List.cons_append, List.nil_append, List.length_nil, allStored, Nat.zero_add, Nat.reduceAdd] at h
  exact h
set_option maxRecDepth 100000 in
theorem st_9_1 {w : World} {p : Nat} {c0 c1 c2 c3 c4 c5 c6 c7 c8 c9 o9 o10 o11 o12 o13 o14 o15 o16 o17 o18 o19 o20 o21 : Value} (X : BoxAt w p #[c0, c1, c2, c3, c4, c5, c6, c7, c8, o9, o10, o11, o12, o13, o14, o15, o16, o17, o18, o19, o20, o21]) : BoxAt (w.setCell ⟨p, 9, none⟩ c9) p #[c0, c1, c2, c3, c4, c5, c6, c7, c8, c9, o10, o11, o12, o13, o14, o15, o16, o17, o18, o19, o20, o21] := by
  have h := BoxAt.storeAll [c9] [o9] [c0, c1, c2, c3, c4, c5, c6, c7, c8] [o10, o11, o12, o13, o14, o15, o16, o17, o18, o19, o20, o21] w (by simp only [List.cons_append, List.nil_append]; exact X) (by simp only [List.length_cons, List.length_nil])
  simp only [List.cons_append, List.nil_append, List.length_cons, List.length_nil, allStored, Nat.zero_add, Nat.reduceAdd] at h
  exact h
set_option maxRecDepth 100000 in
theorem st_10_6 {w : World} {p : Nat} {c0 c1 c2 c3 c4 c5 c6 c7 c8 c9 c10 c11 c12 c13 c14 c15 o10 o11 o12 o13 o14 o15 o16 o17 o18 o19 o20 o21 : Value} (X : BoxAt w p #[c0, c1, c2, c3, c4, c5, c6, c7, c8, c9, o10, o11, o12, o13, o14, o15, o16, o17, o18, o19, o20, o21]) : BoxAt ((((((w.setCell ⟨p, 10, none⟩ c10).setCell ⟨p, 11, none⟩ c11).setCell ⟨p, 12, none⟩ c12).setCell ⟨p, 13, none⟩ c13).setCell ⟨p, 14, none⟩ c14).setCell ⟨p, 15, none⟩ c15) p #[c0, c1, c2, c3, c4, c5, c6, c7, c8, c9, c10, c11, c12, c13, c14, c15, o16, o17, o18, o19, o20, o21] := by
  have h := BoxAt.storeAll [c10, c11, c12, c13, c14, c15] [o10, o11, o12, o13, o14, o15] [c0, c1, c2, c3, c4, c5, c6, c7, c8, c9] [o16, o17, o18, o19, o20, o21] w (by simp only [List.cons_append, List.nil_append]; exact X) (by simp only [List.length_cons, List.length_nil])
  simp only [List.cons_append, List.nil_append, List.length_cons, List.length_nil, allStored, Nat.zero_add, Nat.reduceAdd] at h
  exact h
set_option maxRecDepth 100000 in
theorem st_16_6 {w : World} {p : Nat} {c0 c1 c2 c3 c4 c5 c6 c7 c8 c9 c10 c11 c12 c13 c14 c15 c16 c17 c18 c19 c20 c21 o16 o17 o18 o19 o20 o21 : Value} (X : BoxAt w p #[c0, c1, c2, c3, c4, c5, c6, c7, c8, c9, c10, c11, c12, c13, c14, c15, o16, o17, o18, o19, o20, o21]) : BoxAt ((((((w.setCell ⟨p, 16, none⟩ c16).setCell ⟨p, 17, none⟩ c17).setCell ⟨p, 18, none⟩ c18).setCell ⟨p, 19, none⟩ c19).setCell ⟨p, 20, none⟩ c20).setCell ⟨p, 21, none⟩ c21) p #[c0, c1, c2, c3, c4, c5, c6, c7, c8, c9, c10, c11, c12, c13, c14, c15, c16, c17, c18, c19, c20, c21] := by
  have h := BoxAt.storeAll [c16, c17, c18, c19, c20, c21] [o16, o17, o18, o19, o20, o21] [c0, c1, c2, c3, c4, c5, c6, c7, c8, c9, c10, c11, c12, c13, c14, c15] [] w (by simp only [List.cons_append, List.nil_append, List.append_nil]; exact X) (by simp only [List.length_cons, List.length_nil])
  simp only [List.cons_append, List.nil_append, List.append_nil, List.length_cons, List.length_nil, allStored, Nat.zero_add, Nat.reduceAdd] at h
  exact h
end Go.Proofs.Ytmmnjdhmankieaa
