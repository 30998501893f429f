/-
  Proved: spec.SameShape says whether two expressions are equal but for the numbers of their holes and marks; the memory that was there stays as it was.
-/
import Derived.Test.YtimigpdbegfjaaaSpecRenumber
import Derived.Test.YtimigpdbegfjaaaSpecExEqual
import Derived.Test.YtimigpdbegfjaaaTwo
import Derived.Deep.RegionHeld3
namespace Go.Proofs.Ytimigpdbegfjaaa
open Go.RowKit

set_option maxRecDepth 100000 in
set_option maxHeartbeats 2000000 in
theorem specShape (d : Nat) (v1 v2 : Value) (t1 t2 : Ex) (w : World) (hn1 : t1.bulk ≤ 1048576) (hn2 : t2.bulk ≤ 1048576) (h1 : ExAt w d v1 t1) (h2 : ExAt w d v2 t2) :
    Calls Try.prog 21 #[v1, v2] w fun e w' => e = .returned (.bool ((t1.ren 1).beq (t2.ren 1))) ∧ Below w.heap.size w w' := by
  obtain ⟨ak, am, an, atk, ata, atn, atc, asa, asn, asc, rfl⟩ := ex_parts h1
  obtain ⟨bk, bm, bn, btk, bta, btn, btc, bsa, bsn, bsc, rfl⟩ := ex_parts h2
  have B : Hid (Below w.heap.size w ((w.alloc (.cells #[.int .i64 ak, .string am, .int .i64 an, .int .i64 atk, .slice ata atn atc, .slice asa asn asc] 37)).alloc (.cells #[.int .i64 bk, .string bm, .int .i64 bn, .int .i64 btk, .slice bta btn btc, .slice bsa bsn bsc] 37))) := ((Below.refl _ _).alloc (Nat.le_refl _) _).alloc (by simp) _
  have XA : Hid (BoxAt ((w.alloc (.cells #[.int .i64 ak, .string am, .int .i64 an, .int .i64 atk, .slice ata atn atc, .slice asa asn asc] 37)).alloc (.cells #[.int .i64 bk, .string bm, .int .i64 bn, .int .i64 btk, .slice bta btn btc, .slice bsa bsn bsc] 37)) w.heap.size #[.int .i64 ak, .string am, .int .i64 an, .int .i64 atk, .slice ata atn atc, .slice asa asn asc]) := (BoxAt.new _ _ _).below (below_alloc _ _)
  have XB : Hid (BoxAt ((w.alloc (.cells #[.int .i64 ak, .string am, .int .i64 an, .int .i64 atk, .slice ata atn atc, .slice asa asn asc] 37)).alloc (.cells #[.int .i64 bk, .string bm, .int .i64 bn, .int .i64 btk, .slice bta btn btc, .slice bsa bsn bsc] 37)) (w.heap.size + 1) #[.int .i64 bk, .string bm, .int .i64 bn, .int .i64 btk, .slice bta btn btc, .slice bsa bsn bsc]) := box_at (BoxAt.new _ _ _) (by simp)
  have HA := Lib.hid (h1.below B.out)
  have HB := Lib.hid (h2.below B.out)
  clear h1 h2
  go_enter Try.func21, Try.ntmps21
  go_wp2_with fail
  have hb := below_drew ((w.alloc (.cells #[.int .i64 ak, .string am, .int .i64 an, .int .i64 atk, .slice ata atn atc, .slice asa asn asc] 37)).alloc (.cells #[.int .i64 bk, .string bm, .int .i64 bn, .int .i64 btk, .slice bta btn btc, .slice bsa bsn bsc] 37))
  replace B := Lib.hid (below_thru B.out (Nat.le_refl _) hb)
  replace XA := Lib.hid (XA.out.below hb)
  replace XB := Lib.hid (XB.out.below hb)
  replace HA := Lib.hid (HA.out.below hb)
  replace HB := Lib.hid (HB.out.below hb)
  clear hb
  go_region_held3 (fun w' => w'.cell? ⟨w.heap.size, 0, none⟩ = some (.int .i64 ak) ∧ w'.cell? ⟨w.heap.size, 1, none⟩ = some (.string am) ∧ w'.cell? ⟨w.heap.size, 2, none⟩ = some (.int .i64 an) ∧ w'.cell? ⟨w.heap.size, 3, none⟩ = some (.int .i64 atk) ∧ w'.cell? ⟨w.heap.size, 4, none⟩ = some (.slice ata atn atc) ∧ w'.cell? ⟨w.heap.size, 5, none⟩ = some (.slice asa asn asc) ∧ w'.cell? ⟨w.heap.size + 1, 0, none⟩ = some (.int .i64 bk) ∧ w'.cell? ⟨w.heap.size + 1, 1, none⟩ = some (.string bm) ∧ w'.cell? ⟨w.heap.size + 1, 2, none⟩ = some (.int .i64 bn) ∧ w'.cell? ⟨w.heap.size + 1, 3, none⟩ = some (.int .i64 btk) ∧ w'.cell? ⟨w.heap.size + 1, 4, none⟩ = some (.slice bta btn btc) ∧ w'.cell? ⟨w.heap.size + 1, 5, none⟩ = some (.slice bsa bsn bsc)) (exact ⟨XA.out.2 0, XA.out.2 1, XA.out.2 2, XA.out.2 3, XA.out.2 4, XA.out.2 5, XB.out.2 0, XB.out.2 1, XB.out.2 2, XB.out.2 3, XB.out.2 4, XB.out.2 5⟩)
    (first
     | (go_at_call_of 31 (Value.agg #[Value.int IntKind.i64 ak, Value.string am, Value.int IntKind.i64 an, Value.int IntKind.i64 atk, Value.slice ata atn atc, Value.slice asa asn asc])
        refine (specRenumber d _ t1 _ hn1 HA.out).mono ?_
        rintro e w1 ⟨o1, fp, rfl, ht, hf, hb⟩
        replace B := Lib.hid (below_thru B.out (Nat.le_refl _) hb)
        replace XA := Lib.hid (XA.out.below hb)
        replace XB := Lib.hid (XB.out.below hb)
        replace HA := Lib.hid (HA.out.below hb)
        replace HB := Lib.hid (HB.out.below hb)
        try replace HO2 := Lib.hid (HO2.out.below hb)
        have HO1 := Lib.hid ht.at_
        clear ht hf hb)
     | (go_at_call_of 31 (Value.agg #[Value.int IntKind.i64 bk, Value.string bm, Value.int IntKind.i64 bn, Value.int IntKind.i64 btk, Value.slice bta btn btc, Value.slice bsa bsn bsc])
        refine (specRenumber d _ t2 _ hn2 HB.out).mono ?_
        rintro e w2 ⟨o2, fp, rfl, ht, hf, hb⟩
        replace B := Lib.hid (below_thru B.out (Nat.le_refl _) hb)
        replace XA := Lib.hid (XA.out.below hb)
        replace XB := Lib.hid (XB.out.below hb)
        replace HA := Lib.hid (HA.out.below hb)
        replace HB := Lib.hid (HB.out.below hb)
        try replace HO1 := Lib.hid (HO1.out.below hb)
        have HO2 := Lib.hid ht.at_
        clear ht hf hb)
     | (go_at_call 64
        refine (specExEqual d _ _ (t1.ren 1) (t2.ren 1) _ HO1.out HO2.out).mono ?_
        rintro e w3 ⟨rfl, hb⟩
        replace B := Lib.hid (below_thru B.out (Nat.le_refl _) hb)
        replace XA := Lib.hid (XA.out.below hb)
        replace XB := Lib.hid (XB.out.below hb)
        clear hb))
  all_goals go_wp2_with fail
  all_goals go_ret
  all_goals exact ⟨rfl, B.out⟩
end Go.Proofs.Ytimigpdbegfjaaa
