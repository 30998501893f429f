/-
  Proved: impl.integerWithin returns the number whose numeral the text is, if it lies within the bounds, and else panics; memory that was there stays as it was. On these terms: the library's table and its two errors hold what the program's text lays.
-/
import Derived.Test.YtpoafjbndipfeaaDoorProg
import Derived.Test.YtpoafjbndipfeaaDoorParse
import Derived.Test.YtpoafjbndipfeaaDoorLaw
import Derived.Test.YtpoafjbndipfeaaDoorImplFormat
import Derived.Test.YtpoafjbndipfeaaDoorShelfAtoi
import Derived.WalkKit
import Derived.WalkSpells
import Derived.WalkLawsBesides
import Derived.Lib.Hide
import Derived.BigQuiet
import Derived.Deep.QuietTactic
import Derived.Deep.RegionWith
namespace Go.Proofs.YtpoafjbndipfeaaDoor
open Go.RowKit

def malformed : Value := .iface 9 (.string ⟨#[109, 97, 108, 102, 111, 114, 109, 101, 100, 32, 105, 110, 116, 101, 103, 101, 114]⟩)

set_option maxRecDepth 100000 in
set_option maxHeartbeats 1000000 in
theorem within_ok (s : ByteArray) (hs : s.size ≤ 1048576) (lo hi v : Int) (h0 : -9223372036854775808 ≤ v) (h1 : v ≤ 9223372036854775807) (ha : Lib.atoiAll s.data.toList = .ok v) (hlo : ¬ v < lo) (hhi : ¬ hi < v) (HI : Hid (Lib.itoa v = s.data.toList)) (w : World)
    (htab : Lib.TabIs Tryd.prog w "internal/strconv.uint64pow10" .u64 Lib.pow10Tab) :
    Calls Tryd.prog 64 #[.string s, .int .i64 lo, .int .i64 hi] w fun e w' => e = .returned (.int .i64 v) ∧ Below w.heap.size w w' := by
  have HA := Lib.hid ha; clear ha
  go_enter Tryd.func64, Tryd.ntmps64
  go_wp2_with fail
  refine (Tryd.strconv_Atoi_ok s (by omega) v HA.out w).mono ?_
  rintro e w1 ⟨rfl, hw⟩
  have hb1 : Below w.heap.size w w1 := by
    rcases hw with rfl | ⟨t, rfl⟩
    · exact Below.refl _ _
    · exact Lib.bytesWorld_below _ _ _
  clear hw
  go_wp2_with fail
  refine (implFormat v h0 h1 _ (Law.tab_below hb1 htab)).mono ?_
  rintro e w2 ⟨rfl, hb2⟩
  have hi2 := HI.out
  go_wp2
  go_ret
  exact ⟨rfl, hb1.trans (hb2.mono hb1.size)⟩

/-- The bounds or the numeral do not fit. -/
theorem within_out (s : ByteArray) (hs : s.size ≤ 1048576) (lo hi v : Int) (ha : Lib.atoiAll s.data.toList = .ok v) (hout : v < lo ∨ hi < v) (w : World) :
    Calls Tryd.prog 64 #[.string s, .int .i64 lo, .int .i64 hi] w fun e w' => e = .panicked [{ v := malformed, recovered := false }] ∧ Below w.heap.size w w' := by
  have HA := Lib.hid ha; clear ha
  go_enter Tryd.func64, Tryd.ntmps64
  go_wp2_with fail
  refine (Tryd.strconv_Atoi_ok s (by omega) v HA.out w).mono ?_
  rintro e w1 ⟨rfl, hw⟩
  have hb1 : Below w.heap.size w w1 := by
    rcases hw with rfl | ⟨t, rfl⟩
    · exact Below.refl _ _
    · exact Lib.bytesWorld_below _ _ _
  clear hw
  rcases hout with ho | ho
  · go_wp2_with fail
    exact ⟨rfl, rfl, hb1⟩
  · by_cases hlo : v < lo
    · go_wp2_with fail
      exact ⟨rfl, rfl, hb1⟩
    · go_wp2_with fail
      exact ⟨rfl, rfl, hb1⟩

set_option maxRecDepth 100000 in
set_option maxHeartbeats 1000000 in
theorem within_spell (s : ByteArray) (hs : s.size ≤ 1048576) (lo hi v : Int) (h0 : -9223372036854775808 ≤ v) (h1 : v ≤ 9223372036854775807) (ha : Lib.atoiAll s.data.toList = .ok v) (hlo : ¬ v < lo) (hhi : ¬ hi < v) (HI : Hid (Lib.itoa v ≠ s.data.toList)) (w : World)
    (htab : Lib.TabIs Tryd.prog w "internal/strconv.uint64pow10" .u64 Lib.pow10Tab) :
    Calls Tryd.prog 64 #[.string s, .int .i64 lo, .int .i64 hi] w fun e w' => e = .panicked [{ v := malformed, recovered := false }] ∧ Below w.heap.size w w' := by
  have HA := Lib.hid ha; clear ha
  go_enter Tryd.func64, Tryd.ntmps64
  go_wp2_with fail
  refine (Tryd.strconv_Atoi_ok s (by omega) v HA.out w).mono ?_
  rintro e w1 ⟨rfl, hw⟩
  have hb1 : Below w.heap.size w w1 := by
    rcases hw with rfl | ⟨t, rfl⟩
    · exact Below.refl _ _
    · exact Lib.bytesWorld_below _ _ _
  clear hw
  go_wp2_with fail
  refine (implFormat v h0 h1 _ (Law.tab_below hb1 htab)).mono ?_
  rintro e w2 ⟨rfl, hb2⟩
  have hbb : (!Lib.itoa v == s.toList) = true := by rw [ByteArray.toList_eq]; simpa using HI.out
  go_wp2
  exact ⟨rfl, rfl, hb1.trans (hb2.mono hb1.size)⟩

set_option maxRecDepth 100000 in
set_option maxHeartbeats 1000000 in
theorem within_syntax (s : ByteArray) (hs : s.size ≤ 1048576) (lo hi : Int) (ha : Lib.atoiAll s.data.toList = Lib.NumEnd.syntax) (w : World) (tp : TypeId) (p : Value) (hvar : w.var? Tryd.prog "strconv.ErrSyntax" = some #[.iface tp p]) :
    Calls Tryd.prog 64 #[.string s, .int .i64 lo, .int .i64 hi] w fun e w' => e = .panicked [{ v := malformed, recovered := false }] ∧ Below w.heap.size w w' := by
  have HA := Lib.hid ha; clear ha
  have HV := Lib.hid hvar; clear hvar
  go_enter Tryd.func64, Tryd.ntmps64
  go_wp2_with fail
  refine (Tryd.strconv_Atoi_syntax_var s (by omega) HA.out tp p w HV.out).mono ?_
  rintro e w1 ⟨N, rfl, _, _, hb1⟩
  go_wp2_with fail
  exact ⟨rfl, rfl, hb1⟩

set_option maxRecDepth 100000 in
set_option maxHeartbeats 1000000 in
theorem within_range (s : ByteArray) (hs : s.size ≤ 1048576) (lo hi : Int) (ha : Lib.atoiAll s.data.toList = .range) (w : World) (tp : TypeId) (p : Value) (hvar : w.var? Tryd.prog "strconv.ErrRange" = some #[.iface tp p]) :
    Calls Tryd.prog 64 #[.string s, .int .i64 lo, .int .i64 hi] w fun e w' => e = .panicked [{ v := malformed, recovered := false }] ∧ Below w.heap.size w w' := by
  have HA := Lib.hid ha; clear ha
  have HV := Lib.hid hvar; clear hvar
  go_enter Tryd.func64, Tryd.ntmps64
  go_wp2_with fail
  refine (Tryd.strconv_Atoi_range_var s (by omega) HA.out tp p w HV.out).mono ?_
  rintro e w1 ⟨N, rfl, _, _, hb1⟩
  go_wp2_with fail
  exact ⟨rfl, rfl, hb1⟩

/-- WHAT THE LIBRARY's VARIABLES HOLD, as the program's text lays them. -/
structure Lays (w : World) : Prop where
  tab : Lib.TabIs Tryd.prog w "internal/strconv.uint64pow10" .u64 Lib.pow10Tab
  syn : ∃ tp p, w.var? Tryd.prog "strconv.ErrSyntax" = some #[.iface tp p]
  rng : ∃ tp p, w.var? Tryd.prog "strconv.ErrRange" = some #[.iface tp p]
theorem Lays.below {w w' : World} (h : Lays w) (hb : Below w.heap.size w w') : Lays w' :=
  ⟨Law.tab_below hb h.tab, h.syn.elim fun tp h => h.elim fun p h => ⟨tp, p, Law.var_below hb h⟩, h.rng.elim fun tp h => h.elim fun p h => ⟨tp, p, Law.var_below hb h⟩⟩

/-- impl.integerWithin: the number that is read, or the panic. -/
theorem within (s : ByteArray) (hs : s.size ≤ 1048576) (lo hi : Int) (hlo : -(10 ^ 17) < lo) (hhi : hi < 10 ^ 17) (w : World) (hL : Lays w) :
    (∃ v, Num.Reads lo hi s.data.toList v true ∧ Calls Tryd.prog 64 #[.string s, .int .i64 lo, .int .i64 hi] w fun e w' => e = .returned (.int .i64 v) ∧ Below w.heap.size w w') ∨
    (Num.Reads lo hi s.data.toList 0 false ∧ Calls Tryd.prog 64 #[.string s, .int .i64 lo, .int .i64 hi] w fun e w' => e = .panicked [{ v := malformed, recovered := false }] ∧ Below w.heap.size w w') := by
  have key : ∀ m, lo ≤ m → m ≤ hi → Lib.itoa m = s.data.toList → Lib.atoiAll s.data.toList = .ok m := fun m a b e => by
    rw [← e]; exact Num.atoiAll_itoa m (by omega)
  obtain ⟨tp, p, hsyn⟩ := hL.syn
  obtain ⟨tr, pr, hrng⟩ := hL.rng
  rcases ha : Lib.atoiAll s.data.toList with v | _ | _
  ·
    have hbd : -9223372036854775808 ≤ v ∧ v ≤ 9223372036854775807 := Lib.atoiAll_bounds ha
    have no : ∀ m, lo ≤ m → m ≤ hi → Lib.itoa m = s.data.toList → m = v := fun m a b e => by
      have := key m a b e
      rw [ha] at this
      cases this; rfl
    by_cases h1 : v < lo ∨ hi < v
    · exact Or.inr ⟨Or.inr ⟨rfl, rfl, fun m a b e => by have := no m a b e; omega⟩, within_out s hs lo hi v ha h1 w⟩
    · by_cases h2 : Lib.itoa v = s.data.toList
      · exact Or.inl ⟨v, Or.inl ⟨rfl, h2, by omega, by omega⟩, within_ok s hs lo hi v hbd.1 hbd.2 ha (by omega) (by omega) h2 w hL.tab⟩
      · exact Or.inr ⟨Or.inr ⟨rfl, rfl, fun m a b e => h2 (by rw [← no m a b e]; exact e)⟩, within_spell s hs lo hi v hbd.1 hbd.2 ha (by omega) (by omega) h2 w hL.tab⟩
  · exact Or.inr ⟨Or.inr ⟨rfl, rfl, fun m a b e => by have := key m a b e; rw [ha] at this; cases this⟩, within_syntax s hs lo hi ha w tp p hsyn⟩
  · exact Or.inr ⟨Or.inr ⟨rfl, rfl, fun m a b e => by have := key m a b e; rw [ha] at this; cases this⟩, within_range s hs lo hi ha w tr pr hrng⟩
end Go.Proofs.YtpoafjbndipfeaaDoor
