/-
  Proved: impl.isWord says whether a text is one of the three words; the memory that was there stays as it was.
-/
import Derived.Test.YtafehlhmkomeiaaDoorName
namespace Go.Proofs.YtafehlhmkomeiaaDoor
open Go.RowKit

set_option maxRecDepth 100000 in
theorem implWord (s : ByteArray) (w : World) : Calls Tryd.prog 27 #[.string s] w fun e w' => e = .returned (.bool (wordB s)) ∧ w = w' := by
  cases h1 : (s.toList == [105, 102]) with
  | true =>
    go_enter Tryd.func27, Tryd.ntmps27
    go_wp2_with fail
    go_ret
    exact ⟨by simp [wordB, h1], rfl⟩
  | false =>
    cases h2 : (s.toList == [102, 115, 116]) with
    | true =>
      go_enter Tryd.func27, Tryd.ntmps27
      go_wp2_with fail
      go_ret
      exact ⟨by simp [wordB, h1, h2], rfl⟩
    | false =>
      cases h3 : (s.toList == [115, 110, 100]) with
      | true =>
        go_enter Tryd.func27, Tryd.ntmps27
        go_wp2_with fail
        go_ret
        exact ⟨by simp [wordB, h1, h2, h3], rfl⟩
      | false =>
        go_enter Tryd.func27, Tryd.ntmps27
        go_wp2_with fail
        go_ret
        exact ⟨by simp [wordB, h1, h2, h3], rfl⟩
end Go.Proofs.YtafehlhmkomeiaaDoor
