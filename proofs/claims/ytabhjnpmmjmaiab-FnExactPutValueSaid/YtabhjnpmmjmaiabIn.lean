/- Whether a number lies between two others, as the model asks it. Conditions: none. -/
import Derived.Test.YtabhjnpmmjmaiabChecked
import Derived.WalkKit
import Derived.WalkLawsBesides
import Derived.Lib.Hide
namespace Go.Proofs.Ytabhjnpmmjmaiab
open Go Go.RowKit

theorem l00In_any (a lo hi : Int) (w : World) : Calls Try.prog 97 #[.int .i64 a, .int .i64 lo, .int .i64 hi] w fun e w' => e = .returned (.bool (decide (lo ≤ a ∧ a ≤ hi))) ∧ w = w' := by
  by_cases h1 : lo ≤ a
  · by_cases h2 : a ≤ hi
    · have d1 : decide (lo ≤ a) = true := decide_eq_true h1
      have d2 : decide (a ≤ hi) = true := decide_eq_true h2
      go_enter Try.func97, Try.ntmps97
      go_wp2
      go_ret
      exact ⟨by rw [decide_eq_true (show lo ≤ a ∧ a ≤ hi from ⟨h1, h2⟩)]; rfl, rfl⟩
    · have d1 : decide (lo ≤ a) = true := decide_eq_true h1
      have d2 : decide (a ≤ hi) = false := decide_eq_false h2
      go_enter Try.func97, Try.ntmps97
      go_wp2
      go_ret
      exact ⟨rfl, rfl⟩
  · have d1 : decide (lo ≤ a) = false := decide_eq_false h1
    go_enter Try.func97, Try.ntmps97
    go_wp2
    go_ret
    exact ⟨rfl, rfl⟩

end Go.Proofs.Ytabhjnpmmjmaiab
