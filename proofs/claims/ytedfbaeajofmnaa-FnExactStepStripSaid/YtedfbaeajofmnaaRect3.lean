/- Rects of a sheet: the model's functions. Conditions: none beyond those of each theorem. -/
import Derived.Test.YtedfbaeajofmnaaRect
import Derived.Test.YtedfbaeajofmnaaBu7
namespace Go.Proofs.Ytedfbaeajofmnaa
open Go Ieee Go.RowKit
set_option linter.unusedVariables false

theorem quietI (a lo hi : Int) (c : Bool) (w : World) (n : Nat) (hc : decide (lo ≤ a ∧ a ≤ hi) = c) : Calls Try.prog 66 #[.int .i64 a, .int .i64 lo, .int .i64 hi] (w.drewN n) fun e w'' => e = .returned (.bool c) ∧ ∃ m, w'' = w.drewN m := by
  subst hc
  exact quietS (l00In_any a lo hi _)

end Go.Proofs.Ytedfbaeajofmnaa
