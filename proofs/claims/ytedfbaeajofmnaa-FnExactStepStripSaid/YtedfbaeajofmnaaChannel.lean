/- Sheets with walls above and below: the program's answer and the model's. Conditions: none beyond those of each theorem. -/
import Derived.Test.YtedfbaeajofmnaaSht
import Derived.Test.YtedfbaeajofmnaaStilled
import Derived.Test.YtedfbaeajofmnaaOwnS
import Derived.Test.YtedfbaeajofmnaaBu14
namespace Go.Proofs.Ytedfbaeajofmnaa
open Go Ieee Go.RowKit
set_option linter.unusedVariables false

def chanB (wd hi : Int) (xs ys : List Nat) (fr tt : Int) : Bool := validB wd hi xs ys && decide (0 ≤ fr ∧ fr ≤ tt ∧ tt < hi)
def outB (fr tt y : Int) : Bool := !decide (fr ≤ y ∧ y ≤ tt)
def chanP (wd fr tt : Int) (i : Nat) : Bool := outB fr tt ((i : Int) / wd)

theorem implHasRow (wd hi y : Int) (wb : Bool) (w : World) : Calls Try.prog 58 #[.agg #[.int .i64 wd, .int .i64 hi, .bool wb], .int .i64 y] w fun e w' => e = .returned (.bool (decide (0 ≤ y ∧ y < hi))) ∧ Below w.heap.size w w' := by
  have HB : Hid (Below w.heap.size w (w.alloc (.cells #[.int .i64 wd, .int .i64 hi, .bool wb] 80))) := Lib.hid (below_new _ _)
  by_cases h1 : 0 ≤ y
  · have d1 : decide (0 ≤ y) = true := decide_eq_true h1
    rw [show decide (0 ≤ y ∧ y < hi) = decide (y < hi) by rw [decide_eq_decide]; omega]
    go_enter Try.func58, Try.ntmps58
    go_wp2
    go_ret
    exact ⟨rfl, HB.out⟩
  · have d1 : decide (0 ≤ y) = false := decide_eq_false h1
    rw [show decide (0 ≤ y ∧ y < hi) = false by rw [decide_eq_false]; omega]
    go_enter Try.func58, Try.ntmps58
    go_wp2
    go_ret
    exact ⟨rfl, HB.out⟩

end Go.Proofs.Ytedfbaeajofmnaa
