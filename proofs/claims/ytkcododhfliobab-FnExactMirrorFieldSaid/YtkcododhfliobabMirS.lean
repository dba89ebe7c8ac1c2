/- Mirrored, exchanged and shifted sheets: the program's and the model's. Conditions: none beyond those of each theorem. -/
import Derived.Test.YtkcododhfliobabMove4
namespace Go.Proofs.Ytkcododhfliobab
open Go Ieee Go.RowKit
set_option linter.unusedVariables false

def shiftB (x y : Int) : Bool := decide (-16 ≤ x ∧ x ≤ 16) && decide (-16 ≤ y ∧ y ≤ 16)

theorem shift_in {x y : Int} (h : shiftB x y = true) : -16 ≤ x ∧ x ≤ 16 ∧ -16 ≤ y ∧ y ≤ 16 := by
  unfold shiftB at h
  simp only [Bool.and_eq_true, decide_eq_true_eq] at h
  omega

theorem blk_heldR1 {u w' : World} {R g : Nat} {cs : Array Value} {t : TypeId} {A : Prop} (h : Blk u g cs t) (e : g ≠ R) (k : A ∧ u.grownBy w' (some R)) : Blk w' g cs t := h.grown k.2 (fun h => e (Option.some.inj h))

end Go.Proofs.Ytkcododhfliobab
