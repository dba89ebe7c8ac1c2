/- Several texts in one: facts on floats, lists, memory and the functions that the theorems beside this text use. Conditions: none beyond those of each theorem. -/
import Derived.Test.YtedfbaeajofmnaaCallV
import Derived.Test.YtedfbaeajofmnaaChg
import Derived.Test.YtedfbaeajofmnaaBu5

set_option linter.unusedVariables false

section

namespace Go.Proofs.Ytedfbaeajofmnaa
open Go Ieee Go.RowKit
set_option linter.unusedVariables false
set_option linter.unusedSimpArgs false

def toldC (n : Nat) (G : Nat → Option Nat) : List (Option Nat) := (List.range n).map G

theorem chgC_told (n : Nat) (G : Nat → Option Nat) : chgC (fun _ => true) G (List.replicate n 0) = toldC n G := by
  unfold chgC toldC; rw [List.length_replicate]; rfl

theorem zeros_small (n : Nat) : ∀ z ∈ List.replicate n 0, z < 2 ^ 32 := fun z hz => by rw [List.eq_of_mem_replicate hz]; decide

end Go.Proofs.Ytedfbaeajofmnaa

end
