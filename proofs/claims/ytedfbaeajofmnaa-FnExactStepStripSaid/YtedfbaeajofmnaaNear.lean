/- Cells near the edges, parts of a width, and what losses and values become there: the program's functions. Conditions: none beyond those of each theorem. -/
import Derived.Test.YtedfbaeajofmnaaDepth
import Derived.Test.YtedfbaeajofmnaaPlan
import Derived.Test.YtedfbaeajofmnaaBu15
import Derived.Test.YtedfbaeajofmnaaCost
namespace Go.Proofs.Ytedfbaeajofmnaa
open Go Ieee Go.RowKit
set_option linter.unusedVariables false

/-- which part of a width some cells are -/
def partC (wi c : Int) : Option Nat := fop .quo .f32 (canon .f32 (mk c)) (canon .f32 (mk wi))

def gradeS (S : Option Nat) : Option Nat := if ford .f32 S (some 1065353216) = some .gt then some 1065353216 else S
/-- what a loss becomes -/
def gradeC (lo mo : Nat) (wi d : Int) : Option Nat := gradeS (fop .add .f32 (canon .f32 lo) (fop .mul .f32 (canon .f32 mo) (fop .mul .f32 (partC wi (wi - d)) (partC wi (wi - d)))))

theorem mulB (x y : Nat) (w : World) : Calls Try.prog 137 #[.float .f32 x, .float .f32 y] w fun e w' => ∃ v, e = .returned (.float .f32 v) ∧ canon .f32 v = fop .mul .f32 (canon .f32 x) (canon .f32 y) ∧ v < 2 ^ 32 ∧ Below w.heap.size w w' :=
  (mulN x y w).mono fun e w' ⟨v, n, h1, h2, h3, h4⟩ => ⟨v, h1, h3, h4, by rw [h2]; exact below_drewN (Below.refl _ _) _⟩

end Go.Proofs.Ytedfbaeajofmnaa
