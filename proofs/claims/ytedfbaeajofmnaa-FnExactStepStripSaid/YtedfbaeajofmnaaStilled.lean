/- Sheets in which some cells have no speed: the program's function. Conditions: none beyond those of each theorem. -/
import Derived.Test.YtedfbaeajofmnaaChanged
import Derived.Test.YtedfbaeajofmnaaPlan
namespace Go.Proofs.Ytedfbaeajofmnaa
open Go Ieee Go.RowKit
set_option linter.unusedVariables false

theorem cloneN (ba oa ca n : Nat) (xs : List Nat) (w : World) (ha : RowV w (some ⟨ba, oa, none⟩) (fvals xs)) (hx : xs.length = n) (n0 : 0 < n) (n256 : n ≤ 256) : Calls Try.prog 141 #[.slice (some ⟨ba, oa, none⟩) n ca] w fun e w' => ∃ g c', e = .returned (.slice (some ⟨g, 0, none⟩) n c') ∧ OwnV w' w.heap.size (some ⟨g, 0, none⟩) (fvals xs) ∧ Below w.heap.size w w' := by
  have := implClone ba oa ca xs w ha (by omega) (by omega)
  rw [hx] at this; exact this

end Go.Proofs.Ytedfbaeajofmnaa
