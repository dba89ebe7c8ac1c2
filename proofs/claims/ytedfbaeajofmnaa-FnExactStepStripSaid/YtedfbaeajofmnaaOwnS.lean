/- The model's own copy of a sheet. Conditions: none beyond those of each theorem. -/
import Derived.Test.YtedfbaeajofmnaaBu5
namespace Go.Proofs.Ytedfbaeajofmnaa
open Go Ieee Go.RowKit
set_option linter.unusedVariables false

end Go.Proofs.Ytedfbaeajofmnaa
