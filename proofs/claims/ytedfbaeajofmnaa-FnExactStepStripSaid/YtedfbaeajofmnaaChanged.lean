/- A list in which the numbers of some cells are made anew: the program's loop, for any test and any change. Conditions: none beyond those of each theorem. -/
import Derived.Test.YtedfbaeajofmnaaCallV
import Derived.Test.YtedfbaeajofmnaaChg
import Derived.Test.YtedfbaeajofmnaaBu7
import Derived.Test.YtedfbaeajofmnaaBu5
namespace Go.Proofs.Ytedfbaeajofmnaa
open Go Ieee Go.RowKit
set_option linter.unusedVariables false

end Go.Proofs.Ytedfbaeajofmnaa
