/- Whether a number lies between two others, as the model asks it. Conditions: none. -/
import Derived.Test.YtdcpkndkehdhiabChecked
import Derived.WalkKit
import Derived.WalkLawsBesides
import Derived.Lib.Hide
namespace Go.Proofs.Ytdcpkndkehdhiab
open Go Go.RowKit

end Go.Proofs.Ytdcpkndkehdhiab
