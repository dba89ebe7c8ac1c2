/- The greatest absolute values over steps: what a list must hold. Conditions: none. -/
import Derived.Test.YtedfbaeajofmnabValidT
namespace Go.Proofs.Ytedfbaeajofmnab
open Go Ieee Go.RowKit

def ptM (wd hi : Int) (wb : Bool) (xs ys e x y : List Nat) (steps : Int) : List (Option Nat) := (List.range steps.toNat).map fun j => peakC (wd * hi).toNat (runT wb wd.toNat hi.toNat (nums xs) (nums ys) ⟨nums e, nums x, nums y⟩ (j + 1)).e

end Go.Proofs.Ytedfbaeajofmnab
