/- The walk of the law on roots. Conditions: none beyond those of each theorem. -/
import Derived.Test.YtdcpkndkehdhiadWalksD
namespace Go.Proofs.Ytdcpkndkehdhiad
open Go Ieee Go.RowKit

/-- what a root's narrowed number is -/
def oroot (b : Option Nat) : Option Nat := fconv .f64 .f32 (fsqrt (fconv .f32 .f64 b))

end Go.Proofs.Ytdcpkndkehdhiad
