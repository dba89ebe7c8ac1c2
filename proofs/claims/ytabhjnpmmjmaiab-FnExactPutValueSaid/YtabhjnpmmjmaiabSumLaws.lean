/- The walks of the laws on sums and products of lists of floats. Conditions: none beyond those of each theorem. -/
import Derived.Test.YtabhjnpmmjmaiabSums
namespace Go.Proofs.Ytabhjnpmmjmaiab
open Go Ieee Go.RowKit

theorem RowV.drawn {w : World} {a : Option Addr} {vs : List Value} (h : RowV w a vs) (n : Nat) : RowV (w.drewN n) a vs := h

theorem Below.lower {B : Nat} {a b c : World} (h1 : Below B a b) (h2 : Below b.heap.size b c) (hB : B ≤ b.heap.size) : Below B a c := h1.trans (h2.mono hB)

end Go.Proofs.Ytabhjnpmmjmaiab
