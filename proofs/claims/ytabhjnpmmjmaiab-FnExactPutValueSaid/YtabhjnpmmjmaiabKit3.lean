/- Small words on sizes behind a box. Conditions: none beyond those of each theorem. -/
import Derived.Test.YtabhjnpmmjmaiabKit2
namespace Go.Proofs.Ytabhjnpmmjmaiab
open Go Ieee Go.RowKit

theorem lt_new {X Y : World} {o : Obj} (b : Below (X.alloc o).heap.size (X.alloc o) Y) : X.heap.size < Y.heap.size := by
  have := b.size
  simp at this; omega

theorem lt_newd {X Y : World} {o : Obj} (b : Below (X.alloc o).drew.heap.size (X.alloc o).drew Y) : X.heap.size < Y.heap.size := by
  have := b.size
  simp at this; omega

theorem lt_here (X : World) (o : Obj) : X.heap.size < (X.alloc o).heap.size := by simp

theorem lt_hered (X : World) (o : Obj) : X.heap.size < (X.alloc o).drew.heap.size := by simp
end Go.Proofs.Ytabhjnpmmjmaiab
