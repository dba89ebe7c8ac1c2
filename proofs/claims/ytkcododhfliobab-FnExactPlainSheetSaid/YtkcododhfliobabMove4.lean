/- Sheets whose cells come from other places: the model's. Conditions: none beyond those of each theorem. -/
import Derived.Test.YtkcododhfliobabBu8
import Derived.Test.YtkcododhfliobabBu7
namespace Go.Proofs.Ytkcododhfliobab
open Go Ieee Go.RowKit
set_option linter.unusedVariables false

def GaveS (B : Nat) (w : World) (b : Bool) (wm hm : Int) (wb : Bool) (z0 z1 : List Nat) (r : Ending) (w' : World) : Prop :=
  ∃ (a0 a1 : Option Addr) (c0 c1 : Nat) (y0 y1 : List Nat), r = .returned (.tuple #[.agg #[.int .i64 (ifI b wm), .int .i64 (ifI b hm), .bool (ifB b wb), .slice a0 y0.length c0, .slice a1 y1.length c1], .bool b]) ∧ GotSheet B w w' (ifL b z0) (ifL b z1) a0 a1 y0 y1

def HasS (w : World) (b : Bool) (wm hm : Int) (wb : Bool) (z0 z1 : List Nat) (r : Ending) (w' : World) : Prop :=
  ∃ (a0 a1 : Option Addr) (c0 c1 : Nat) (y0 y1 : List Nat), r = .returned (.tuple #[.agg #[.int .i64 (ifI b wm), .int .i64 (ifI b hm), .bool (ifB b wb), .slice a0 y0.length c0, .slice a1 y1.length c1], .bool b]) ∧ HasSheet w w' (ifL b z0) (ifL b z1) a0 a1 y0 y1

theorem GotSheet.has {w w' : World} {m0 m1 : List (Option Nat)} {a0 a1 : Option Addr} {y0 y1 : List Nat} (h : GotSheet w.heap.size w w' m0 m1 a0 a1 y0 y1) : HasSheet w w' m0 m1 a0 a1 y0 y1 := ⟨h.o0.row, h.o1.row, h.s0, h.s1, h.below⟩

theorem GaveS.has {w w' : World} {b : Bool} {wm hm : Int} {wb : Bool} {z0 z1 : List Nat} {r : Ending} (h : GaveS w.heap.size w b wm hm wb z0 z1 r w') : HasS w b wm hm wb z0 z1 r w' := by
  obtain ⟨a0, a1, c0, c1, y0, y1, hr, hg⟩ := h
  exact ⟨a0, a1, c0, c1, y0, y1, hr, hg.has⟩

end Go.Proofs.Ytkcododhfliobab
