/- Mirrored, exchanged and shifted fields: the program's and the model's. Conditions: none beyond those of each theorem. -/
import Derived.Test.YtkcododhfliobabMirS
import Derived.Test.YtkcododhfliobabBu5
namespace Go.Proofs.Ytkcododhfliobab
open Go Ieee Go.RowKit
set_option linter.unusedVariables false

def GaveF (w : World) (b : Bool) (z0 z1 z2 : List Nat) (r : Ending) (w' : World) : Prop :=
  ∃ (a0 a1 a2 : Option Addr) (c0 c1 c2 : Nat) (y0 y1 y2 : List Nat), r = .returned (.tuple #[.agg #[.slice a0 y0.length c0, .slice a1 y1.length c1, .slice a2 y2.length c2], .bool b]) ∧ GotField w.heap.size w w' (ifL b z0) (ifL b z1) (ifL b z2) a0 a1 a2 y0 y1 y2

def OwnF (w : World) (b : Bool) (z0 z1 z2 : List Nat) (r : Ending) (w' : World) : Prop :=
  ∃ (a0 a1 a2 : Option Addr) (c0 c1 c2 : Nat) (y0 y1 y2 : List Nat), r = .returned (.tuple #[.agg #[.slice a0 y0.length c0, .slice a1 y1.length c1, .slice a2 y2.length c2], .bool b]) ∧ OwnField w w' (ifL b z0) (ifL b z1) (ifL b z2) a0 a1 a2 y0 y1 y2

theorem GaveF.own {w w' : World} {b : Bool} {z0 z1 z2 : List Nat} {r : Ending} (h : GaveF w b z0 z1 z2 r w') : OwnF w b z0 z1 z2 r w' := by
  obtain ⟨a0, a1, a2, c0, c1, c2, y0, y1, y2, hr, hg⟩ := h
  exact ⟨a0, a1, a2, c0, c1, c2, y0, y1, y2, hr, hg.own⟩

end Go.Proofs.Ytkcododhfliobab
