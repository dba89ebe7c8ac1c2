/- What functions with sheets answer. Conditions: none beyond those of each theorem. -/
import Derived.Test.YtedfbaeajofmnaaChg
import Derived.Test.YtedfbaeajofmnaaBu7
import Derived.Test.YtedfbaeajofmnaaBu15
namespace Go.Proofs.Ytedfbaeajofmnaa
open Go Ieee Go.RowKit
set_option linter.unusedVariables false

def GaveSh (w : World) (b : Bool) (wd hi : Int) (wb : Bool) (m0 m1 : List (Option Nat)) (r : Ending) (w' : World) : Prop :=
  ∃ (a0 a1 : Option Addr) (c0 c1 : Nat) (y0 y1 : List Nat), r = .returned (.tuple #[.agg #[.int .i64 (ifI b wd), .int .i64 (ifI b hi), .bool (ifB b wb), .slice a0 y0.length c0, .slice a1 y1.length c1], .bool b]) ∧ GotSheet w.heap.size w w' (ifO b m0) (ifO b m1) a0 a1 y0 y1
def HasSh (w : World) (b : Bool) (wd hi : Int) (wb : Bool) (m0 m1 : List (Option Nat)) (r : Ending) (w' : World) : Prop :=
  ∃ (a0 a1 : Option Addr) (c0 c1 : Nat) (y0 y1 : List Nat), r = .returned (.tuple #[.agg #[.int .i64 (ifI b wd), .int .i64 (ifI b hi), .bool (ifB b wb), .slice a0 y0.length c0, .slice a1 y1.length c1], .bool b]) ∧ HasSheet w w' (ifO b m0) (ifO b m1) a0 a1 y0 y1

theorem gave_no {w : World} {b : Bool} {wd hi : Int} {wb : Bool} {m0 m1 : List (Option Nat)} {r : Ending} {w' : World} (hb : b = false) (h : GaveSh w false wd hi wb m0 m1 r w') : GaveSh w b wd hi wb m0 m1 r w' := by subst hb; exact h
theorem has_no {w : World} {b : Bool} {wd hi : Int} {wb : Bool} {m0 m1 : List (Option Nat)} {r : Ending} {w' : World} (hb : b = false) (h : HasSh w false wd hi wb m0 m1 r w') : HasSh w b wd hi wb m0 m1 r w' := by subst hb; exact h
theorem gave_yes {w : World} {b : Bool} {wd hi : Int} {wb : Bool} {m0 m1 : List (Option Nat)} {a0 a1 : Option Addr} {c0 c1 n : Nat} {y0 y1 : List Nat} {w' : World} (hb : b = true) (h0 : y0.length = n) (h1 : y1.length = n) (h : GotSheet w.heap.size w w' m0 m1 a0 a1 y0 y1) :
    GaveSh w b wd hi wb m0 m1 (.returned (.tuple #[.agg #[.int .i64 wd, .int .i64 hi, .bool wb, .slice a0 n c0, .slice a1 n c1], .bool true])) w' := by
  subst hb; subst h0; exact ⟨a0, a1, c0, c1, y0, y1, by rw [h1]; rfl, h⟩
theorem has_yes {w : World} {b : Bool} {wd hi : Int} {wb : Bool} {m0 m1 : List (Option Nat)} {a0 a1 : Option Addr} {c0 c1 n : Nat} {y0 y1 : List Nat} {w' : World} (hb : b = true) (h0 : y0.length = n) (h1 : y1.length = n) (h : GotSheet w.heap.size w w' m0 m1 a0 a1 y0 y1) :
    HasSh w b wd hi wb m0 m1 (.returned (.tuple #[.agg #[.int .i64 wd, .int .i64 hi, .bool wb, .slice a0 n c0, .slice a1 n c1], .bool true])) w' := by
  subst hb; subst h0; exact ⟨a0, a1, c0, c1, y0, y1, by rw [h1]; rfl, h.o0.row, h.o1.row, h.s0, h.s1, h.below⟩

end Go.Proofs.Ytedfbaeajofmnaa
