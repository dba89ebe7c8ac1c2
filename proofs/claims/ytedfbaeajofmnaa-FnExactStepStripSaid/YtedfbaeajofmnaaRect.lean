/- Rects of a sheet: the program's test and the model's. Conditions: none beyond those of each theorem. -/
import Derived.Test.YtedfbaeajofmnaaCost
import Derived.Test.YtedfbaeajofmnaaBu5
import Derived.Test.YtedfbaeajofmnaaBu14
import Derived.Test.YtedfbaeajofmnaaCallV
import Derived.Laws.StructEq
namespace Go.Proofs.Ytedfbaeajofmnaa
open Go Ieee Go.RowKit
set_option linter.unusedVariables false

def clI (n lo hi : Int) : Int := if hi < (if n < lo then lo else n) then hi else (if n < lo then lo else n)
def rectB (wd hi rx ry rw rh : Int) : Bool := cellB wd hi rx ry && (decide (1 ≤ rw ∧ rw ≤ wd - rx) && decide (1 ≤ rh ∧ rh ≤ hi - ry))
def isRectB (wd hi : Int) (xs ys : List Nat) (rx ry rw rh : Int) : Bool := validB wd hi xs ys && rectB wd hi rx ry rw rh
/-- a cell is one of a rect -/
def hasR (rx ry rw rh x y : Int) : Bool := decide (rx ≤ x ∧ x < rx + rw) && decide (ry ≤ y ∧ y < ry + rh)

theorem rect_in {wd hi rx ry rw rh : Int} (h : rectB wd hi rx ry rw rh = true) : 0 ≤ rx ∧ 0 ≤ ry ∧ 1 ≤ rw ∧ rw ≤ wd - rx ∧ 1 ≤ rh ∧ rh ≤ hi - ry := by
  unfold rectB cellB at h
  simp only [Bool.and_eq_true, decide_eq_true_eq] at h
  omega

theorem clamp_eq {wd hi rx ry rw rh : Int} (s1 : 3 ≤ wd) (s3 : 3 ≤ hi) : ((rx == clI rx 0 (wd - 1)) && ((ry == clI ry 0 (hi - 1)) && ((rw == clI rw 1 (wd - clI rx 0 (wd - 1))) && (rh == clI rh 1 (hi - clI ry 0 (hi - 1)))))) = rectB wd hi rx ry rw rh := by
  have b : ∀ a c : Int, (a == c) = decide (a = c) := fun a c => by by_cases h : a = c <;> simp [h]
  unfold rectB cellB
  simp only [b, ← Bool.decide_and, decide_eq_decide]
  have hx : rx = clI rx 0 (wd - 1) ↔ (0 ≤ rx ∧ rx ≤ wd - 1) := (by unfold clI; (repeat' split) <;> omega)
  have hy : ry = clI ry 0 (hi - 1) ↔ (0 ≤ ry ∧ ry ≤ hi - 1) := (by unfold clI; (repeat' split) <;> omega)
  have cx : 0 ≤ clI rx 0 (wd - 1) ∧ clI rx 0 (wd - 1) ≤ wd - 1 := (by unfold clI; (repeat' split) <;> omega)
  have cy : 0 ≤ clI ry 0 (hi - 1) ∧ clI ry 0 (hi - 1) ≤ hi - 1 := (by unfold clI; (repeat' split) <;> omega)
  generalize clI rx 0 (wd - 1) = p at *
  generalize clI ry 0 (hi - 1) = q at *
  have hw : rw = clI rw 1 (wd - p) ↔ (1 ≤ rw ∧ rw ≤ wd - p) := (by unfold clI; (repeat' split) <;> omega)
  have hh : rh = clI rh 1 (hi - q) ↔ (1 ≤ rh ∧ rh ≤ hi - q) := (by unfold clI; (repeat' split) <;> omega)
  omega

def SpCl (f : FuncId) (args : Array Value) (v : Value) : Prop := ∃ a b c, args = #[.int .i64 a, .int .i64 b, .int .i64 c] ∧ v = .int .i64 (clI a b c)
theorem spCl {f : FuncId} {a b c : Int} {v : Value} (h : SpCl f #[.int .i64 a, .int .i64 b, .int .i64 c] v) : v = .int .i64 (clI a b c) := by
  obtain ⟨a', b', c', h1, h2⟩ := h
  simp at h1
  obtain ⟨rfl, rfl, rfl⟩ := h1
  exact h2
theorem toCl {f : FuncId} {a b c : Int} : SpCl f #[.int .i64 a, .int .i64 b, .int .i64 c] (.int .i64 (clI a b c)) := ⟨a, b, c, rfl, rfl⟩
theorem cl_in {n lo hi : Int} (h : lo ≤ hi) : lo ≤ clI n lo hi ∧ clI n lo hi ≤ hi := by
  unfold clI; (repeat' split) <;> omega

end Go.Proofs.Ytedfbaeajofmnaa
