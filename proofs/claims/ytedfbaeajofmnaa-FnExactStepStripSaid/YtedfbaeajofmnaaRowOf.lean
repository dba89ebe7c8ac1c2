/- Rows of a field: the program's and the model's. Conditions: none beyond those of each theorem. -/
import Derived.Test.YtedfbaeajofmnaaBu7
import Derived.Test.YtedfbaeajofmnaaBu5
import Derived.Test.YtedfbaeajofmnaaBu14
namespace Go.Proofs.Ytedfbaeajofmnaa
open Go Ieee Go.RowKit
set_option linter.unusedVariables false

def rowB (wd hi : Int) (wb : Bool) (xs ys e x y : List Nat) (v : Int) : Bool := fieldB wd hi wb xs ys e x y && cellB wd hi 0 v
def rowF (wd v : Int) (i : Nat) : Nat := (wd * v).toNat + i

theorem row_part {w : World} {b off q m : Nat} {e : List Nat} (h : RowV w (some ⟨b, off, none⟩) (fvals e)) (hq : q + m ≤ e.length) : RowV w (some ⟨b, off + q, none⟩) (fvals (placed (fun i => q + i) m e)) := by
  intro i u hu
  have hi : i < m := by
    have := (List.getElem?_eq_some_iff.1 hu).1
    rw [fvals_length, placed_length] at this; exact this
  rw [fvals_get (by rw [placed_length]; exact hi)] at hu
  obtain ⟨b', o', e', hc⟩ := h (q + i) _ (fvals_get (show q + i < e.length by omega))
  cases e'
  refine ⟨b, off + q, rfl, ?_⟩
  rw [show off + q + i = off + (q + i) by omega, hc, ← hu]
  simp [placed, List.getElem?_eq_getElem (show q + i < e.length by omega)]

theorem cellB_row {wd hi v : Int} (h : 3 ≤ wd) : cellB wd hi 0 v = decide (0 ≤ v ∧ v ≤ hi - 1) := by
  unfold cellB; rw [decide_eq_true (by omega)]; rfl

end Go.Proofs.Ytedfbaeajofmnaa
