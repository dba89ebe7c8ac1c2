/- Several texts in one: facts on floats, lists, memory and the functions that the theorems beside this text use. Conditions: none beyond those of each theorem. -/
import Derived.Test.YtkcododhfliobabBu0
import Derived.Below
import Derived.Test.YtkcododhfliobabBu2

set_option linter.unusedVariables false

section

namespace Go.Proofs.Ytkcododhfliobab
open Go Go.RowKit
set_option linter.unusedVariables false

def seedB (n : Int) : Bool := decide (0 ≤ n ∧ n ≤ 2147483647)
def nextF (n : Int) : Int := (1103515245 * n + 12345) % 2147483648

theorem nextF_in (n : Int) : 0 ≤ nextF n ∧ nextF n ≤ 2147483647 := by unfold nextF; omega

def nextV (n : Int) : Int := if seedB n then nextF n else 0

end Go.Proofs.Ytkcododhfliobab

end

section

namespace Go.Proofs.Ytkcododhfliobab
open Go Ieee Go.RowKit
set_option linter.unusedVariables false

def tickB (n : Int) : Bool := decide (0 ≤ n ∧ n ≤ 1000000)
def waveB (kd wt lg : Int) (tu : Nat) (sd : Int) : Bool := decide (0 ≤ kd ∧ kd ≤ 4) && (tickB wt && (decide (1 ≤ lg ∧ lg ≤ 1000000) && (finB .f32 tu && seedB sd)))

theorem waveB_parts {kd wt lg : Int} {tu : Nat} {sd : Int} (h : waveB kd wt lg tu sd = true) : (0 ≤ kd ∧ kd ≤ 4) ∧ (0 ≤ wt ∧ wt ≤ 1000000) ∧ (1 ≤ lg ∧ lg ≤ 1000000) ∧ finB .f32 tu = true ∧ (0 ≤ sd ∧ sd ≤ 2147483647) := by
  unfold waveB tickB seedB at h
  simp only [Bool.and_eq_true, decide_eq_true_eq] at h
  exact ⟨h.1, h.2.1, h.2.2.1, h.2.2.2.1, h.2.2.2.2⟩

end Go.Proofs.Ytkcododhfliobab

end

section

namespace Go.Proofs.Ytkcododhfliobab
open Go Ieee Go.RowKit
set_option linter.unusedVariables false

end Go.Proofs.Ytkcododhfliobab

end

section

namespace Go.Proofs.Ytkcododhfliobab
open Go Ieee Go.RowKit
set_option linter.unusedVariables false

def laterB (kd wt lg : Int) (tu : Nat) (sd by_ : Int) : Bool := waveB kd wt lg tu sd && (decide (-1000000 ≤ by_ ∧ by_ ≤ 1000000) && tickB (wt + by_))

theorem waveB_later {kd wt lg : Int} {tu : Nat} {sd by_ : Int} (h : waveB kd wt lg tu sd = true) : waveB kd (wt + by_) lg tu sd = tickB (wt + by_) := by
  unfold waveB at *
  simp only [Bool.and_eq_true] at h
  rw [h.1, h.2.2.1, h.2.2.2.1, h.2.2.2.2]
  simp

end Go.Proofs.Ytkcododhfliobab

end
