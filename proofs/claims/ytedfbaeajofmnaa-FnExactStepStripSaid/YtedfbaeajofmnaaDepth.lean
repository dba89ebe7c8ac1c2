/- The depth of a cell: the program's and the model's. Conditions: none beyond those of each theorem. -/
import Derived.Test.YtedfbaeajofmnaaBu5
import Derived.Test.YtedfbaeajofmnaaBu14
namespace Go.Proofs.Ytedfbaeajofmnaa
open Go Ieee Go.RowKit
set_option linter.unusedVariables false

def mn2 (a b : Int) : Int := if a < b then a else b
def depI (wd hi x y : Int) : Int := mn2 (mn2 x (wd - 1 - x)) (mn2 y (hi - 1 - y))

theorem mn2_le (a b : Int) : mn2 a b ≤ a ∧ mn2 a b ≤ b ∧ (mn2 a b = a ∨ mn2 a b = b) := by
  unfold mn2; split <;> omega

theorem dep_in {wd hi x y : Int} (h : 0 ≤ x ∧ x < wd ∧ 0 ≤ y ∧ y < hi) : 0 ≤ depI wd hi x y ∧ depI wd hi x y ≤ x ∧ depI wd hi x y ≤ y := by
  unfold depI
  have h1 := mn2_le x (wd - 1 - x); have h2 := mn2_le y (hi - 1 - y); have h3 := mn2_le (mn2 x (wd - 1 - x)) (mn2 y (hi - 1 - y))
  omega

@[go_sem] theorem run_min_int4 {P : Program} (w : World) (ts : Array TypeId) (t : TypeId) (k k1 k2 k3 : IntKind) (a b c d : Int) : (Builtin.min_ ts t #[.int k a, .int k1 b, .int k2 c, .int k3 d]).run P w = .ok (.int k (mn2 (mn2 a c) (mn2 b d))) w := by
  have e : mn2 (mn2 a c) (mn2 b d) = (if d < (if c < (if b < a then b else a) then c else (if b < a then b else a)) then d else (if c < (if b < a then b else a) then c else (if b < a then b else a))) := by
    unfold mn2; repeat' split
    all_goals omega
  simp [Builtin.min_, Builtin.min2, e]

theorem specMin (a b : Int) (w : World) : Calls Try.prog 144 #[.int .i64 a, .int .i64 b] w fun e w' => e = .returned (.int .i64 (mn2 a b)) ∧ w = w' := by
  by_cases h : a < b
  · rw [show mn2 a b = a from if_pos h]
    go_enter Try.func144, Try.ntmps144
    go_wp2
    go_ret
    exact ⟨rfl, rfl⟩
  · rw [show mn2 a b = b from if_neg h]
    go_enter Try.func144, Try.ntmps144
    go_wp2
    go_ret
    exact ⟨rfl, rfl⟩

theorem quietMin (a b : Int) (w : World) (n : Nat) : Calls Try.prog 144 #[.int .i64 a, .int .i64 b] (w.drewN n) fun e w'' => e = .returned (.int .i64 (mn2 a b)) ∧ ∃ m, w'' = w.drewN m := quietS (specMin a b _)

end Go.Proofs.Ytedfbaeajofmnaa
