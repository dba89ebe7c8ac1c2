/- Zeros, ones and small parts of 32-bit floats. Conditions: none beyond those of each theorem. -/
import Derived.Test.YtedfbaeajofmnaaNear
import Derived.Test.YtedfbaeajofmnaaBu1
namespace Go.Proofs.Ytedfbaeajofmnaa
open Go Ieee Go.RowKit
set_option linter.unusedVariables false

theorem key_of_eq {x y : Nat} (h : FloatKind.f32.format.order x y = some .eq) : key FloatKind.f32.format x = key FloatKind.f32.format y := by
  rcases hx : isN .f32 x with _ | _
  · rcases hy : isN .f32 y with _ | _
    · have h1 := cmp_eq .f32 hx hy
      rw [h] at h1
      exact of_decide_eq_true h1.symm
    · rw [order_nan_right hy] at h; cases h
  · rw [order_nan_left hx] at h; cases h

theorem key_val (x : Nat) : key FloatKind.f32.format x = if x / 2147483648 % 2 == 1 then -((x % 2147483648 : Nat) : Int) else ((x % 2147483648 : Nat) : Int) := rfl

theorem same_one {x : Nat} (hx : x < 2 ^ 32) (h : FloatKind.f32.format.order x 1065353216 = some .eq) : x = 1065353216 := by
  have h1 := key_of_eq h
  rw [key_val, key_val] at h1
  have h2 : x / 2147483648 % 2 = 0 ∨ x / 2147483648 % 2 = 1 := by omega
  rcases h2 with h2 | h2
  · rw [if_neg (by rw [h2]; decide), if_neg (by decide)] at h1
    omega
  · rw [if_pos (by rw [h2]; rfl), if_neg (by decide)] at h1
    omega

theorem nz_zero {x : Nat} (hx : x < 2 ^ 32) (h : nzB x = false) : x = 0 ∨ x = 2147483648 := by
  have h0 : FloatKind.f32.format.order x 0 = some .eq := by
    unfold nzB at h; simpa using h
  have h1 := key_of_eq h0
  rw [key_val, key_val] at h1
  have h2 : x / 2147483648 % 2 = 0 ∨ x / 2147483648 % 2 = 1 := by omega
  rcases h2 with h2 | h2
  · rw [if_neg (by rw [h2]; decide), if_neg (by decide)] at h1
    omega
  · rw [if_pos (by rw [h2]; rfl), if_neg (by decide)] at h1
    omega

theorem part_zeros : ∀ w ∈ List.range 17, ∀ c ∈ List.range 17, 1 ≤ w → c ≤ w → fop .mul .f32 (some 0) (partC w c) = some 0 ∧ fop .mul .f32 (some 2147483648) (partC w c) = some 2147483648 := by
  decide +kernel
end Go.Proofs.Ytedfbaeajofmnaa
