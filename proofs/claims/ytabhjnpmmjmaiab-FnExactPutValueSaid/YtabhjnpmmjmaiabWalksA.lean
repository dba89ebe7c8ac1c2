/- The walks of the laws on the bits of a number: each law returns true and writes nothing that was there. Conditions: none beyond those of each theorem. -/
import Derived.Test.YtabhjnpmmjmaiabBits
import Derived.Below
import Derived.WalkSmall
namespace Go.Proofs.Ytabhjnpmmjmaiab
open Go Ieee Go.RowKit

theorem specSame (a b : Nat) (w : World) (ha : a < 2 ^ 32) (hb : b < 2 ^ 32) : Calls Try.prog 94 #[.float .f32 a, .float .f32 b] w fun e w' => e = .returned (.bool (bitsOf a == bitsOf b)) ∧ w = w' := by
  go_enter Try.func94, Try.ntmps94
  go_wp2_with fail
  refine (specBits _ _ ha).mono ?_; rintro e w' ⟨rfl, rfl⟩
  go_wp2_with fail
  refine (specBits _ _ hb).mono ?_; rintro e w' ⟨rfl, rfl⟩
  go_wp2
  go_ret
  exact ⟨rfl, rfl⟩

theorem implSame (a b : Nat) (w : World) (ha : a < 2 ^ 32) (hb : b < 2 ^ 32) : Calls Try.prog 96 #[.float .f32 a, .float .f32 b] w fun e w' => e = .returned (.bool (bitsOf a == bitsOf b)) ∧ ∃ n, w' = w.drewN n := by
  go_enter Try.func96, Try.ntmps96
  go_wp2_with fail
  refine (implBits _ _ ha).mono ?_; rintro e w' ⟨rfl, n, rfl⟩
  go_wp2_with fail
  refine (implBits _ _ hb).mono ?_; rintro e w' ⟨rfl, m, rfl⟩
  go_wp2
  go_ret
  exact ⟨rfl, _, rfl⟩

theorem below_drawn (w : World) (n : Nat) : Below w.heap.size w (w.drewN n) := below_drewN (Below.refl _ _) n

end Go.Proofs.Ytabhjnpmmjmaiab
