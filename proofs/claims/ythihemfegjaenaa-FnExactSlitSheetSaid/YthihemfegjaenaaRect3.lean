/- Rects of a sheet: the model's functions. Conditions: none beyond those of each theorem. -/
import Derived.Test.YthihemfegjaenaaRect
import Derived.Test.YthihemfegjaenaaBu7
namespace Go.Proofs.Ythihemfegjaenaa
open Go Ieee Go.RowKit
set_option linter.unusedVariables false

theorem quietC (g : Nat) (wd hi x y : Int) (wb : Bool) (v3 v4 : Value) (c : Bool) (w : World) (n : Nat) (hc : cellB wd hi x y = c) (X : Blk w g #[.int .i64 wd, .int .i64 hi, .bool wb, v3, v4] 29) (s1 : 3 ≤ wd) (s2 : wd ≤ 16) (s3 : 3 ≤ hi) (s4 : hi ≤ 16) :
    Calls Try.prog 51 #[.pointer (some ⟨g, 0, none⟩), .int .i64 x, .int .i64 y] (w.drewN n) fun e w'' => e = .returned (.bool c) ∧ ∃ m, w'' = w.drewN m := by
  subst hc
  exact quietS (specCell g wd hi x y wb v3 v4 _ (X.drewN _) s1 s2 s3 s4)

theorem quietI (a lo hi : Int) (c : Bool) (w : World) (n : Nat) (hc : decide (lo ≤ a ∧ a ≤ hi) = c) : Calls Try.prog 52 #[.int .i64 a, .int .i64 lo, .int .i64 hi] (w.drewN n) fun e w'' => e = .returned (.bool c) ∧ ∃ m, w'' = w.drewN m := by
  subst hc
  exact quietS (l00In_any a lo hi _)

end Go.Proofs.Ythihemfegjaenaa
