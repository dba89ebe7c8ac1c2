/- Floats that are integers: counted up and down. Conditions: none beyond those of each theorem. -/
import Derived.Test.YtdcpkndkehdhiadFl10
namespace Go.Proofs.Ytdcpkndkehdhiad
open Go Ieee

def intF (n : Int) : Nat := floatOfInt .f64 n

theorem intF_table : ∀ i : Nat, i < 2060 → fop .add .f64 (some (intF ((i : Int) - 1030))) (some 4607182418800017408) = some (intF ((i : Int) - 1029)) ∧ fop .sub .f64 (some (intF ((i : Int) - 1029))) (some 4607182418800017408) = some (intF ((i : Int) - 1030)) := by decide +kernel

theorem intF_up {n : Int} (h1 : -1030 ≤ n) (h2 : n < 1030) : fop .add .f64 (some (intF n)) (some 4607182418800017408) = some (intF (n + 1)) := by
  have := (intF_table (n + 1030).toNat (by omega)).1
  rw [show (((n + 1030).toNat : Nat) : Int) - 1030 = n by omega, show (((n + 1030).toNat : Nat) : Int) - 1029 = n + 1 by omega] at this
  exact this
theorem intF_down {n : Int} (h1 : -1030 < n) (h2 : n ≤ 1030) : fop .sub .f64 (some (intF n)) (some 4607182418800017408) = some (intF (n - 1)) := by
  have := (intF_table (n + 1029).toNat (by omega)).2
  rw [show (((n + 1029).toNat : Nat) : Int) - 1030 = n - 1 by omega, show (((n + 1029).toNat : Nat) : Int) - 1029 = n by omega] at this
  exact this

theorem intF_canon_table : ∀ i : Nat, i < 2061 → canon .f64 (intF ((i : Int) - 1030)) = some (intF ((i : Int) - 1030)) ∧ intF ((i : Int) - 1030) < 2 ^ 64 := by decide +kernel
theorem intF_canon {n : Int} (h1 : -1030 ≤ n) (h2 : n ≤ 1030) : canon .f64 (intF n) = some (intF n) ∧ intF n < 2 ^ 64 := by
  have := intF_canon_table (n + 1030).toNat (by omega)
  rw [show (((n + 1030).toNat : Nat) : Int) - 1030 = n by omega] at this
  exact this

end Go.Proofs.Ytdcpkndkehdhiad
