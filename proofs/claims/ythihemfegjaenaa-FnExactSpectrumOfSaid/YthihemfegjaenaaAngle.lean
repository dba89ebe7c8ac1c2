/- The angle of a point as a function on floats up to a NaN's bits, how great it can be, and the walks of the program's parts of it. Conditions: none beyond those of each theorem. -/
import Derived.Test.YthihemfegjaenaaSine4
import Derived.Test.YthihemfegjaenaaFl9
namespace Go.Proofs.Ythihemfegjaenaa
open Go Ieee Go.RowKit

def c8 : Nat := 4620693217682128896
def oddA (i : Nat) : Nat := floatOfInt .f64 (15 - 2 * (i : Int))
def invA (i : Nat) : Option Nat := fop .quo .f64 (some c1) (some (oddA i))
def polyA (u : Option Nat) : Nat → Option Nat
  | 0 => some 0
  | i + 1 => fop .sub .f64 (invA i) (fop .mul .f64 u (polyA u i))
def halves (t : Option Nat) : Nat → Option Nat
  | 0 => t
  | i + 1 => halfT (halves t i)
def closing (t : Option Nat) : Option Nat := fop .quo .f64 (fop .mul .f64 (some c8) (fop .mul .f64 t (polyA (fop .mul .f64 t t) 8))) (some cTau)
def eighthO (t : Option Nat) : Option Nat := closing (halves t 3)
def quarterO (a b : Nat) : Option Nat := if gtO (some a) (some b) then fop .sub .f64 (some cQuarter) (eighthO (fop .quo .f64 (some b) (some a))) else eighthO (fop .quo .f64 (some a) (some b))

theorem inv_some' : ∀ i, i < 8 → fop .quo .f64 (some c1) (some (oddA i)) = some ((fop .quo .f64 (some c1) (some (oddA i))).getD 0) ∧ rung Ieee.double ((fop .quo .f64 (some c1) (some (oddA i))).getD 0) ≤ 1023 * 2 ^ 52 := by decide +kernel
theorem bd_inv (i : Nat) (h : i < 8) : Bd 1023 (invA i) := fun v hv => by
  obtain ⟨h1, h2⟩ := inv_some' i h
  unfold invA at hv
  rw [hv] at h2
  exact h2

theorem bd_polyA {u : Option Nat} (hu : Bd 1035 u) : ∀ i, i ≤ 8 → Bd (1010 + 15 * i) (polyA u i)
  | 0, _ => fun v hv => by cases hv; exact Nat.zero_le _
  | i + 1, hi => by
    have ih := bd_polyA hu i (by omega)
    have h1 : Bd (1024 + 15 * i) (fop .mul .f64 u (polyA u i)) := Bd.mul hu ih (by omega) (by omega) (by omega) (by omega) (by omega) (by omega) (by omega)
    have h3 := Bd.sub ((bd_inv i (by omega)).mono (q' := 1024 + 15 * i) (by omega)) h1 (by omega) (by omega)
    exact h3.mono (by omega)

theorem bd_closing {t : Option Nat} (h : Bd 1028 t) : Bd 1141 (closing t) := by
  have hu : Bd 1035 (fop .mul .f64 t t) := Bd.mul h h (by omega) (by omega) (by omega) (by omega) (by omega) (by omega) (by omega)
  have hp := bd_polyA hu 8 (Nat.le_refl _)
  have h1 : Bd 1137 (fop .mul .f64 t (polyA (fop .mul .f64 t t) 8)) := Bd.mul h hp (by omega) (by omega) (by omega) (by omega) (by omega) (by omega) (by omega)
  have h8 : Bd 1026 (some c8) := fun v hv => by cases hv; decide
  have h2 : Bd 1142 (fop .mul .f64 (some c8) (fop .mul .f64 t (polyA (fop .mul .f64 t t) 8))) := Bd.mul h8 h1 (by omega) (by omega) (by omega) (by omega) (by omega) (by omega) (by omega)
  exact Bd.quo (c := 1025) h2 (by unfold isFin; decide) (by decide) (by omega) (by omega) (by omega) (by omega) (by omega) (by omega)

theorem bd_eighth {t : Option Nat} (h : Bd 1025 t) : Bd 1141 (eighthO t) :=
  bd_closing (bd_half (bd_half (bd_half h (by omega) (by omega)) (by omega) (by omega)) (by omega) (by omega))

theorem bd_quarter {a b : Nat} (ha : Bd 1025 (fop .quo .f64 (some b) (some a))) (hb : Bd 1025 (fop .quo .f64 (some a) (some b))) : Bd 1142 (quarterO a b) := by
  unfold quarterO
  split
  · have hq : Bd 1141 (some cQuarter) := fun v hv => by cases hv; decide
    exact Bd.sub hq (bd_eighth ha) (by omega) (by omega)
  · exact (bd_eighth hb).mono (by omega)

/-! ### The program's eighth -/

def fpos : Value → Nat
  | .float _ b => if b < 2 ^ 63 then b else 0
  | _ => 0

theorem oddA_facts : ∀ i, i < 8 → fop .sub .f64 (some (oddA i)) (some 4611686018427387904) = some (oddA (i + 1)) ∧
    (FloatKind.f64.format.order (oddA i) 4607182418800017408 == some .gt || FloatKind.f64.format.order (oddA i) 4607182418800017408 == some .eq) = true ∧ fpos (.float .f64 (oddA (i + 1))) < fpos (.float .f64 (oddA i)) ∧ canon .f64 (oddA i) = some (oddA i) ∧ oddA i < 2 ^ 64 := by decide +kernel
theorem oddA_end : (FloatKind.f64.format.order (oddA 8) 4607182418800017408 == some .gt || FloatKind.f64.format.order (oddA 8) 4607182418800017408 == some .eq) = false := by decide +kernel
theorem oddA_start : (4624633867356078080 : Nat) = oddA 0 := by decide +kernel

end Go.Proofs.Ythihemfegjaenaa
