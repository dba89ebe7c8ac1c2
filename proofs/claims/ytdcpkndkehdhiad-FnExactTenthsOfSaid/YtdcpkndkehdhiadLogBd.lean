/- How great the logarithm can be, in tenths of decibels. Conditions: none beyond those of each theorem. -/
import Derived.Test.YtdcpkndkehdhiadLog
namespace Go.Proofs.Ytdcpkndkehdhiad
open Go Ieee

theorem Bd.add {a b : Option Nat} {p : Nat} (ha : Bd p a) (hb : Bd p b) (hp : 1 ≤ p) (hp2 : p ≤ 2045) : Bd (p + 1) (fop .add .f64 a b) := by
  cases a with
  | none => exact Bd.none _
  | some x =>
  cases b with
  | none => exact Bd.none _
  | some y =>
  intro v hv
  rw [add_eq (ha.isFin' (by omega)) (hb.isFin' (by omega))] at hv
  injection hv with hv
  rw [← hv]
  have e0 : FloatKind.f64.format = Ieee.double := rfl
  rw [e0]
  by_cases h0 : sv Ieee.double x + sv Ieee.double y = 0
  · rw [if_pos h0, rung_word _ _ (by decide)]; exact Nat.zero_le _
  · rw [if_neg h0]
    have mono : ∀ r : Nat, r ≤ p * 2 ^ 52 → magOf Ieee.double r ≤ magOf Ieee.double (p * 2 ^ 52) := fun r hr => by
      rcases Nat.lt_or_eq_of_le hr with q | q
      · exact Nat.le_of_lt (magOf_lt _ q)
      · rw [q]; exact Nat.le_refl _
    have m1 := mono _ (ha x rfl)
    have m2 := mono _ (hb y rfl)
    obtain ⟨p', rfl⟩ : ∃ p', p = p' + 1 := ⟨p - 1, by omega⟩
    have e1 := magOf_pow p'
    have e2 := magOf_pow (p' + 1)
    rw [Nat.pow_succ 2 p', ← Nat.mul_assoc, ← e1] at e2
    have hT : (sv Ieee.double x + sv Ieee.double y).natAbs ≤ magOf Ieee.double ((p' + 1 + 1) * 2 ^ 52) := by
      rw [e2]
      clear e1 e2 mono hv
      unfold sv
      generalize magOf Ieee.double (rung Ieee.double x) = A at *
      generalize magOf Ieee.double (rung Ieee.double y) = B at *
      generalize magOf Ieee.double ((p' + 1) * 2 ^ 52) = M at *
      split <;> split <;> omega
    exact (round_units Ieee.double _ h0 (by rw [dinf]; omega) hT).1

theorem add_comm_fin {x y : Nat} (hx : isFin .f64 x) (hy : isFin .f64 y) : fop .add .f64 (some x) (some y) = fop .add .f64 (some y) (some x) := by
  rw [add_eq hx hy, add_eq hy hx, Int.add_comm, Bool.and_comm]

theorem mag_near : ∃ A B C D : Nat, A = 1023 * 2 ^ 52 ∧ B = 1022 * 2 ^ 52 ∧ C = 4604930618986332160 ∧ D = 4609434218613702656 ∧ magOf Ieee.double D ≤ magOf Ieee.double A + magOf Ieee.double B ∧ magOf Ieee.double A ≤ magOf Ieee.double C + magOf Ieee.double B :=
  ⟨1023 * 2 ^ 52, 1022 * 2 ^ 52, 4604930618986332160, 4609434218613702656, rfl, rfl, rfl, rfl, by decide +kernel⟩

theorem abs_near {X A B C D : Nat} (h1 : C ≤ X) (h2 : X ≤ D) (g1 : D ≤ A + B) (g2 : A ≤ C + B) : ((X : Int) - A).natAbs ≤ B := by omega

theorem bd_less {x : Nat} (h1 : 4604930618986332160 ≤ x) (h2 : x < 4609434218613702656) : ∀ v, fop .sub .f64 (some x) (some c1) = some v → rung Ieee.double v ≤ 1022 * 2 ^ 52 := by
  obtain ⟨f1, f2, f3⟩ := pos_fin (r := x) (by omega)
  have hs : sgn Ieee.double x = false := by
    unfold sgn
    rw [show Ieee.double.signWeight = 2 ^ 63 from rfl, Nat.div_eq_of_lt (by omega)]; rfl
  obtain ⟨A, B, C, D, hA, hB, hC, hD, g1, g2⟩ := mag_near
  have s1 : sv Ieee.double c1 = magOf Ieee.double A := by unfold sv; rw [c1_facts.1, c1_facts.2, hA]; rfl
  have s2 : sv Ieee.double x = magOf Ieee.double x := by unfold sv; rw [hs, f3]; rfl
  have hT := abs_near (mag_mono (show C ≤ x by omega)) (mag_mono (show x ≤ D by omega)) g1 g2
  rw [← hB]
  intro v hv
  rw [sub_eq f1 c1_fin] at hv
  injection hv with hv
  rw [← hv]
  have e0 : FloatKind.f64.format = Ieee.double := rfl
  rw [e0, s1, s2]
  by_cases h0 : (magOf Ieee.double x : Int) - magOf Ieee.double A = 0
  · rw [if_pos h0, rung_word _ _ (by decide)]; exact Nat.zero_le _
  · rw [if_neg h0]
    exact (round_units Ieee.double _ h0 (by rw [dinf]; omega) hT).1

theorem bd_ratio {x : Nat} (h1 : 4604930618986332160 ≤ x) (h2 : x < 4609434218613702656) : Bd 1023 (ratioO (some x)) := by
  obtain ⟨f1, f2, f3⟩ := pos_fin (r := x) (by omega)
  have hs : sgn Ieee.double x = false := by
    unfold sgn
    rw [show Ieee.double.signWeight = 2 ^ 63 from rfl, Nat.div_eq_of_lt (by omega)]; rfl
  obtain ⟨d, e4, s4, l4, b4⟩ := one_add hs (q := 1024) (by omega) (by omega) (by rw [f3]; omega)
  unfold ratioO
  rw [add_comm_fin f1 c1_fin, e4]
  exact Bd.quo (bd_less h1 h2) (fin_of b4 (by omega)) l4 (by omega) (by omega) (by omega) (by omega) (by omega) (by omega)

theorem inv_someL : ∀ i, i < 13 → rung Ieee.double ((fop .quo .f64 (some c1) (some (oddL i))).getD 0) ≤ 1023 * 2 ^ 52 := by decide +kernel
theorem bd_invL (i : Nat) (h : i < 13) : Bd 1023 (invL i) := fun v hv => by
  have h2 := inv_someL i h
  unfold invL at hv
  rw [hv] at h2
  exact h2

theorem bd_polyL {u : Option Nat} (hu : Bd 1023 u) : ∀ i, i ≤ 13 → Bd (1024 + i) (polyL u i)
  | 0, _ => fun v hv => by cases hv; exact Nat.zero_le _
  | i + 1, hi => by
    have ih := bd_polyL hu i (by omega)
    have ih' : Bd (1023 + i + 1) (polyL u i) := ih.mono (by omega)
    have h1 : Bd (1023 + i + 1) (fop .mul .f64 u (polyL u i)) := Bd.mul' (p := 1022) hu ih' (by omega) (by omega) (by omega) (by omega)
    have h3 := Bd.add ((bd_invL i (by omega)).mono (q' := 1023 + i + 1) (by omega)) h1 (by omega) (by omega)
    exact h3.mono (by omega)

theorem bd_series {s : Option Nat} (h : Bd 1023 s) : Bd 1038 (seriesO s) := by
  have hu : Bd 1023 (fop .mul .f64 s s) := Bd.mul' (p := 1022) (q := 1022) (r := 1022) h h (by omega) (by omega) (by omega) (by omega)
  have hp := bd_polyL hu 13 (Nat.le_refl _)
  have h1 : Bd 1037 (fop .mul .f64 s (polyL (fop .mul .f64 s s) 13)) := Bd.mul' (p := 1022) (q := 1036) (r := 1036) h hp (by omega) (by omega) (by omega) (by omega)
  have h2 : Bd 1024 (some 4611686018427387904) := fun v hv => by cases hv; decide
  exact Bd.mul' (p := 1023) (q := 1036) (r := 1037) h2 h1 (by omega) (by omega) (by omega) (by omega)

theorem intF_small : ∀ i : Nat, i < 2061 → rung Ieee.double (intF ((i : Int) - 1030)) ≤ 1034 * 2 ^ 52 := by decide +kernel

def tenO (r : Nat) : Option Nat := fop .add .f64 (fop .mul .f64 (logO r) (some 4631308968768463603)) (some cHalf)

theorem bd_ten {r : Nat} (h1 : 2 ^ 52 ≤ r) (h2 : r < 2046 * 2 ^ 52) : Bd 1046 (tenO r) := by
  obtain ⟨l1, l2, e1, e2⟩ := left_lt h1 h2
  have hs := bd_series (bd_ratio l1 l2)
  have hi : Bd 1034 (some (intF (expo r))) := fun v hv => by
    cases hv
    have := intF_small (expo r + 1030).toNat (by omega)
    rw [show (((expo r + 1030).toNat : Nat) : Int) - 1030 = expo r by omega] at this
    exact this
  have hl : Bd 1023 (some 4604418534313441775) := fun v hv => by cases hv; decide
  have h3 : Bd 1034 (fop .mul .f64 (some (intF (expo r))) (some 4604418534313441775)) := Bd.mul' (p := 1033) (q := 1022) (r := 1033) hi hl (by omega) (by omega) (by omega) (by omega)
  have h4 : Bd 1039 (logO r) := Bd.add hs (h3.mono (by omega)) (by omega) (by omega)
  have h5 : Bd 1029 (some 4631308968768463603) := fun v hv => by cases hv; decide
  have h6 : Bd 1045 (fop .mul .f64 (logO r) (some 4631308968768463603)) := Bd.mul' (p := 1038) (q := 1028) (r := 1044) h4 h5 (by omega) (by omega) (by omega) (by omega)
  have h7 : Bd 1045 (some cHalf) := fun v hv => by cases hv; decide
  exact Bd.add h6 h7 (by omega) (by omega)
end Go.Proofs.Ytdcpkndkehdhiad
