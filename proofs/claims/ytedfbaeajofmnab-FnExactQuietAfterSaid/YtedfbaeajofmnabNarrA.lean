/- The size of a widened number, narrowed, is the number's size. Conditions: none beyond those of each theorem. -/
import Derived.Test.YtedfbaeajofmnabBu10
namespace Go.Proofs.Ytedfbaeajofmnab
open Go Ieee Go.RowKit
set_option linter.unusedVariables false

theorem narrow_size {z v : Nat} (hn : isN .f32 z = false) (hv : canon .f64 v = fconv .f32 .f64 (canon .f32 z)) : floatToFloatBits .f64 (rung Ieee.double v) .f32 = some (rung Ieee.single z) := by
  obtain ⟨v1, _, v3, v4⟩ := widen_facts hv hn
  have e1 : rung Ieee.single z ≤ Ieee.single.infRung := isN_false hn
  have e2 : rung Ieee.double v ≤ Ieee.double.infRung := isN_false v1
  have hR : rung Ieee.double (rung Ieee.double v) = rung Ieee.double v := rung_rung _ _
  have hS : sgn Ieee.double (rung Ieee.double v) = false := sgn_rung _ _
  by_cases hf : rung Ieee.single z < Ieee.single.infRung
  · have hm := widen_mag (q := 925) rfl hv hf
    have hfd := v3.2 hf
    generalize rung Ieee.double v = R at *
    generalize rung Ieee.single z = r at *
    unfold floatToFloatBits
    rw [if_neg (by decide), show FloatKind.f64.decode R = Ieee.double.read R from rfl]
    rcases read_cases Ieee.double R with ⟨h1, m, p, e, hmp⟩ | ⟨h1, _, e⟩ | ⟨h1, e⟩ | h1
    · rw [e, hS]
      simp only
      rw [hR] at hmp
      have hnw : (FloatKind.f32.format.nearest false m (Ieee.double.leastPlace + (p : Int))) = r := by
        show Ieee.single.nearest false m (Ieee.double.leastPlace + (p : Int)) = r
        by_cases h0 : m = 0
        · subst h0
          rw [Nat.zero_mul] at hmp
          have : R = 0 := by
            rcases Nat.eq_zero_or_pos R with a | a
            · exact a
            · have := (magOf_lt_iff Ieee.double).2 a
              rw [magOf_zero, ← hmp] at this
              exact absurd this (Nat.lt_irrefl 0)
          have hr0 : r = 0 := v4.1 this
          subst hr0
          rfl
        · have hr0 : r ≠ 0 := fun h => by
            have := v4.2 h
            subst this
            rw [magOf_zero] at hmp
            rcases Nat.mul_eq_zero.1 hmp with a | a
            · exact h0 a
            · exact absurd a (by have := Nat.two_pow_pos p; omega)
          have hro : rungOf Ieee.single m (Ieee.double.leastPlace + (p : Int)) = r := by
            rw [← rungOf_scale Ieee.single h0 p Ieee.double.leastPlace, hmp, hm]
            have hmg : magOf Ieee.single r ≠ 0 := fun h => by
              have := (magOf_lt_iff Ieee.single).2 (Nat.pos_of_ne_zero hr0)
              rw [magOf_zero, h] at this
              exact absurd this (Nat.lt_irrefl 0)
            rw [rungOf_scale Ieee.single hmg 925 Ieee.double.leastPlace]
            exact rungOf_mag Ieee.single hr0
          rw [nearest_rung Ieee.single false h0, hro, Nat.min_eq_left e1]
          exact word_false r
      have hen : FloatKind.f32.encode (.number false m (Ieee.double.leastPlace + (p : Int))) = r := hnw
      rw [hen]
      have hrr : rung Ieee.single r = r := Nat.mod_eq_of_lt (Nat.lt_of_lt_of_le hf (by decide))
      have hni : (FloatKind.f32.decode r).isInfinity = false := by
        show (Ieee.single.read r).isInfinity = false
        rcases read_cases Ieee.single r with ⟨_, m, p, e, _⟩ | ⟨h1, _, e⟩ | ⟨h1, e⟩ | h1
        · rw [e]; rfl
        · rw [hrr] at h1; omega
        · rw [hrr] at h1; omega
        · exact absurd h1 (by decide)
      rw [hni]; rfl
    · rw [hR] at h1; omega
    · rw [hR] at h1; omega
    · exact absurd h1 (by decide)
  · have er : rung Ieee.single z = Ieee.single.infRung := by omega
    have ed : rung Ieee.double v = Ieee.double.infRung := by
      have : ¬ rung Ieee.double v < Ieee.double.infRung := fun h => hf (v3.1 h)
      omega
    rw [er, ed]
    rfl

theorem size_fits {z v : Nat} (hn : isN .f32 z = false) (hv : canon .f64 v = fconv .f32 .f64 (canon .f32 z)) : fits .f64 .f32 (rung Ieee.double v) := .inr (.inr (by rw [narrow_size hn hv]; rfl))
theorem size_conv {z v : Nat} (hn : isN .f32 z = false) (hv : canon .f64 v = fconv .f32 .f64 (canon .f32 z)) : fconv .f64 .f32 (canon .f64 (rung Ieee.double v)) = some (rung Ieee.single z) := by
  have h1 : isN .f64 (rung Ieee.double v) = false := by
    obtain ⟨v1, _⟩ := widen_facts hv hn
    exact isN_of_le (k := .f64) (by show rung Ieee.double (rung Ieee.double v) ≤ _; rw [rung_rung]; exact isN_false v1)
  rw [canon_of_not h1]
  exact narrow_size hn hv

end Go.Proofs.Ytedfbaeajofmnab
