/- Bounds on the angle of a point: sums with 1, roots, quotients. Conditions: none beyond those of each theorem. -/
import Derived.Test.YthihemfegjaenaaBu1
namespace Go.Proofs.Ythihemfegjaenaa
open Go Ieee

theorem sgn_nearest (f : Format) (s : Bool) (m : Nat) (e : Int) : sgn f (f.nearest s m e) = s := by
  by_cases h : m = 0
  · unfold Format.nearest; rw [if_pos h]; exact sgn_word f s (by have := f.infRung_lt; omega)
  · rw [nearest_rung f s h, sgn_word f s (by have := f.infRung_lt; omega)]

/-- a number that a 32-bit float other than a zero becomes is none of the smallest -/
theorem widen_normal {b v : Nat} (h : canon .f64 v = fconv .f32 .f64 (canon .f32 b)) (hn : isN .f32 b = false) (h0' : rung Ieee.double v ≠ 0) : 2 ^ 52 ≤ rung Ieee.double v := by
  have hn' : (FloatKind.f32.decode b).isNaN = false := hn
  have hv := fits_widen b
  rw [canon_of_not hn'] at h
  have hs : (floatToFloatBits .f32 b .f64).isSome = true := by
    rcases hv with hv | hv | hv
    · cases hv
    · rw [hn'] at hv; cases hv
    · exact hv
  obtain ⟨r, hr⟩ := Option.isSome_iff_exists.1 hs
  have h' : canon .f64 v = some r := h.trans hr
  obtain ⟨rfl, hnv⟩ := canon_some h'
  unfold floatToFloatBits at hr
  rw [if_neg (by decide)] at hr
  have hd : FloatKind.f32.decode b = Ieee.single.read b := rfl
  rw [hd] at hr hn'
  rcases read_cases Ieee.single b with ⟨h1, m, p, e, v1⟩ | ⟨h1, _, e⟩ | ⟨h1, e⟩ | h1
  · rw [e] at hr
    simp only at hr
    split at hr
    · cases hr
    · cases hr
      have hb := read_bounds e
      have lp : Ieee.single.leastPlace = -149 := rfl
      have bn : Ieee.single.binade = 2 ^ 23 := rfl
      have ib : Ieee.single.infRung / Ieee.single.binade = 255 := rfl
      by_cases h0 : m = 0
      · subst h0
        have z : FloatKind.f64.encode (.number (sgn Ieee.single b) 0 (Ieee.single.leastPlace + (p : Int))) = Ieee.double.word (sgn Ieee.single b) 0 := rfl
        rw [z, rung_word _ _ (by decide)] at h0'
        exact absurd rfl h0'
      · have hw := widen_read (sgn Ieee.single b) h0 (e := Ieee.single.leastPlace + (p : Int)) (by omega) (by omega) (by omega)
        have hl : m.log2 < 24 := (Nat.log2_lt h0).2 (by omega)
        have z : FloatKind.f64.encode (.number (sgn Ieee.single b) m (Ieee.single.leastPlace + (p : Int))) = Ieee.double.nearest (sgn Ieee.single b) m (Ieee.single.leastPlace + (p : Int)) := rfl
        rw [z]
        rw [z] at h0'
        generalize Ieee.double.nearest (sgn Ieee.single b) m (Ieee.single.leastPlace + (p : Int)) = r at *
        rcases read_cases Ieee.double r with ⟨g1, m', p', e', v'⟩ | ⟨g1, _, e'⟩ | ⟨g1, e'⟩ | g1
        · rw [e'] at hw
          injection hw with w1 w2 w3
          rcases Nat.lt_or_ge (rung Ieee.double r) (2 ^ 52) with q | q
          · exfalso
            have hlt := magOf_lt Ieee.double (show rung Ieee.double r < (0 + 1) * 2 ^ 52 by omega)
            rw [magOf_pow, ← v', w2] at hlt
            have a1 : 2 ^ 52 ≤ m * 2 ^ (52 - m.log2) := by
              calc 2 ^ 52 = 2 ^ m.log2 * 2 ^ (52 - m.log2) := by rw [← Nat.pow_add]; congr 1; omega
                _ ≤ m * 2 ^ (52 - m.log2) := Nat.mul_le_mul_right _ (Nat.log2_self_le h0)
            have a2 : m * 2 ^ (52 - m.log2) ≤ m * 2 ^ (52 - m.log2) * 2 ^ p' := Nat.le_mul_of_pos_right _ (Nat.two_pow_pos _)
            omega
          · exact q
        · rw [e'] at hw; cases hw
        · rw [e'] at hw; cases hw
        · exact absurd g1 (by decide)
  · rw [e] at hr
    cases hr
    have z : FloatKind.f64.encode (.infinity (sgn Ieee.single b)) = Ieee.double.word (sgn Ieee.single b) Ieee.double.infRung := rfl
    rw [z, rung_word _ _ Ieee.double.infRung_lt]
    decide
  · rw [e] at hn'; cases hn'
  · exact absurd h1 (by decide)

/-- a quotient of a number by one that is not smaller is small -/
theorem quo_small {n d : Nat} (hd : rung Ieee.double d < 2046 * 2 ^ 52) (hd1 : 2 ^ 52 ≤ rung Ieee.double d) (h : rung Ieee.double n ≤ rung Ieee.double d) : Bd 1025 (fop .quo .f64 (some n) (some d)) := by
  have hdiv := Nat.div_add_mod (rung Ieee.double d) (2 ^ 52)
  have hmod := Nat.mod_lt (rung Ieee.double d) (Nat.two_pow_pos 52)
  have hc : rung Ieee.double d / 2 ^ 52 < 2046 := (Nat.div_lt_iff_lt_mul (Nat.two_pow_pos 52)).2 hd
  have hc1 : 1 ≤ rung Ieee.double d / 2 ^ 52 := (Nat.le_div_iff_mul_le (Nat.two_pow_pos 52)).2 (by omega)
  have hn : Bd (rung Ieee.double d / 2 ^ 52 + 1) (some n) := fun v hv => by
    cases hv
    rw [Nat.add_mul, Nat.one_mul]; omega
  refine Bd.quo (c := rung Ieee.double d / 2 ^ 52) hn ?_ ?_ hc1 (by omega) (by omega) (by omega) (by omega) (by omega)
  · show rung Ieee.double d < Ieee.double.infRung
    rw [dinf]; omega
  · omega

theorem mul_self_up {t q : Nat} (ht : Bd q (some t)) (hq : q ≤ 2046) : ∃ z, fop .mul .f64 (some t) (some t) = some z ∧ sgn Ieee.double z = false := by
  obtain ⟨m, i, e1, v1⟩ := fin_read (ht.isFin' hq)
  refine ⟨Ieee.double.nearest (sgn Ieee.double t ^^ sgn Ieee.double t) (m * m) (Ieee.double.leastPlace + (i : Int) + (Ieee.double.leastPlace + (i : Int))), ?_, ?_⟩
  · show Ieee.double.mul t t = _
    unfold Format.mul
    rw [show Ieee.double.read t = _ from e1]; rfl
  · rw [sgn_nearest]; cases sgn Ieee.double t <;> rfl

theorem up_units (f : Format) {T r1 r2 : Nat} (h0 : T ≠ 0) (h1 : magOf f r1 ≤ T) (h2 : T ≤ magOf f r2) (hi : r2 < f.infRung) (hi1 : r1 ≤ f.infRung) :
    sgn f (f.nearest (decide ((T : Int) < 0)) (T : Int).natAbs f.leastPlace) = false ∧ r1 ≤ rung f (f.nearest (decide ((T : Int) < 0)) (T : Int).natAbs f.leastPlace) ∧ rung f (f.nearest (decide ((T : Int) < 0)) (T : Int).natAbs f.leastPlace) ≤ r2 := by
  have hT : (T : Int) ≠ 0 := by omega
  have hr := round_units f (T : Int) hT hi (by omega)
  have hneg : decide ((T : Int) < 0) = false := decide_eq_false (by omega)
  refine ⟨hr.2.trans hneg, ?_, hr.1⟩
  have e1 : (T : Int).natAbs = T := by omega
  rw [e1]
  have hge := round_ge f h0 f.leastPlace (r := r1) f.leastPlace (Int.le_refl _) (Int.le_refl _) (by
    rw [Int.sub_self, show (0 : Int).toNat = 0 from rfl, Nat.pow_zero, Nat.mul_one, Nat.mul_one]; exact h1)
  rw [nearest_rung _ _ h0, rung_word _ _ (by have := f.infRung_lt; omega)]
  exact Nat.le_min.2 ⟨hge, hi1⟩

theorem mag_mono {r s : Nat} (h : r ≤ s) : magOf Ieee.double r ≤ magOf Ieee.double s := by
  rcases Nat.lt_or_eq_of_le h with q | q
  · exact Nat.le_of_lt (magOf_lt _ q)
  · rw [q]; exact Nat.le_refl _

theorem one_add_at {z A Z : Nat} (hs : sgn Ieee.double z = false) (hA : 1023 * 2 ^ 52 = A) (hZ : Z < Ieee.double.infRung) (hAZ : A ≤ Z) (hm : magOf Ieee.double A + magOf Ieee.double (rung Ieee.double z) ≤ magOf Ieee.double Z) (hz : isFin .f64 z) :
    ∃ y, fop .add .f64 (some c1) (some z) = some y ∧ sgn Ieee.double y = false ∧ A ≤ rung Ieee.double y ∧ rung Ieee.double y ≤ Z := by
  rw [add_eq c1_fin hz]
  refine ⟨_, rfl, ?_⟩
  have e0 : FloatKind.f64.format = Ieee.double := rfl
  have s1 : sv Ieee.double c1 = magOf Ieee.double A := by unfold sv; rw [c1_facts.1, c1_facts.2, hA]; rfl
  have s2 : sv Ieee.double z = magOf Ieee.double (rung Ieee.double z) := by unfold sv; rw [hs]; rfl
  have m0 : magOf Ieee.double A ≠ 0 := magOf_ne Ieee.double (by omega)
  rw [e0, s1, s2]
  generalize magOf Ieee.double (rung Ieee.double z) = M at *
  have e3 : (magOf Ieee.double A : Int) + (M : Int) = ((magOf Ieee.double A + M : Nat) : Int) := rfl
  rw [e3, if_neg (by omega)]
  exact up_units Ieee.double (by omega) (Nat.le_add_right _ _) hm hZ (Nat.le_of_lt (Nat.lt_of_le_of_lt hAZ hZ))

theorem mag_twice {q : Nat} (hq : 1 ≤ q) : magOf Ieee.double ((q + 1) * 2 ^ 52) = magOf Ieee.double (q * 2 ^ 52) * 2 := by
  obtain ⟨q', rfl⟩ : ∃ q', q = q' + 1 := ⟨q - 1, by omega⟩
  exact mag_double q' _ _ rfl rfl

theorem fin_of {z q : Nat} (h : rung Ieee.double z ≤ q * 2 ^ 52) (hq : q ≤ 2046) : isFin .f64 z := by
  show rung Ieee.double z < Ieee.double.infRung
  rw [dinf]; omega

theorem one_add {z q : Nat} (hs : sgn Ieee.double z = false) (hq : 1023 ≤ q) (hq2 : q ≤ 2045) (hb : rung Ieee.double z ≤ q * 2 ^ 52) :
    ∃ y, fop .add .f64 (some c1) (some z) = some y ∧ sgn Ieee.double y = false ∧ 1023 * 2 ^ 52 ≤ rung Ieee.double y ∧ rung Ieee.double y ≤ (q + 1) * 2 ^ 52 := by
  have m1 := mag_mono hb
  have m2 := mag_mono (Nat.mul_le_mul_right (2 ^ 52) hq)
  have m3 := mag_twice (q := q) (Nat.le_trans (by decide) hq)
  have hz := fin_of hb (by omega)
  have hZ : (q + 1) * 2 ^ 52 < Ieee.double.infRung := by rw [dinf]; exact Nat.mul_lt_mul_of_pos_right (by omega) (Nat.two_pow_pos _)
  have hAZ : 1023 * 2 ^ 52 ≤ (q + 1) * 2 ^ 52 := Nat.mul_le_mul_right _ (by omega)
  have hm : magOf Ieee.double (1023 * 2 ^ 52) + magOf Ieee.double (rung Ieee.double z) ≤ magOf Ieee.double ((q + 1) * 2 ^ 52) := by
    rw [m3, Nat.mul_two]; exact Nat.add_le_add m2 m1
  exact one_add_at hs rfl hZ hAZ hm hz

theorem sqrt_small {b r : Nat} (hb' : rung Ieee.double b < 1223 * 2 ^ 52) (h : FloatKind.f64.format.sqrt b = some r) : rung Ieee.double r < 1150 * 2 ^ 52 := by
  have hi : (1223 * 2 ^ 52 : Nat) < Ieee.double.infRung := by decide
  have e0 : FloatKind.f64.format = Ieee.double := rfl
  unfold Format.sqrt at h
  rw [e0] at h
  rcases read_cases Ieee.double b with ⟨h1, m, p, e, v1⟩ | ⟨h1, _, e⟩ | ⟨h1, e⟩ | h1
  · rw [e] at h
    unfold Datum.root at h
    simp only at h
    by_cases h0 : m = 0
    · rw [if_pos h0] at h
      subst h0
      have h' : some (Ieee.double.word (sgn Ieee.double b) 0) = some r := h
      injection h' with h'
      rw [← h']
      rw [rung_word _ _ (by decide)]; decide
    · rw [if_neg h0] at h
      by_cases hs : sgn Ieee.double b = true
      · rw [hs] at h; cases h
      · have hs' : sgn Ieee.double b = false := by simpa using hs
        rw [hs'] at h
        simp only [Bool.false_eq_true, if_false] at h
        have hl := log_bound (q := 1222) h0 (by rw [v1]; exact mag_bound 1222 hb')
        have lp : Ieee.double.leastPlace = -1074 := rfl
        have fb : (Ieee.double.fractionBits : Int) = 52 := rfl
        have fb' : Ieee.double.fractionBits = 52 := rfl
        generalize hmore : (2 * (Ieee.double.fractionBits + 2) - m.log2) + ((Ieee.double.leastPlace + (p : Int) - ((2 * (Ieee.double.fractionBits + 2) - m.log2 : Nat) : Int)) % 2).toNat = more at h
        generalize hn : m <<< more = n at h
        have hsq := rootFrom_sq n (n.log2 / 2 + 1) 0 (by omega)
        generalize Datum.rootFrom n (n.log2 / 2 + 1) 0 = whole at h hsq
        generalize hM : 2 * whole + (whole * whole != n).toNat = M at h
        have hML : M.log2 ≤ (m.log2 + more) / 2 + 1 := by
          by_cases hM0 : M = 0
          · subst hM0; simp
          · have hb1 : (whole * whole != n).toNat ≤ 1 := by cases (whole * whole != n) <;> simp
            have hn2 : n < 2 ^ (m.log2 + more + 1) := by
              rw [← hn, shl_eq, show m.log2 + more + 1 = (m.log2 + 1) + more by omega, Nat.pow_add]
              exact Nat.mul_lt_mul_of_pos_right Nat.lt_log2_self (Nat.two_pow_pos _)
            have hw : whole < 2 ^ ((m.log2 + more) / 2 + 1) := by
              rcases Nat.lt_or_ge whole (2 ^ ((m.log2 + more) / 2 + 1)) with q | q
              · exact q
              · exfalso
                have := Nat.mul_le_mul q q
                rw [← Nat.pow_add] at this
                have := Nat.pow_le_pow_right (n := 2) (by omega) (show m.log2 + more + 1 ≤ (m.log2 + more) / 2 + 1 + ((m.log2 + more) / 2 + 1) by omega)
                omega
            have : M < 2 ^ ((m.log2 + more) / 2 + 2) := by
              rw [show (m.log2 + more) / 2 + 2 = ((m.log2 + more) / 2 + 1) + 1 by omega, Nat.pow_succ]; omega
            have := (Nat.log2_lt hM0).2 this
            omega
        have hplace : (Ieee.double.leastPlace + (p : Int) - (more : Int)) / 2 - 1 + (M.log2 : Int) < 126 := by omega
        have h' : some (Ieee.double.nearest false M ((Ieee.double.leastPlace + (p : Int) - (more : Int)) / 2 - 1)) = some r := h
        injection h' with h'
        rw [← h']
        by_cases hM0 : M = 0
        · unfold Format.nearest; rw [if_pos hM0, rung_word _ _ (by decide)]; decide
        · have hr := rungOf_le Ieee.double (m := M) ((Ieee.double.leastPlace + (p : Int) - (more : Int)) / 2 - 1) 126 hplace (by rw [lp, fb]; omega)
          have hlt : rungOf Ieee.double M ((Ieee.double.leastPlace + (p : Int) - (more : Int)) / 2 - 1) < 1150 * 2 ^ 52 := Nat.lt_of_le_of_lt hr (by decide)
          rw [nearest_rung _ _ hM0, Nat.min_eq_left (by omega), rung_word _ _ (by have := Ieee.double.infRung_lt; omega)]
          exact hlt
  · exact absurd (Nat.lt_trans hb' hi) (by rw [h1]; exact Nat.lt_irrefl _)
  · exact absurd (Nat.lt_trans hb' hi) (Nat.lt_asymm h1)
  · exact absurd h1 (by decide)

theorem sqrt_up (f : Format) {y : Nat} (hf : rung f y < f.infRung) (hs : sgn f y = false) (hw : ¬ f.infRung < f.binade) : ∃ r, f.sqrt y = some r ∧ sgn f r = false := by
  unfold Format.sqrt
  rcases read_cases f y with ⟨h1, m, p, e, v1⟩ | ⟨h1, _, e⟩ | ⟨h1, e⟩ | h1
  · rw [e, hs]
    unfold Datum.root
    simp only [Bool.false_eq_true, if_false]
    by_cases h0 : m = 0
    · rw [if_pos h0]
      exact ⟨_, rfl, sgn_nearest f false _ _⟩
    · rw [if_neg h0]
      exact ⟨_, rfl, sgn_nearest f false _ _⟩
  · omega
  · omega
  · exact absurd h1 hw

theorem sqrt_fin {y : Nat} (hf : rung Ieee.double y < 1223 * 2 ^ 52) (hs : sgn Ieee.double y = false) : ∃ r, fsqrt (some y) = some r ∧ sgn Ieee.double r = false ∧ rung Ieee.double r < 1150 * 2 ^ 52 := by
  obtain ⟨r, h1, h2⟩ := sqrt_up Ieee.double (Nat.lt_trans hf (by decide)) hs (by decide)
  exact ⟨r, h1, h2, sqrt_small hf h1⟩

def halfT (t : Option Nat) : Option Nat := fop .quo .f64 t (fop .add .f64 (some c1) (fsqrt (fop .add .f64 (some c1) (fop .mul .f64 t t))))

theorem bd_half {t : Option Nat} {q : Nat} (ht : Bd q t) (hq : 1025 ≤ q) (hq2 : q ≤ 1030) : Bd (q + 1) (halfT t) := by
  cases t with
  | none => exact Bd.none _
  | some t =>
    obtain ⟨z, e1, s1⟩ := mul_self_up ht (by omega)
    have hz : Bd (q + q - 1021) (fop .mul .f64 (some t) (some t)) := Bd.mul ht ht (by omega) (by omega) (by omega) (by omega) (by omega) (by omega) (by omega)
    obtain ⟨y, e2, s2, _, b2⟩ := one_add s1 (q := 1040) (by omega) (by omega) (Nat.le_trans (hz z e1) (Nat.mul_le_mul_right _ (by omega)))
    obtain ⟨r, e3, s3, b3⟩ := sqrt_fin (Nat.lt_of_le_of_lt b2 (by decide)) s2
    obtain ⟨d, e4, s4, l4, b4⟩ := one_add s3 (q := 1150) (by omega) (by omega) (Nat.le_of_lt b3)
    unfold halfT
    rw [e1, e2, e3, e4]
    exact Bd.quo ht (fin_of b4 (by omega)) l4 (by omega) (by omega) (by omega) (by omega) (by omega) (by omega)
end Go.Proofs.Ythihemfegjaenaa
