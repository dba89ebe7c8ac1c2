/- Plain facts on the words of binary floating point: what a rounded number reads as, which magnitudes cannot become an infinity, and that rounding looks at the value alone. Conditions: none beyond those of each theorem. -/
import Derived.Laws.FloatArith
namespace Go.Proofs.Ytabhjnpmmjmaiab
open Go Ieee

theorem shl_eq (a b : Nat) : a <<< b = a * 2 ^ b := Nat.shiftLeft_eq a b

theorem cut_zero (neg : Bool) (n : Nat) : Toward.even.cut neg n 0 = n := by
  simp [Toward.cut, Nat.mod_one]

/-- the cut to the nearest, without the bound on the shift -/
theorem cut_even (neg : Bool) (n d : Nat) :
    Toward.even.cut neg n d = n / 2 ^ d + (decide (2 ^ d < 2 * (n % 2 ^ d)) || (decide (2 ^ d = 2 * (n % 2 ^ d)) && decide (n / 2 ^ d % 2 = 1))).toNat := by
  unfold Toward.cut
  by_cases h : d ≤ n.log2 + 2
  · rw [Nat.min_eq_left h]
    simp only [shl_eq, Nat.one_mul]
    have e1 : (2 ^ d == 2 * (n % 2 ^ d)) = decide (2 ^ d = 2 * (n % 2 ^ d)) := by
      rw [Bool.eq_iff_iff]; simp
    have e2 : (n / 2 ^ d % 2 == 1) = decide (n / 2 ^ d % 2 = 1) := by
      rw [Bool.eq_iff_iff]; simp
    simp only [e1, e2]
  · have h' : n.log2 + 2 ≤ d := by omega
    rw [Nat.min_eq_right h']
    simp only [shl_eq, Nat.one_mul]
    have l1 : n < 2 ^ (n.log2 + 1) := Nat.lt_log2_self
    have l2 : 2 ^ (n.log2 + 2) = 2 * 2 ^ (n.log2 + 1) := by rw [show n.log2 + 2 = (n.log2 + 1) + 1 from rfl, Nat.pow_succ]; omega
    have l3 : 2 ^ (n.log2 + 2) ≤ 2 ^ d := Nat.pow_le_pow_right (by omega) h'
    have d1 : n / 2 ^ (n.log2 + 2) = 0 := Nat.div_eq_of_lt (by omega)
    have d2 : n / 2 ^ d = 0 := Nat.div_eq_of_lt (by omega)
    have m1 : n % 2 ^ (n.log2 + 2) = n := Nat.mod_eq_of_lt (by omega)
    have m2 : n % 2 ^ d = n := Nat.mod_eq_of_lt (by omega)
    rw [d1, d2, m1, m2]
    have a1 : ¬ 2 ^ (n.log2 + 2) < 2 * n := by omega
    have a2 : ¬ 2 ^ d < 2 * n := by omega
    simp [a1, a2]

theorem cut_scale (neg : Bool) (n d j : Nat) : Toward.even.cut neg (n * 2 ^ j) (d + j) = Toward.even.cut neg n d := by
  rw [cut_even, cut_even]
  have hj : 0 < 2 ^ j := Nat.two_pow_pos j
  have e1 : n * 2 ^ j / 2 ^ (d + j) = n / 2 ^ d := by
    rw [Nat.pow_add]; exact Nat.mul_div_mul_right _ _ hj
  have e2 : n * 2 ^ j % 2 ^ (d + j) = n % 2 ^ d * 2 ^ j := by
    rw [Nat.pow_add]; exact Nat.mul_mod_mul_right _ _ _
  rw [e1, e2, Nat.pow_add]
  have c1 : (2 ^ d * 2 ^ j < 2 * (n % 2 ^ d * 2 ^ j)) ↔ (2 ^ d < 2 * (n % 2 ^ d)) := by
    rw [← Nat.mul_assoc]; exact Nat.mul_lt_mul_right hj
  have c2 : (2 ^ d * 2 ^ j = 2 * (n % 2 ^ d * 2 ^ j)) ↔ (2 ^ d = 2 * (n % 2 ^ d)) := by
    rw [← Nat.mul_assoc]; exact ⟨fun h => Nat.eq_of_mul_eq_mul_right hj h, fun h => congrArg (· * 2 ^ j) h⟩
  simp only [c1, c2]

/-- 'cut' never goes past the next whole number, and keeps what is whole -/
theorem cut_le (neg : Bool) (n d K : Nat) (h : n ≤ K * 2 ^ d) : Toward.even.cut neg n d ≤ K := by
  rw [cut_even]
  have hp : 0 < 2 ^ d := Nat.two_pow_pos d
  have hm := Nat.div_add_mod n (2 ^ d)
  have hq : n / 2 ^ d ≤ K := by
    rw [Nat.div_le_iff_le_mul_add_pred hp]
    have : K * 2 ^ d = 2 ^ d * K := Nat.mul_comm _ _
    omega
  rcases Nat.lt_or_ge (n / 2 ^ d) K with h1 | h1
  · have : ∀ b : Bool, b.toNat ≤ 1 := by intro b; cases b <;> simp
    have := this (decide (2 ^ d < 2 * (n % 2 ^ d)) || (decide (2 ^ d = 2 * (n % 2 ^ d)) && decide (n / 2 ^ d % 2 = 1)))
    omega
  · have e : n / 2 ^ d = K := by omega
    have : n % 2 ^ d = 0 := by
      rw [e] at hm
      have : K * 2 ^ d = 2 ^ d * K := Nat.mul_comm _ _
      omega
    rw [this, e]
    have a1 : ¬ (2 ^ d < 2 * 0) := by omega
    simp [a1]

theorem log2_mul_pow {m : Nat} (h : m ≠ 0) (j : Nat) : (m * 2 ^ j).log2 = m.log2 + j := by
  have h1 : 2 ^ m.log2 ≤ m := Nat.log2_self_le h
  have h2 : m < 2 ^ (m.log2 + 1) := Nat.lt_log2_self
  have hj : 0 < 2 ^ j := Nat.two_pow_pos j
  have hne : m * 2 ^ j ≠ 0 := Nat.mul_ne_zero h (by omega)
  rw [Nat.log2_eq_iff hne]
  constructor
  · rw [Nat.pow_add]; exact Nat.mul_le_mul_right _ h1
  · rw [show m.log2 + j + 1 = (m.log2 + 1) + j by omega, Nat.pow_add]; exact Nat.mul_lt_mul_of_pos_right h2 hj

/-- ROUNDING LOOKS AT THE VALUE ALONE. -/
theorem nearest_scale (f : Format) (s : Bool) {m : Nat} (h : m ≠ 0) (j : Nat) (e : Int) :
    f.nearest s (m * 2 ^ j) e = f.nearest s m (e + j) := by
  have hne : m * 2 ^ j ≠ 0 := Nat.mul_ne_zero h (by have := Nat.two_pow_pos j; omega)
  unfold Format.nearest
  rw [if_neg hne, if_neg h, log2_mul_pow h]
  have hl : max (e + ((m.log2 + j : Nat) : Int) - f.fractionBits) f.leastPlace = max (e + j + m.log2 - f.fractionBits) f.leastPlace := by
    congr 1; omega
  simp only [hl]
  generalize max (e + j + (m.log2 : Int) - f.fractionBits) f.leastPlace = last
  have key : Toward.even.cut s ((m * 2 ^ j) <<< (e - last).toNat) (last - e).toNat = Toward.even.cut s (m <<< (e + j - last).toNat) (last - (e + j)).toNat := by
    simp only [shl_eq]
    rcases Int.le_total last e with a | a
    · have z1 : (last - e).toNat = 0 := by omega
      have z2 : (last - (e + j)).toNat = 0 := by omega
      rw [z1, z2, cut_zero, cut_zero, Nat.mul_assoc, ← Nat.pow_add]
      congr 2; omega
    · have z1 : (e - last).toNat = 0 := by omega
      rw [z1, Nat.pow_zero, Nat.mul_one]
      rcases Int.le_total last (e + j) with b | b
      · have z2 : (last - (e + j)).toNat = 0 := by omega
        rw [z2, cut_zero]
        have hj : (j : Nat) = (e + j - last).toNat + (last - e).toNat := by omega
        have : m * 2 ^ j = m * 2 ^ (e + j - last).toNat * 2 ^ (last - e).toNat := by
          rw [Nat.mul_assoc, ← Nat.pow_add, ← hj]
        rw [this]
        have := cut_scale s (m * 2 ^ (e + j - last).toNat) 0 (last - e).toNat
        rw [Nat.zero_add] at this
        rw [this, cut_zero]
      · have z2 : (e + j - last).toNat = 0 := by omega
        rw [z2, Nat.pow_zero, Nat.mul_one]
        have : (last - e).toNat = (last - (e + j)).toNat + j := by omega
        rw [this, cut_scale]
  rw [key]

/-- the place of the last digit kept -/
def lastOf (f : Format) (m : Nat) (e : Int) : Int := max (e + m.log2 - f.fractionBits) f.leastPlace

/-- the rung of a rounded number -/
def rungOf (f : Format) (m : Nat) (e : Int) : Nat :=
  (lastOf f m e - f.leastPlace).toNat * f.binade + Toward.even.cut false (m <<< (e - lastOf f m e).toNat) (lastOf f m e - e).toNat

theorem cut_sign (s : Bool) (n d : Nat) : Toward.even.cut s n d = Toward.even.cut false n d := by
  rw [cut_even, cut_even]

theorem nearest_rung (f : Format) (s : Bool) {m : Nat} (h : m ≠ 0) (e : Int) : f.nearest s m e = f.word s (min (rungOf f m e) f.infRung) := by
  unfold Format.nearest rungOf lastOf
  rw [if_neg h]
  simp only [cut_sign s]

/-- a number below 2 ^ K is not rounded past 2 ^ K -/
theorem rungOf_le (f : Format) {m : Nat} (e : Int) (K : Int) (hK : e + m.log2 < K) (hl : f.leastPlace ≤ K - 1 - f.fractionBits) :
    rungOf f m e ≤ ((K - 1 - f.fractionBits - f.leastPlace).toNat + 2) * f.binade := by
  have h2 : m < 2 ^ (m.log2 + 1) := Nat.lt_log2_self
  unfold rungOf
  have hlast : lastOf f m e ≤ K - 1 - f.fractionBits := by unfold lastOf; omega
  have hk : Toward.even.cut false (m <<< (e - lastOf f m e).toNat) (lastOf f m e - e).toNat ≤ 2 * f.binade := by
    apply cut_le
    rw [shl_eq]
    have : m * 2 ^ (e - lastOf f m e).toNat ≤ 2 ^ (m.log2 + 1) * 2 ^ (e - lastOf f m e).toNat := Nat.mul_le_mul_right _ (by omega)
    refine Nat.le_trans this ?_
    unfold Format.binade
    rw [show (2 : Nat) * 2 ^ f.fractionBits = 2 ^ (f.fractionBits + 1) by rw [Nat.pow_succ]; omega, ← Nat.pow_add, ← Nat.pow_add]
    apply Nat.pow_le_pow_right (by omega)
    unfold lastOf
    omega
  have : (lastOf f m e - f.leastPlace).toNat * f.binade ≤ (K - 1 - f.fractionBits - f.leastPlace).toNat * f.binade := Nat.mul_le_mul_right _ (by omega)
  rw [Nat.add_mul]
  omega

theorem signWeight_pos (f : Format) : 0 < f.signWeight := Nat.two_pow_pos _

theorem infRung_add_binade (f : Format) : f.infRung + f.binade = f.signWeight := f.infRung_add_binade

theorem word_split (f : Format) (s : Bool) {r : Nat} (h : r < f.signWeight) : f.word s r % f.signWeight = r ∧ (f.word s r / f.signWeight % 2 == 1) = s := by
  have hp := signWeight_pos f
  cases s
  · simp only [Format.word, Bool.false_eq_true, if_false]
    exact ⟨Nat.mod_eq_of_lt h, by rw [Nat.div_eq_of_lt h]; rfl⟩
  · simp only [Format.word, if_true]
    refine ⟨by rw [Nat.add_mod_left]; exact Nat.mod_eq_of_lt h, ?_⟩
    rw [Nat.add_div_left _ hp, Nat.div_eq_of_lt h]; rfl

theorem read_word (f : Format) (s : Bool) {r : Nat} (h : r < f.infRung) :
    f.read (f.word s r) = if r < f.binade then .number s r f.leastPlace else .number s (f.binade + r % f.binade) (f.leastPlace + (r / f.binade - 1 : Nat)) := by
  have hs : r < f.signWeight := by have := infRung_add_binade f; omega
  obtain ⟨e1, e2⟩ := word_split f s hs
  unfold Format.read
  simp only [e1, e2]
  rw [if_pos h]

theorem read_word_inf (f : Format) (s : Bool) (hb : f.binade ≤ f.infRung) : f.read (f.word s f.infRung) = .infinity s := by
  have hs : f.infRung < f.signWeight := f.infRung_lt
  obtain ⟨e1, e2⟩ := word_split f s hs
  unfold Format.read
  simp only [e1, e2]
  rw [if_neg (by omega), if_neg (by omega), if_pos trivial]

/-- A NUMBER THAT THE FORMAT HAS IS READ BACK, with its digits moved up. -/
theorem read_exact (f : Format) (s : Bool) {m : Nat} (h : m ≠ 0) (e : Int) (hF : lastOf f m e ≤ e) (hi : rungOf f m e < f.infRung) :
    f.read (f.nearest s m e) = .number s (m * 2 ^ (e - lastOf f m e).toNat) (lastOf f m e) := by
  have h1 : 2 ^ m.log2 ≤ m := Nat.log2_self_le h
  have h2 : m < 2 ^ (m.log2 + 1) := Nat.lt_log2_self
  have hp : 0 < f.binade := Nat.two_pow_pos _
  rw [nearest_rung f s h, Nat.min_eq_left (by omega), read_word f s hi]
  have hr : rungOf f m e = (lastOf f m e - f.leastPlace).toNat * f.binade + m * 2 ^ (e - lastOf f m e).toNat := by
    unfold rungOf
    rw [show (lastOf f m e - e).toNat = 0 by omega, cut_zero, shl_eq]
  have hb : f.binade = 2 ^ f.fractionBits := rfl
  by_cases hc : f.leastPlace < e + m.log2 - f.fractionBits
  · have hlast : lastOf f m e = e + m.log2 - f.fractionBits := by unfold lastOf; omega
    have ek : m.log2 + (e - lastOf f m e).toNat = f.fractionBits := by omega
    have k1 : f.binade ≤ m * 2 ^ (e - lastOf f m e).toNat := by
      rw [hb, ← ek, Nat.pow_add]; exact Nat.mul_le_mul_right _ h1
    have k2 : m * 2 ^ (e - lastOf f m e).toNat < 2 * f.binade := by
      rw [hb, ← ek, Nat.pow_add, ← Nat.mul_assoc, show 2 * 2 ^ m.log2 = 2 ^ (m.log2 + 1) by rw [Nat.pow_succ]; omega]
      exact Nat.mul_lt_mul_of_pos_right h2 (Nat.two_pow_pos _)
    generalize m * 2 ^ (e - lastOf f m e).toNat = k at *
    have hq : rungOf f m e = (k - f.binade) + f.binade * ((lastOf f m e - f.leastPlace).toNat + 1) := by
      rw [hr, Nat.mul_add, Nat.mul_comm]; omega
    have d1 : rungOf f m e / f.binade = (lastOf f m e - f.leastPlace).toNat + 1 := by
      rw [hq, Nat.add_mul_div_left _ _ hp, Nat.div_eq_of_lt (by omega)]; omega
    have d2 : rungOf f m e % f.binade = k - f.binade := by
      rw [hq, Nat.add_mul_mod_self_left, Nat.mod_eq_of_lt (by omega)]
    have nb : ¬ rungOf f m e < f.binade := by
      rw [hr]; have := Nat.zero_le ((lastOf f m e - f.leastPlace).toNat * f.binade); omega
    rw [if_neg nb, d1, d2]
    congr 1
    · omega
    · omega
  · have hlast : lastOf f m e = f.leastPlace := by unfold lastOf; omega
    have z : (lastOf f m e - f.leastPlace).toNat = 0 := by omega
    rw [z, Nat.zero_mul, Nat.zero_add] at hr
    by_cases hn : rungOf f m e < f.binade
    · rw [if_pos hn, hr, hlast]
    · have k2 : m * 2 ^ (e - lastOf f m e).toNat < 2 * f.binade := by
        have : m * 2 ^ (e - lastOf f m e).toNat < 2 ^ (m.log2 + 1) * 2 ^ (e - lastOf f m e).toNat := Nat.mul_lt_mul_of_pos_right h2 (Nat.two_pow_pos _)
        refine Nat.lt_of_lt_of_le this ?_
        rw [hb, show (2 : Nat) * 2 ^ f.fractionBits = 2 ^ (f.fractionBits + 1) by rw [Nat.pow_succ]; omega, ← Nat.pow_add]
        apply Nat.pow_le_pow_right (by omega); omega
      rw [if_neg hn, hr]
      generalize m * 2 ^ (e - lastOf f m e).toNat = k at *
      have hq : k = (k - f.binade) + f.binade * 1 := by omega
      have d1 : k / f.binade = 1 := by
        rw [hq, Nat.add_mul_div_left _ _ hp, Nat.div_eq_of_lt (by omega)]
      have d2 : k % f.binade = k - f.binade := by
        conv => lhs; rw [hq]
        rw [Nat.add_mul_mod_self_left, Nat.mod_eq_of_lt (by omega)]
      rw [d1, d2, hlast]
      congr 1
      · omega
      · omega
end Go.Proofs.Ytabhjnpmmjmaiab
