/- Doubling, halving, and a sharp bound on products. Conditions: none beyond those of each theorem. -/
import Derived.Test.YtdcpkndkehdhiadFl9
namespace Go.Proofs.Ytdcpkndkehdhiad
open Go Ieee

theorem near_rung (f : Format) (s : Bool) {r : Nat} (hB : f.binade ≤ r) (hr : r < f.infRung) : f.nearest s (f.binade + r % f.binade) (f.leastPlace + ((r / f.binade - 1 : Nat) : Int)) = f.word s r := by
  have hp : 0 < f.binade := Nat.two_pow_pos _
  have hm : f.binade + r % f.binade ≠ 0 := by omega
  have h1 := rungOf_mag f (r := r) (by omega)
  have h2 : magOf f r = (f.binade + r % f.binade) * 2 ^ (r / f.binade - 1) := by unfold magOf; rw [if_neg (by omega)]
  rw [h2, rungOf_scale f hm] at h1
  rw [nearest_rung f s hm, h1, Nat.min_eq_left (by omega)]

theorem bin52 : Ieee.double.binade = 2 ^ 52 := rfl
theorem lp1074 : Ieee.double.leastPlace = -1074 := rfl
theorem word_false (f : Format) (r : Nat) : f.word false r = r := by simp [Format.word]

theorem read_normal {r : Nat} (hB : 2 ^ 52 ≤ r) (hr : r < Ieee.double.infRung) : Ieee.double.read r = .number false (2 ^ 52 + r % 2 ^ 52) (Ieee.double.leastPlace + ((r / 2 ^ 52 - 1 : Nat) : Int)) := by
  have h := read_word Ieee.double false hr
  rw [word_false, bin52, if_neg (Nat.not_lt_of_le hB)] at h
  exact h

theorem read_two : Ieee.double.read 4611686018427387904 = .number false (2 ^ 52) (-51) := by decide +kernel

theorem mul_two {r : Nat} (hB : 2 ^ 52 ≤ r) (hr : r + 2 ^ 52 < Ieee.double.infRung) : fop .mul .f64 (some r) (some 4611686018427387904) = some (r + 2 ^ 52) := by
  have h1 := read_normal hB (by omega)
  have h2 := near_rung Ieee.double false (r := r + 2 ^ 52) (by rw [bin52]; omega) hr
  rw [word_false, bin52, Nat.add_mod_right, Nat.add_div_right _ (Nat.two_pow_pos 52), lp1074] at h2
  rw [lp1074] at h1
  have hq : 1 ≤ r / 2 ^ 52 := (Nat.le_div_iff_mul_le (Nat.two_pow_pos 52)).2 (by omega)
  have hm : 2 ^ 52 + r % 2 ^ 52 ≠ 0 := by omega
  show Ieee.double.mul r 4611686018427387904 = _
  unfold Format.mul
  rw [h1, read_two]
  generalize hq' : r / 2 ^ 52 = q at *
  generalize 2 ^ 52 + r % 2 ^ 52 = m at *
  show some (Ieee.double.nearest false (m * 2 ^ 52) (-1074 + ((q - 1 : Nat) : Int) + -51)) = _
  rw [nearest_scale Ieee.double false hm 52, ← h2]
  congr 2
  omega

theorem quo_exact {m n k D more : Nat} {i j : Int} (hn : n ≠ 0) (hmore : D + n.log2 - m.log2 = more) (h : m * 2 ^ more = k * n) : (Datum.number false m i).quotient D (.number false n j) = some (.number false (2 * k) (i - j - (more : Int) - 1)) := by
  unfold Datum.quotient
  simp only []
  rw [if_neg hn, hmore, shl_eq, h, Nat.mul_div_cancel _ (Nat.pos_of_ne_zero hn), Nat.mul_mod_left]
  rfl

theorem quo_two {r : Nat} (hB : 2 * 2 ^ 52 ≤ r) (hr : r < Ieee.double.infRung) : fop .quo .f64 (some r) (some 4611686018427387904) = some (r - 2 ^ 52) := by
  have h1 := read_normal (Nat.le_trans (by decide) hB) hr
  obtain ⟨s, rfl⟩ : ∃ s, r = s + 2 ^ 52 := ⟨r - 2 ^ 52, by omega⟩
  have h2 := near_rung Ieee.double false (r := s) (by rw [bin52]; omega) (by omega)
  rw [word_false, bin52, lp1074] at h2
  rw [lp1074, Nat.add_mod_right, Nat.add_div_right _ (Nat.two_pow_pos 52)] at h1
  have hq : 1 ≤ s / 2 ^ 52 := (Nat.le_div_iff_mul_le (Nat.two_pow_pos 52)).2 (by omega)
  have hml := Nat.mod_lt s (Nat.two_pow_pos 52)
  have hm : 2 ^ 52 + s % 2 ^ 52 ≠ 0 := by omega
  have hlog : (2 ^ 52 + s % 2 ^ 52).log2 = 52 := (Nat.log2_eq_iff hm).2 ⟨by omega, by omega⟩
  rw [Nat.add_sub_cancel]
  generalize s + 2 ^ 52 = R at *
  show Ieee.double.div R 4611686018427387904 = _
  unfold Format.div
  rw [h1, read_two]
  generalize hq' : s / 2 ^ 52 = q at *
  generalize 2 ^ 52 + s % 2 ^ 52 = m at *
  obtain ⟨N, hN⟩ : ∃ N : Nat, N = 2 ^ 52 := ⟨_, rfl⟩
  have hN0 : N ≠ 0 := by omega
  have hmore : Ieee.double.fractionBits + 2 + N.log2 - m.log2 = 54 := by
    rw [hlog, hN, Nat.log2_two_pow]; rfl
  rw [← hN]
  rw [quo_exact hN0 hmore (k := m * 4) (by rw [hN]; omega)]
  show some (Ieee.double.nearest false (2 * (m * 4)) (-1074 + ((q.succ - 1 : Nat) : Int) - -51 - ((54 : Nat) : Int) - 1)) = _
  rw [show 2 * (m * 4) = m * 2 ^ 3 by omega, nearest_scale Ieee.double false hm 3, ← h2]
  congr 2
  omega

/-- a sharp bound on products -/
theorem Bd.mul' {a b : Option Nat} {p q r : Nat} (ha : Bd (p + 1) a) (hb : Bd (q + 1) b) (hp2 : p ≤ 2045) (hq2 : q ≤ 2045) (hr : p + q + 1 ≤ r + 1023) (hr2 : r ≤ 2045) : Bd (r + 1) (fop .mul .f64 a b) := by
  cases a with
  | none => exact Bd.none _
  | some x =>
  cases b with
  | none => exact Bd.none _
  | some y =>
  obtain ⟨m, i, e1, v1⟩ := fin_read (ha.isFin' (by omega))
  obtain ⟨n, j, e2, v2⟩ := fin_read (hb.isFin' (by omega))
  intro v hv
  have h : some (Ieee.double.nearest (sgn Ieee.double x ^^ sgn Ieee.double y) (m * n) (Ieee.double.leastPlace + (i : Int) + (Ieee.double.leastPlace + (j : Int)))) = some v := by
    rw [← hv]
    show _ = Ieee.double.mul x y
    unfold Format.mul
    rw [show Ieee.double.read x = _ from e1, show Ieee.double.read y = _ from e2]; rfl
  injection h with h
  rw [← h]
  have hx := mag_mono (ha x rfl)
  have hy := mag_mono (hb y rfl)
  rw [magOf_pow, ← show m * 2 ^ i = magOf Ieee.double (rung Ieee.double x) from v1] at hx
  rw [magOf_pow, ← show n * 2 ^ j = magOf Ieee.double (rung Ieee.double y) from v2] at hy
  by_cases h0 : m * n = 0
  · unfold Format.nearest
    rw [if_pos h0, rung_word _ _ (by decide)]
    exact Nat.zero_le _
  · obtain ⟨K, hK⟩ : ∃ K : Nat, K = 1074 := ⟨_, rfl⟩
    have hlp : Ieee.double.leastPlace = -(K : Int) := by rw [lp1074]; omega
    have hle := round_le Ieee.double h0 (Ieee.double.leastPlace + (i : Int) + (Ieee.double.leastPlace + (j : Int))) (r := (r + 1) * 2 ^ 52) (2 * Ieee.double.leastPlace) (by omega) (by omega) (by
      rw [magOf_pow]
      have g1 : (Ieee.double.leastPlace + (i : Int) + (Ieee.double.leastPlace + (j : Int)) - 2 * Ieee.double.leastPlace).toNat = i + j := by omega
      have g2 : (Ieee.double.leastPlace - 2 * Ieee.double.leastPlace).toNat = K := by omega
      rw [g1, g2]
      calc m * n * 2 ^ (i + j) = (m * 2 ^ i) * (n * 2 ^ j) := by rw [Nat.pow_add]; ac_rfl
        _ ≤ (2 ^ 52 * 2 ^ p) * (2 ^ 52 * 2 ^ q) := Nat.mul_le_mul hx hy
        _ = 2 ^ (52 + p + (52 + q)) := by rw [← Nat.pow_add, ← Nat.pow_add, ← Nat.pow_add]
        _ ≤ 2 ^ (52 + r + K) := Nat.pow_le_pow_right (by omega) (by omega)
        _ = 2 ^ 52 * 2 ^ r * 2 ^ K := by rw [← Nat.pow_add, ← Nat.pow_add])
    have hi : (r + 1) * 2 ^ 52 < Ieee.double.infRung := by rw [dinf]; exact Nat.mul_lt_mul_of_pos_right (by omega) (Nat.two_pow_pos _)
    have hlt := Nat.lt_of_le_of_lt hle hi
    rw [nearest_rung _ _ h0, Nat.min_eq_left (Nat.le_of_lt hlt), rung_word _ _ (Nat.lt_trans hlt Ieee.double.infRung_lt)]
    exact hle
end Go.Proofs.Ytdcpkndkehdhiad
