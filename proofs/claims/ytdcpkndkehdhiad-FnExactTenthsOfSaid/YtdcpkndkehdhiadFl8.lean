/- The part of a turn that is left when whole ones are taken away lies from 0 to 1. Condition: fewer than 2 to the power of 52 turns. -/
import Derived.Test.YtdcpkndkehdhiadFl7
namespace Go.Proofs.Ytdcpkndkehdhiad
open Go Ieee

theorem U1_pow (q : Nat) (h : 1022 = q) : U1 = 2 ^ (52 + q) := by
  unfold U1
  rw [show (1023 * 2 ^ 52 : Nat) = (1022 + 1) * 2 ^ 52 from rfl, h, magOf_pow, Nat.pow_add]

theorem U1_pos : 0 < U1 := by
  obtain ⟨q, h⟩ : ∃ q : Nat, 1022 = q := ⟨_, rfl⟩
  rw [U1_pow q h]; exact Nat.two_pow_pos _

theorem cut_zeroWay (s : Bool) (n d : Nat) : Toward.zero.cut s n d = n / 2 ^ d := by
  unfold Toward.cut
  simp only [shl_eq, Nat.one_mul, Bool.toNat_false, Nat.add_zero]
  by_cases h : d ≤ n.log2 + 2
  · rw [Nat.min_eq_left h]
  · rw [Nat.min_eq_right (by omega)]
    have l1 : n < 2 ^ (n.log2 + 1) := Nat.lt_log2_self
    have l2 : 2 ^ (n.log2 + 1) ≤ 2 ^ (n.log2 + 2) := Nat.pow_le_pow_right (by omega) (by omega)
    have l3 : 2 ^ (n.log2 + 2) ≤ 2 ^ d := Nat.pow_le_pow_right (by omega) (by omega)
    rw [Nat.div_eq_of_lt (by omega), Nat.div_eq_of_lt (by omega)]

/-- cut towards zero: a count of units becomes a count of ones -/
theorem whole_cut (s : Bool) (m p : Nat) : Toward.zero.cut s (m <<< (Ieee.double.leastPlace + (p : Int)).toNat) (-(Ieee.double.leastPlace + (p : Int))).toNat = m * 2 ^ p / U1 := by
  obtain ⟨q, h⟩ : ∃ q : Nat, 1022 = q := ⟨_, rfl⟩
  rw [cut_zeroWay, U1_pow q h, shl_eq]
  have lp : Ieee.double.leastPlace = -((52 + q : Nat) : Int) := by rw [← h]; rfl
  rw [lp]
  rcases Nat.le_total (52 + q) p with a | a
  · have z1 : (-((52 + q : Nat) : Int) + (p : Int)).toNat = p - (52 + q) := by omega
    have z2 : (-(-((52 + q : Nat) : Int) + (p : Int))).toNat = 0 := by omega
    rw [z1, z2, Nat.pow_zero, Nat.div_one]
    have : m * 2 ^ p = m * 2 ^ (p - (52 + q)) * 2 ^ (52 + q) := by rw [Nat.mul_assoc, ← Nat.pow_add]; congr 2; omega
    rw [this, Nat.mul_div_cancel _ (Nat.two_pow_pos _)]
  · have z1 : (-((52 + q : Nat) : Int) + (p : Int)).toNat = 0 := by omega
    have z2 : (-(-((52 + q : Nat) : Int) + (p : Int))).toNat = 52 + q - p := by omega
    rw [z1, z2, Nat.pow_zero, Nat.mul_one]
    have : 2 ^ (52 + q) = 2 ^ (52 + q - p) * 2 ^ p := by rw [← Nat.pow_add]; congr 1; omega
    rw [this, Nat.mul_div_mul_right _ _ (Nat.two_pow_pos _)]

theorem r52 : (1075 * 2 ^ 52 : Nat) < Ieee.double.infRung := by decide

theorem whole_lt {t : Nat} (h : rung Ieee.double t < 1075 * 2 ^ 52) : magOf Ieee.double (rung Ieee.double t) / U1 < 2 ^ 52 := by
  obtain ⟨q, hq⟩ : ∃ q : Nat, 1022 = q := ⟨_, rfl⟩
  have h1 : rung Ieee.double t < (q + 52 + 1) * 2 ^ 52 := by rw [← hq]; exact h
  have := mag_bound (q + 52) h1
  rw [Nat.div_lt_iff_lt_mul U1_pos, U1_pow q hq, ← Nat.pow_add]
  rw [show 52 + (52 + q) = 52 + (q + 52) by omega]; exact this

theorem whole_bd {t : Nat} (h : rung Ieee.double t < 1075 * 2 ^ 52) : -4503599627370496 < wholeOf t ∧ wholeOf t < 4503599627370496 := by
  have := whole_lt h
  unfold wholeOf
  generalize magOf Ieee.double (rung Ieee.double t) / U1 = N at *
  split <;> omega

theorem whole_conv {t : Nat} (h : rung Ieee.double t < 1075 * 2 ^ 52) : floatToIntVal .f64 t .i64 = some (wholeOf t) := by
  have hf : isFin .f64 t := Nat.lt_trans h r52
  obtain ⟨m, p, e, v⟩ := fin_read hf
  have hb := whole_bd h
  unfold floatToIntVal
  have e' : FloatKind.f64.decode t = .number (sgn Ieee.double t) m (Ieee.double.leastPlace + (p : Nat)) := e
  have key : (FloatKind.f64.decode t).toInt .zero = some (wholeOf t) := by
    rw [e']
    unfold Datum.toInt Datum.integral
    simp only [whole_cut]
    unfold wholeOf
    rw [← show m * 2 ^ p = magOf Ieee.double (rung Ieee.double t) from v, signed_natAbs, Nat.pow_zero, Nat.mul_one]
  rw [key]
  simp only []
  rw [if_pos]
  constructor
  · show (-9223372036854775808 : Int) ≤ _; omega
  · show _ ≤ (9223372036854775807 : Int); omega

/-- an integer below 2 ^ 53 is a float -/
theorem int_float (n : Int) (h : n.natAbs < 2 ^ 53) : isFin .f64 (floatOfInt .f64 n) ∧ sv Ieee.double (floatOfInt .f64 n) = n * (U1 : Int) ∧ (n = 0 ∨ sgn Ieee.double (floatOfInt .f64 n) = decide (n < 0)) := by
  have e0 : floatOfInt .f64 n = Ieee.double.nearest (decide (n < 0)) n.natAbs 0 := rfl
  rw [e0]
  by_cases h0 : n = 0
  · subst h0
    refine ⟨by unfold isFin; decide, ?_, .inl rfl⟩
    rw [Int.zero_mul]; rfl
  · have hn : n.natAbs ≠ 0 := by omega
    have hl : n.natAbs.log2 < 53 := (Nat.log2_lt hn).2 h
    have lp : Ieee.double.leastPlace = -1074 := rfl
    have fb : (Ieee.double.fractionBits : Int) = 52 := rfl
    have e1 : lastOf Ieee.double n.natAbs 0 = (n.natAbs.log2 : Int) - 52 := by unfold lastOf; rw [lp, fb]; omega
    have hr := rungOf_le Ieee.double (m := n.natAbs) 0 53 (by omega) (by rw [lp, fb]; omega)
    have hlt : rungOf Ieee.double n.natAbs 0 < Ieee.double.infRung := Nat.lt_of_le_of_lt hr (by decide)
    have hx := read_exact Ieee.double (decide (n < 0)) hn 0 (by rw [e1]; omega) hlt
    have hs : rungOf Ieee.double n.natAbs 0 < Ieee.double.signWeight := by have := Ieee.double.infRung_lt; omega
    have hw : Ieee.double.nearest (decide (n < 0)) n.natAbs 0 = Ieee.double.word (decide (n < 0)) (rungOf Ieee.double n.natAbs 0) := by
      rw [nearest_rung _ _ hn, Nat.min_eq_left (Nat.le_of_lt hlt)]
    have hrg : rung Ieee.double (Ieee.double.nearest (decide (n < 0)) n.natAbs 0) = rungOf Ieee.double n.natAbs 0 := by rw [hw, rung_word _ _ hs]
    have hsg : sgn Ieee.double (Ieee.double.nearest (decide (n < 0)) n.natAbs 0) = decide (n < 0) := by rw [hw, sgn_word _ _ hs]
    have hfin : isFin .f64 (Ieee.double.nearest (decide (n < 0)) n.natAbs 0) := by
      unfold isFin
      rw [show FloatKind.f64.format = Ieee.double from rfl, hrg]; exact hlt
    refine ⟨hfin, ?_, .inr hsg⟩
    obtain ⟨m, p, e, v⟩ := fin_read hfin
    have hx' := hx.symm.trans e
    injection hx' with _ a2 a3
    obtain ⟨q, hq⟩ : ∃ q : Nat, 1022 = q := ⟨_, rfl⟩
    have hmag : magOf Ieee.double (rung Ieee.double (Ieee.double.nearest (decide (n < 0)) n.natAbs 0)) = n.natAbs * U1 := by
      rw [← show m * 2 ^ p = magOf Ieee.double (rung Ieee.double (Ieee.double.nearest (decide (n < 0)) n.natAbs 0)) from v, ← a2, U1_pow q hq, Nat.mul_assoc, ← Nat.pow_add]
      congr 2
      have a3' : lastOf Ieee.double n.natAbs 0 = -1074 + (p : Int) := a3
      omega
    unfold sv
    rw [hsg, hmag]
    by_cases hneg : n < 0
    · rw [decide_eq_true hneg, if_pos rfl, Int.natCast_mul, ← Int.neg_mul]; congr 1; omega
    · rw [decide_eq_false hneg, if_neg (by simp), Int.natCast_mul]; congr 1; omega

/-- what is left when the whole turns are cut off: less than 1, of the number's own sign -/
theorem cut_part {t : Nat} (h : rung Ieee.double t < 1075 * 2 ^ 52) : ∃ v, cutO t = some v ∧ isFin .f64 v ∧ rung Ieee.double v ≤ 1023 * 2 ^ 52 ∧
    (rung Ieee.double v = 0 ∨ sgn Ieee.double v = sgn Ieee.double t) ∧ magOf Ieee.double (rung Ieee.double v) ≤ U1 := by
  have hf : isFin .f64 t := Nat.lt_trans h r52
  have hw := whole_lt h
  have hb := whole_bd h
  have ei := int_float (wholeOf t) (by omega)
  obtain ⟨fi, si, _⟩ := ei
  unfold cutO
  rw [canon_fin hf, canon_fin fi, sub_eq hf fi]
  refine ⟨_, rfl, ?_⟩
  have e0 : FloatKind.f64.format = Ieee.double := rfl
  have i1 : (1023 * 2 ^ 52 : Nat) < Ieee.double.infRung := by decide
  rw [e0, si]
  have hT : sv Ieee.double t - wholeOf t * (U1 : Int) = if sgn Ieee.double t then -((magOf Ieee.double (rung Ieee.double t) % U1 : Nat) : Int) else (magOf Ieee.double (rung Ieee.double t) % U1 : Nat) := by
    have hd := Nat.div_add_mod (magOf Ieee.double (rung Ieee.double t)) U1
    rw [Nat.mul_comm] at hd
    have hd' : ((magOf Ieee.double (rung Ieee.double t) / U1 : Nat) : Int) * (U1 : Int) + ((magOf Ieee.double (rung Ieee.double t) % U1 : Nat) : Int) = (magOf Ieee.double (rung Ieee.double t) : Int) := by
      rw [← Int.natCast_mul, ← Int.natCast_add, hd]
    unfold wholeOf sv
    generalize ((magOf Ieee.double (rung Ieee.double t) / U1 : Nat) : Int) = A at *
    generalize ((magOf Ieee.double (rung Ieee.double t) % U1 : Nat) : Int) = B at *
    generalize (magOf Ieee.double (rung Ieee.double t) : Int) = C at *
    split
    · rw [Int.neg_mul]; omega
    · omega
  have hm : magOf Ieee.double (rung Ieee.double t) % U1 < U1 := Nat.mod_lt _ U1_pos
  generalize hTT : sv Ieee.double t - wholeOf t * (U1 : Int) = T at *
  generalize magOf Ieee.double (rung Ieee.double t) % U1 = B at *
  by_cases h0 : T = 0
  · rw [if_pos h0]
    refine ⟨?_, ?_, ?_, ?_⟩
    · unfold isFin
      rw [e0, rung_word _ _ (by decide)]; decide
    · rw [rung_word _ _ (by decide)]; exact Nat.zero_le _
    · rw [rung_word _ _ (by decide)]; exact .inl rfl
    · rw [rung_word _ _ (by decide), magOf_zero]; exact Nat.zero_le _
  · rw [if_neg h0]
    have hTm : T.natAbs ≤ magOf Ieee.double (1023 * 2 ^ 52) := by
      show T.natAbs ≤ U1
      split at hT <;> omega
    have hr := round_units Ieee.double T h0 i1 hTm
    refine ⟨?_, hr.1, .inr ?_, ?_⟩
    · unfold isFin
      rw [e0]; exact Nat.lt_of_le_of_lt hr.1 i1
    · rw [hr.2]
      split at hT
      · rename_i hs; rw [hs, decide_eq_true]; omega
      · rename_i hs
        have : sgn Ieee.double t = false := by simpa using hs
        rw [this, decide_eq_false]; omega
    · unfold U1
      rcases Nat.lt_or_eq_of_le hr.1 with q | q
      · exact Nat.le_of_lt (magOf_lt _ q)
      · rw [q]; exact Nat.le_refl _

theorem c1_facts : rung Ieee.double c1 = 1023 * 2 ^ 52 ∧ sgn Ieee.double c1 = false := by decide

/-- THE PART OF A TURN IS FROM 0 TO 1. -/
theorem up_part {t : Nat} (h : rung Ieee.double t < 1075 * 2 ^ 52) : Up (1023 * 2 ^ 52) (partO t) := by
  obtain ⟨v, hv, hf, hr, hs, hm⟩ := cut_part h
  have i1 : (1023 * 2 ^ 52 : Nat) < Ieee.double.infRung := by decide
  have e0 : FloatKind.f64.format = Ieee.double := rfl
  unfold partO
  rw [hv, ltO_key hf (show isFin .f64 0 by unfold isFin; decide), show key Ieee.double 0 = 0 from rfl]
  by_cases hk : key Ieee.double v < 0
  · rw [decide_eq_true hk, if_pos rfl, add_eq hf c1_fin, e0]
    refine ⟨_, rfl, ?_⟩
    have hsv : sgn Ieee.double v = true ∧ rung Ieee.double v ≠ 0 := by
      unfold key at hk
      split at hk
      · rename_i q; exact ⟨q, by omega⟩
      · omega
    have s1 : sv Ieee.double v = -(magOf Ieee.double (rung Ieee.double v) : Int) := by unfold sv; rw [hsv.1]; rfl
    have s2 : sv Ieee.double c1 = (U1 : Int) := by unfold sv U1; rw [c1_facts.1, c1_facts.2]; rfl
    rw [s1, s2]
    have hpos := magOf_lt Ieee.double (r := 0) (s := rung Ieee.double v) (by omega)
    generalize magOf Ieee.double (rung Ieee.double v) = A at *
    by_cases h0 : -(A : Int) + (U1 : Int) = 0
    · rw [if_pos h0, rung_word _ _ (by decide)]
      exact ⟨Nat.zero_le _, .inr rfl⟩
    · rw [if_neg h0]
      have hr2 := round_units Ieee.double (-(A : Int) + (U1 : Int)) h0 i1 (by show _ ≤ U1; omega)
      refine ⟨hr2.1, .inl ?_⟩
      rw [hr2.2, decide_eq_false]; omega
  · rw [decide_eq_false hk]
    refine ⟨v, rfl, hr, ?_⟩
    unfold key at hk
    split at hk
    · exact .inr (by omega)
    · rename_i q; exact .inl (by simpa using q)

theorem Bd.neg {q : Nat} {o : Option Nat} (h : Bd q o) : Bd q (o.map (Op.negFloat .f64)) := by
  intro v hv
  cases o with
  | none => cases hv
  | some x =>
    simp only [Option.map_some, Option.some.injEq] at hv
    rw [← hv]
    have : rung Ieee.double (Op.negFloat .f64 x) = rung Ieee.double x := by
      show (x ^^^ 2 ^ 63) % 2 ^ 63 = x % 2 ^ 63
      apply Nat.eq_of_testBit_eq
      intro i
      rw [Nat.testBit_mod_two_pow, Nat.testBit_mod_two_pow, Nat.testBit_xor, Nat.testBit_two_pow]
      by_cases hi : i < 63
      · have : ¬ 63 = i := by omega
        simp [hi, this]
      · simp [hi]
    rw [this]; exact h x rfl

theorem bd_sineOf {g : Option Nat} (h : Up (1023 * 2 ^ 52) g) : Bd 1124 (sineOf g) := by
  unfold sineOf
  split
  · exact (bd_sine h).neg
  · exact bd_sine h

/-- a bound that lets narrow -/
theorem Bd.narrows {v : Nat} {o : Option Nat} (h : Bd 1149 o) (hv : canon .f64 v = o) : fits .f64 .f32 v := by
  cases o with
  | none => exact .inr (.inl (canon_none.1 hv))
  | some x =>
    obtain ⟨rfl, _⟩ := canon_some hv
    have := h _ rfl
    exact fits_narrow (Nat.lt_of_le_of_lt this (by decide))
end Go.Proofs.Ytdcpkndkehdhiad
