/- Several texts in one: facts on floats, lists, memory and the functions that the theorems beside this text use. Conditions: none beyond those of each theorem. -/
import Derived.Test.YtedfbaeajofmnaaBu0

set_option linter.unusedVariables false

section

namespace Go.Proofs.Ytedfbaeajofmnaa
open Go Ieee

theorem lastOf_scale (f : Format) {m : Nat} (h : m ≠ 0) (j : Nat) (e : Int) : lastOf f (m * 2 ^ j) e = lastOf f m (e + j) := by
  unfold lastOf; rw [log2_mul_pow h]; congr 1; omega

theorem rungOf_scale (f : Format) {m : Nat} (h : m ≠ 0) (j : Nat) (e : Int) : rungOf f (m * 2 ^ j) e = rungOf f m (e + j) := by
  unfold rungOf
  rw [lastOf_scale f h]
  generalize lastOf f m (e + j) = last
  congr 1
  simp only [shl_eq]
  rcases Int.le_total last e with a | a
  · have z1 : (last - e).toNat = 0 := by omega
    have z2 : (last - (e + j)).toNat = 0 := by omega
    rw [z1, z2, cut_zero, cut_zero, Nat.mul_assoc, ← Nat.pow_add]
    congr 2; omega
  · have z1 : (e - last).toNat = 0 := by omega
    rw [z1, Nat.pow_zero, Nat.mul_one]
    rcases Int.le_total last (e + j) with b | b
    · have z2 : (last - (e + j)).toNat = 0 := by omega
      rw [z2, cut_zero]
      have hj : (j : Nat) = (e + j - last).toNat + (last - e).toNat := by omega
      have : m * 2 ^ j = m * 2 ^ (e + j - last).toNat * 2 ^ (last - e).toNat := by
        rw [Nat.mul_assoc, ← Nat.pow_add, ← hj]
      rw [this]
      have := cut_scale false (m * 2 ^ (e + j - last).toNat) 0 (last - e).toNat
      rw [Nat.zero_add] at this
      rw [this, cut_zero]
    · have z2 : (e + j - last).toNat = 0 := by omega
      rw [z2, Nat.pow_zero, Nat.mul_one]
      have : (last - e).toNat = (last - (e + j)).toNat + j := by omega
      rw [this, cut_scale]

/-- the cut to the nearest is monotone -/
theorem cut_mono (n n' d : Nat) (h : n ≤ n') : Toward.even.cut false n d ≤ Toward.even.cut false n' d := by
  have hp : 0 < 2 ^ d := Nat.two_pow_pos d
  rcases Nat.lt_or_ge (n / 2 ^ d) (n' / 2 ^ d) with q | q
  · have h1 : Toward.even.cut false n d ≤ n / 2 ^ d + 1 := by
      apply cut_le
      have := Nat.div_add_mod n (2 ^ d)
      have := Nat.mod_lt n hp
      rw [Nat.add_mul, Nat.mul_comm]; omega
    have h2 : n' / 2 ^ d ≤ Toward.even.cut false n' d := by rw [cut_even]; exact Nat.le_add_right _ _
    omega
  · have hq : n / 2 ^ d = n' / 2 ^ d := Nat.le_antisymm (Nat.div_le_div_right h) q
    rw [cut_even, cut_even, hq]
    have m1 := Nat.div_add_mod n (2 ^ d)
    have m2 := Nat.div_add_mod n' (2 ^ d)
    rw [hq] at m1
    have hr : n % 2 ^ d ≤ n' % 2 ^ d := by omega
    apply Nat.add_le_add_left
    generalize n % 2 ^ d = r at *
    generalize n' % 2 ^ d = r' at *
    generalize n' / 2 ^ d % 2 = o
    by_cases c1 : 2 ^ d < 2 * r
    · have : 2 ^ d < 2 * r' := by omega
      simp [c1, this]
    · by_cases c2 : 2 ^ d = 2 * r
      · by_cases c3 : r = r'
        · subst c3; exact Nat.le_refl _
        · have : 2 ^ d < 2 * r' := by omega
          simp [this]
          cases (decide (2 ^ d < 2 * r) || decide (2 ^ d = 2 * r) && decide (o = 1)) <;> simp
      · simp [c1, c2]

theorem log2_mono {m m' : Nat} (h : m ≤ m') : m.log2 ≤ m'.log2 := by
  by_cases h0 : m = 0
  · subst h0; simp
  · have h1 : 2 ^ m.log2 ≤ m := Nat.log2_self_le h0
    have h2 : m' < 2 ^ (m'.log2 + 1) := Nat.lt_log2_self
    have : 2 ^ m.log2 < 2 ^ (m'.log2 + 1) := by omega
    have := (Nat.pow_lt_pow_iff_right (a := 2) (by omega)).1 this
    omega

theorem lastOf_mono (f : Format) {m m' : Nat} (h : m ≤ m') (e : Int) : lastOf f m e ≤ lastOf f m' e := by
  have := log2_mono h
  unfold lastOf; omega

/-- ROUNDING IS MONOTONE. -/
theorem rungOf_mono (f : Format) {m m' : Nat} (h0 : m ≠ 0) (h : m ≤ m') (e : Int) : rungOf f m e ≤ rungOf f m' e := by
    have hl := lastOf_mono f h e
    rcases Int.lt_or_eq_of_le hl with q | q
    · -- a greater binade
      have h0' : m' ≠ 0 := by omega
      have hB : f.binade = 2 ^ f.fractionBits := rfl
      have up : rungOf f m e ≤ ((lastOf f m e - f.leastPlace).toNat + 2) * f.binade := by
        have hll : f.leastPlace ≤ lastOf f m e := by unfold lastOf; omega
        have hm : e + m.log2 ≤ lastOf f m e + f.fractionBits := by unfold lastOf; omega
        have := rungOf_le f (m := m) e (lastOf f m e + f.fractionBits + 1) (by omega) (by omega)
        rw [show (lastOf f m e + f.fractionBits + 1 - 1 - f.fractionBits - f.leastPlace).toNat = (lastOf f m e - f.leastPlace).toNat by omega] at this
        exact this
      have hll : f.leastPlace ≤ lastOf f m e := by unfold lastOf; omega
      have hgt : lastOf f m' e = e + m'.log2 - f.fractionBits := by unfold lastOf at q hll ⊢; omega
      have low : ((lastOf f m' e - f.leastPlace).toNat + 1) * f.binade ≤ rungOf f m' e := by
        unfold rungOf
        rw [Nat.add_mul, Nat.one_mul]
        apply Nat.add_le_add_left
        rw [shl_eq, cut_even]
        refine Nat.le_trans ?_ (Nat.le_add_right _ _)
        have h1 : 2 ^ m'.log2 ≤ m' := Nat.log2_self_le h0'
        rw [Nat.le_div_iff_mul_le (Nat.two_pow_pos _), hB, ← Nat.pow_add]
        refine Nat.le_trans ?_ (Nat.mul_le_mul_right _ h1)
        rw [← Nat.pow_add]
        apply Nat.pow_le_pow_right (by omega)
        omega
      have : ((lastOf f m e - f.leastPlace).toNat + 2) * f.binade ≤ ((lastOf f m' e - f.leastPlace).toNat + 1) * f.binade := Nat.mul_le_mul_right _ (by omega)
      omega
    · unfold rungOf
      rw [q]
      apply Nat.add_le_add_left
      apply cut_mono
      simp only [shl_eq]
      exact Nat.mul_le_mul_right _ h

theorem magOf_zero (f : Format) : magOf f 0 = 0 := by
  unfold magOf; rw [if_pos (show 0 < f.binade from Nat.two_pow_pos _)]

theorem magOf_ne (f : Format) {r : Nat} (h : r ≠ 0) : magOf f r ≠ 0 := by
  have := magOf_lt f (r := 0) (s := r) (by omega)
  omega

/-- A WORD'S VALUE IS ROUNDED TO THE WORD. -/
theorem rungOf_mag (f : Format) {r : Nat} (h : r ≠ 0) : rungOf f (magOf f r) f.leastPlace = r := by
  have hB : 0 < f.binade := Nat.two_pow_pos _
  have hBe : f.binade = 2 ^ f.fractionBits := rfl
  unfold magOf
  by_cases h1 : r < f.binade
  · rw [if_pos h1]
    have hl : r.log2 < f.fractionBits := (Nat.log2_lt h).2 (by rw [← hBe]; exact h1)
    have e1 : lastOf f r f.leastPlace = f.leastPlace := by unfold lastOf; omega
    unfold rungOf
    rw [e1]
    have z : (f.leastPlace - f.leastPlace).toNat = 0 := by omega
    rw [z, cut_zero]; simp
  · rw [if_neg h1]
    have hm : r % f.binade < f.binade := Nat.mod_lt _ hB
    have hq : 1 ≤ r / f.binade := (Nat.le_div_iff_mul_le hB).2 (by omega)
    have hne : f.binade + r % f.binade ≠ 0 := by omega
    rw [rungOf_scale f hne]
    have hl : (f.binade + r % f.binade).log2 = f.fractionBits := by
      rw [Nat.log2_eq_iff hne, ← hBe, Nat.pow_succ, ← hBe]; omega
    have e1 : lastOf f (f.binade + r % f.binade) (f.leastPlace + (r / f.binade - 1 : Nat)) = f.leastPlace + (r / f.binade - 1 : Nat) := by unfold lastOf; rw [hl]; omega
    unfold rungOf
    rw [e1]
    have z : (f.leastPlace + ((r / f.binade - 1 : Nat) : Int) - (f.leastPlace + ((r / f.binade - 1 : Nat) : Int))).toNat = 0 := by omega
    have z2 : (f.leastPlace + ((r / f.binade - 1 : Nat) : Int) - f.leastPlace).toNat = r / f.binade - 1 := by omega
    rw [z, z2, cut_zero]
    simp only [shl_eq, Nat.pow_zero, Nat.mul_one]
    have hd := Nat.div_add_mod r f.binade
    have : (r / f.binade - 1) * f.binade + f.binade = f.binade * (r / f.binade) := by
      rw [← Nat.succ_mul, Nat.mul_comm]; congr 1; omega
    omega

/-- what is not above a word's value is not rounded above the word -/
theorem round_le (f : Format) {m : Nat} (h0 : m ≠ 0) (e : Int) {r : Nat} (c : Int) (hc : c ≤ e) (hc2 : c ≤ f.leastPlace) (h : m * 2 ^ (e - c).toNat ≤ magOf f r * 2 ^ (f.leastPlace - c).toNat) : rungOf f m e ≤ r := by
  have hr : r ≠ 0 := by
    intro hr
    rw [hr, magOf_zero, Nat.zero_mul] at h
    have := Nat.two_pow_pos (e - c).toNat
    rcases Nat.mul_eq_zero.1 (Nat.le_zero.1 h) with q | q <;> omega
  have h1 : rungOf f (m * 2 ^ (e - c).toNat) c = rungOf f m e := by rw [rungOf_scale f h0]; congr 1; omega
  have h2 : rungOf f (magOf f r * 2 ^ (f.leastPlace - c).toNat) c = r := by
    rw [rungOf_scale f (magOf_ne f hr), show c + ((f.leastPlace - c).toNat : Int) = f.leastPlace by omega, rungOf_mag f hr]
  rw [← h1]
  refine Nat.le_trans (rungOf_mono f ?_ h c) (Nat.le_of_eq h2)
  exact Nat.mul_ne_zero h0 (by have := Nat.two_pow_pos (e - c).toNat; omega)

/-- what is not below a word's value is not rounded below the word -/
theorem round_ge (f : Format) {m : Nat} (h0 : m ≠ 0) (e : Int) {r : Nat} (c : Int) (hc : c ≤ e) (hc2 : c ≤ f.leastPlace) (h : magOf f r * 2 ^ (f.leastPlace - c).toNat ≤ m * 2 ^ (e - c).toNat) : r ≤ rungOf f m e := by
  by_cases hr : r = 0
  · omega
  · have h1 : rungOf f (m * 2 ^ (e - c).toNat) c = rungOf f m e := by rw [rungOf_scale f h0]; congr 1; omega
    have h2 : rungOf f (magOf f r * 2 ^ (f.leastPlace - c).toNat) c = r := by
      rw [rungOf_scale f (magOf_ne f hr), show c + ((f.leastPlace - c).toNat : Int) = f.leastPlace by omega, rungOf_mag f hr]
    rw [← h1]
    refine Nat.le_trans (Nat.le_of_eq h2.symm) (rungOf_mono f ?_ h c)
    exact Nat.mul_ne_zero (magOf_ne f hr) (by have := Nat.two_pow_pos (f.leastPlace - c).toNat; omega)

/-! ### Sums in units of the least place -/

def sv (f : Format) (b : Nat) : Int := if sgn f b then -(magOf f (rung f b) : Int) else magOf f (rung f b)

def isFin (k : FloatKind) (b : Nat) : Prop := rung k.format b < k.format.infRung

theorem fin_read {k : FloatKind} {b : Nat} (h : isFin k b) : ∃ m p, k.format.read b = .number (sgn k.format b) m (k.format.leastPlace + (p : Nat)) ∧ m * 2 ^ p = magOf k.format (rung k.format b) := by
  rcases read_cases k.format b with ⟨_, m, p, e, v⟩ | ⟨h1, _⟩ | ⟨h1, _⟩ | h1
  · exact ⟨m, p, e, v⟩
  · unfold isFin at h; omega
  · unfold isFin at h; omega
  · exact absurd h1 (by cases k <;> decide)

theorem signed_natAbs (s : Bool) (m u : Nat) : signed s m u = if s then -((m * 2 ^ u : Nat) : Int) else ((m * 2 ^ u : Nat) : Int) := by
  unfold signed; rw [shl_eq]

/-- what a sum of two numbers is -/
theorem sum_units (f : Format) (s t : Bool) (m n p q : Nat) :
    ((Datum.number s m (f.leastPlace + (p : Nat))).sum (.number t n (f.leastPlace + (q : Nat)))).map f.write =
      some (if signed s (m * 2 ^ p) 0 + signed t (n * 2 ^ q) 0 = 0 then f.word (s && t) 0 else f.nearest (decide (signed s (m * 2 ^ p) 0 + signed t (n * 2 ^ q) 0 < 0)) (signed s (m * 2 ^ p) 0 + signed t (n * 2 ^ q) 0).natAbs f.leastPlace) := by
  simp only [Datum.sum, Option.map_some, Option.some.injEq]
  have hb : min (f.leastPlace + (p : Int)) (f.leastPlace + (q : Int)) = f.leastPlace + ((min p q : Nat) : Int) := by omega
  rw [hb]
  have z1 : (f.leastPlace + (p : Int) - (f.leastPlace + ((min p q : Nat) : Int))).toNat = p - min p q := by omega
  have z2 : (f.leastPlace + (q : Int) - (f.leastPlace + ((min p q : Nat) : Int))).toNat = q - min p q := by omega
  rw [z1, z2]
  have key : (signed s m (p - min p q) + signed t n (q - min p q)) * ((2 ^ min p q : Nat) : Int) = signed s (m * 2 ^ p) 0 + signed t (n * 2 ^ q) 0 := by
    rw [Int.add_mul, signed_mul, signed_mul, show p - min p q + min p q = p by omega, show q - min p q + min p q = q by omega]
  generalize signed s m (p - min p q) + signed t n (q - min p q) = T at *
  rw [← key]
  have hp : (0 : Int) < ((2 ^ min p q : Nat) : Int) := by have := Nat.two_pow_pos (min p q); omega
  by_cases h0 : T = 0
  · subst h0
    simp only [Int.zero_mul, if_true, Int.natAbs_zero]
    show f.nearest (s && t) 0 _ = _
    unfold Format.nearest; rw [if_pos rfl]
  · have h1 : T * ((2 ^ min p q : Nat) : Int) ≠ 0 := Int.mul_ne_zero h0 (by omega)
    rw [if_neg h0, if_neg h1]
    have e1 : (T * ((2 ^ min p q : Nat) : Int)).natAbs = T.natAbs * 2 ^ min p q := by rw [Int.natAbs_mul, Int.natAbs_natCast]
    rw [e1, nearest_scale f _ (by omega)]
    have e2 : decide (T * ((2 ^ min p q : Nat) : Int) < 0) = decide (T < 0) := by
      rw [decide_eq_decide]
      constructor
      · intro h
        by_cases a : T < 0
        · exact a
        · have := Int.mul_nonneg (show 0 ≤ T by omega) (Int.le_of_lt hp); omega
      · intro h; exact Int.mul_neg_of_neg_of_pos h hp
    rw [e2]; rfl

theorem sv_signed {k : FloatKind} {b m p : Nat} (h : m * 2 ^ p = magOf k.format (rung k.format b)) : signed (sgn k.format b) (m * 2 ^ p) 0 = sv k.format b := by
  rw [signed_natAbs, Nat.pow_zero, Nat.mul_one, h]; rfl

/-- A SUM: its exact value in units of the least place, rounded. -/
theorem add_eq {k : FloatKind} {x y : Nat} (hx : isFin k x) (hy : isFin k y) : fop .add k (some x) (some y) = some (if sv k.format x + sv k.format y = 0 then k.format.word (sgn k.format x && sgn k.format y) 0 else k.format.nearest (decide (sv k.format x + sv k.format y < 0)) (sv k.format x + sv k.format y).natAbs k.format.leastPlace) := by
  obtain ⟨m, p, e1, v1⟩ := fin_read hx
  obtain ⟨n, q, e2, v2⟩ := fin_read hy
  show k.format.add x y = _
  unfold Format.add
  rw [e1, e2, sum_units, sv_signed v1, sv_signed v2]

theorem sub_eq {k : FloatKind} {x y : Nat} (hx : isFin k x) (hy : isFin k y) : fop .sub k (some x) (some y) = some (if sv k.format x - sv k.format y = 0 then k.format.word (sgn k.format x && !sgn k.format y) 0 else k.format.nearest (decide (sv k.format x - sv k.format y < 0)) (sv k.format x - sv k.format y).natAbs k.format.leastPlace) := by
  obtain ⟨m, p, e1, v1⟩ := fin_read hx
  obtain ⟨n, q, e2, v2⟩ := fin_read hy
  show k.format.sub x y = _
  unfold Format.sub
  rw [e1, e2]
  have ho : signed (!sgn k.format y) (n * 2 ^ q) 0 = - sv k.format y := by
    rw [← sv_signed v2]
    rw [signed_natAbs, signed_natAbs]
    cases sgn k.format y <;> simp
  rw [show (Datum.number (sgn k.format y) n (k.format.leastPlace + (q : Nat))).opposite = .number (!sgn k.format y) n (k.format.leastPlace + (q : Nat)) from rfl, sum_units, sv_signed v1, ho, ← Int.sub_eq_add_neg]

/-- how great a rounded sum is, and of which sign -/
theorem round_units (f : Format) (T : Int) (h : T ≠ 0) {r : Nat} (hr : r < f.infRung) (hT : T.natAbs ≤ magOf f r) :
    rung f (f.nearest (decide (T < 0)) T.natAbs f.leastPlace) ≤ r ∧ sgn f (f.nearest (decide (T < 0)) T.natAbs f.leastPlace) = decide (T < 0) := by
  have h0 : T.natAbs ≠ 0 := by omega
  have hle : rungOf f T.natAbs f.leastPlace ≤ r := round_le f h0 f.leastPlace f.leastPlace (Int.le_refl _) (Int.le_refl _) (by
    have z : (f.leastPlace - f.leastPlace).toNat = 0 := by omega
    rw [z, Nat.pow_zero, Nat.mul_one, Nat.mul_one]; exact hT)
  rw [nearest_rung f _ h0, Nat.min_eq_left (by omega)]
  have hs : rungOf f T.natAbs f.leastPlace < f.signWeight := by have := f.infRung_lt; omega
  exact ⟨by rw [rung_word f _ hs]; exact hle, sgn_word f _ hs⟩

/-! ### Bounds by powers of two, in 64 bits -/

/-- a number, or a NaN, not above 2 ^ (q - 1023) -/
def Bd (q : Nat) (o : Option Nat) : Prop := ∀ v, o = some v → rung Ieee.double v ≤ q * 2 ^ 52

theorem dinf : Ieee.double.infRung = 2047 * 2 ^ 52 := by decide

theorem Bd.isFin' {q v : Nat} (h : Bd q (some v)) (hq : q ≤ 2046) : isFin .f64 v := by
  have := h v rfl
  unfold isFin
  rw [show FloatKind.f64.format = Ieee.double from rfl, dinf]; omega

theorem Bd.mono {q q' : Nat} {o : Option Nat} (h : Bd q o) (hq : q ≤ q') : Bd q' o := fun v hv => Nat.le_trans (h v hv) (Nat.mul_le_mul_right _ hq)

theorem log_le {q m p : Nat} (hq : 1 ≤ q) {r : Nat} (h0 : m ≠ 0) (h : m * 2 ^ p = magOf Ieee.double r) (hr : r ≤ q * 2 ^ 52) : m.log2 + p ≤ q + 51 := by
  rcases Nat.lt_or_ge r (q * 2 ^ 52) with a | a
  · obtain ⟨q', rfl⟩ : ∃ q', q = q' + 1 := ⟨q - 1, by omega⟩
    have := log_bound (q := q') h0 (by rw [h]; exact mag_bound q' a)
    omega
  · obtain rfl : r = q * 2 ^ 52 := by omega
    obtain ⟨q', rfl⟩ : ∃ q', q = q' + 1 := ⟨q - 1, by omega⟩
    rw [magOf_pow] at h
    have h2 : 2 ^ m.log2 ≤ m := Nat.log2_self_le h0
    have : 2 ^ (m.log2 + p) ≤ 2 ^ (52 + q') := by
      rw [Nat.pow_add, Nat.pow_add 2 52, ← h]; exact Nat.mul_le_mul_right _ h2
    have := (Nat.pow_le_pow_iff_right (a := 2) (by omega)).1 this
    omega

theorem bd_nearest {s : Bool} {m : Nat} {e : Int} {q : Nat} (hq : 2 ≤ q) (hq2 : q ≤ 2046) (h : m ≠ 0 → e + m.log2 ≤ (q : Int) - 1024) : rung Ieee.double (Ieee.double.nearest s m e) ≤ q * 2 ^ 52 := by
  by_cases h0 : m = 0
  · unfold Format.nearest; rw [if_pos h0, rung_word _ _ (by decide)]; omega
  · have hh := h h0
    have lp : Ieee.double.leastPlace = -1074 := rfl
    have fb : (Ieee.double.fractionBits : Int) = 52 := rfl
    have bn : Ieee.double.binade = 2 ^ 52 := rfl
    have hr := rungOf_le Ieee.double (m := m) e ((q : Int) - 1023) (by omega) (by rw [lp, fb]; omega)
    rw [lp, fb, bn, show ((q : Int) - 1023 - 1 - 52 - -1074).toNat + 2 = q by omega] at hr
    rw [nearest_rung _ _ h0]
    have hm : min (rungOf Ieee.double m e) Ieee.double.infRung ≤ q * 2 ^ 52 := Nat.le_trans (Nat.min_le_left ..) hr
    rw [rung_word _ _ (by have := Ieee.double.infRung_lt; have := Nat.min_le_right (rungOf Ieee.double m e) Ieee.double.infRung; omega)]
    exact hm

theorem log2_mul_le (m n : Nat) (hm : m ≠ 0) (hn : n ≠ 0) : (m * n).log2 ≤ m.log2 + n.log2 + 1 := by
  have h1 : m < 2 ^ (m.log2 + 1) := Nat.lt_log2_self
  have h2 : n < 2 ^ (n.log2 + 1) := Nat.lt_log2_self
  have : m * n < 2 ^ (m.log2 + n.log2 + 2) := by
    rw [show m.log2 + n.log2 + 2 = (m.log2 + 1) + (n.log2 + 1) by omega, Nat.pow_add]
    exact Nat.mul_lt_mul'' h1 h2
  have := (Nat.log2_lt (Nat.mul_ne_zero hm hn)).2 this
  omega

theorem Bd.none (q : Nat) : Bd q none := fun v h => by cases h

theorem Bd.mul {a b : Option Nat} {p q r : Nat} (ha : Bd p a) (hb : Bd q b) (hp : 1 ≤ p) (hq : 1 ≤ q) (hp2 : p ≤ 2046) (hq2 : q ≤ 2046) (hr : p + q ≤ r + 1021) (hr1 : 2 ≤ r) (hr2 : r ≤ 2046) : Bd r (fop .mul .f64 a b) := by
  cases a with
  | none => exact Bd.none r
  | some x =>
  cases b with
  | none => exact Bd.none r
  | some y =>
  obtain ⟨m, i, e1, v1⟩ := fin_read (ha.isFin' hp2)
  obtain ⟨n, j, e2, v2⟩ := fin_read (hb.isFin' hq2)
  intro v hv
  have h : some (Ieee.double.nearest (sgn Ieee.double x ^^ sgn Ieee.double y) (m * n) (Ieee.double.leastPlace + (i : Int) + (Ieee.double.leastPlace + (j : Int)))) = some v := by
    rw [← hv]
    show _ = Ieee.double.mul x y
    unfold Format.mul
    rw [show Ieee.double.read x = _ from e1, show Ieee.double.read y = _ from e2]; rfl
  injection h with h
  rw [← h]
  refine bd_nearest hr1 hr2 fun h0 => ?_
  have hm : m ≠ 0 := fun e => h0 (by rw [e, Nat.zero_mul])
  have hn : n ≠ 0 := fun e => h0 (by rw [e, Nat.mul_zero])
  have l1 := log_le hp hm v1 (ha x rfl)
  have l2 := log_le hq hn v2 (hb y rfl)
  have l3 := log2_mul_le m n hm hn
  have lp : Ieee.double.leastPlace = -1074 := rfl
  rw [lp]; omega

/-- divided by a number that is at least 2 ^ (c - 1023) -/
theorem Bd.quo {a : Option Nat} {y p c r : Nat} (ha : Bd p a) (hy : isFin .f64 y) (hc : c * 2 ^ 52 ≤ rung Ieee.double y) (hc1 : 1 ≤ c) (hp : 1 ≤ p) (hp2 : p ≤ 2046) (hr : p + 1024 ≤ r + c) (hr1 : 2 ≤ r) (hr2 : r ≤ 2046) : Bd r (fop .quo .f64 a (some y)) := by
  cases a with
  | none => exact Bd.none r
  | some x =>
  obtain ⟨m, i, e1, v1⟩ := fin_read (ha.isFin' hp2)
  obtain ⟨n, j, e2, v2⟩ := fin_read hy
  have hn : n ≠ 0 := by
    intro e
    rw [e, Nat.zero_mul] at v2
    have : rung FloatKind.f64.format y = rung Ieee.double y := rfl
    rw [this] at v2
    exact magOf_ne Ieee.double (r := rung Ieee.double y) (by omega) v2.symm
  intro v hv
  have hq : fop .quo .f64 (some x) (some y) = ((Datum.number (sgn Ieee.double x) m (Ieee.double.leastPlace + (i : Int))).quotient (Ieee.double.fractionBits + 2) (.number (sgn Ieee.double y) n (Ieee.double.leastPlace + (j : Int)))).map Ieee.double.write := by
    show Ieee.double.div x y = _
    unfold Format.div
    rw [show Ieee.double.read x = _ from e1, show Ieee.double.read y = _ from e2]; rfl
  rw [hq] at hv
  simp only [Datum.quotient, if_neg hn, Option.map_some, Option.some.injEq] at hv
  have hv' : Ieee.double.nearest (sgn Ieee.double x ^^ sgn Ieee.double y) (2 * ((m <<< (Ieee.double.fractionBits + 2 + n.log2 - m.log2)) / n) + ((m <<< (Ieee.double.fractionBits + 2 + n.log2 - m.log2)) % n != 0).toNat) (Ieee.double.leastPlace + (i : Int) - (Ieee.double.leastPlace + (j : Int)) - ((Ieee.double.fractionBits + 2 + n.log2 - m.log2 : Nat) : Int) - 1) = v := hv
  rw [← hv']
  clear hv' hv hq
  have hmore : n.log2 < m.log2 + 1 + (Ieee.double.fractionBits + 2 + n.log2 - m.log2) := by omega
  generalize Ieee.double.fractionBits + 2 + n.log2 - m.log2 = more at hmore ⊢
  refine bd_nearest hr1 hr2 fun h0 => ?_
  have l2 : c + 51 ≤ n.log2 + j := by
    obtain ⟨c', rfl⟩ : ∃ c', c = c' + 1 := ⟨c - 1, by omega⟩
    have hge : magOf Ieee.double ((c' + 1) * 2 ^ 52) ≤ magOf Ieee.double (rung Ieee.double y) := by
      rcases Nat.lt_or_eq_of_le hc with a | a
      · exact Nat.le_of_lt (magOf_lt _ a)
      · rw [a]; exact Nat.le_refl _
    rw [magOf_pow, ← show n * 2 ^ j = magOf Ieee.double (rung Ieee.double y) from v2] at hge
    have h2 : n < 2 ^ (n.log2 + 1) := Nat.lt_log2_self
    have : 2 ^ (52 + c') < 2 ^ (n.log2 + 1 + j) := by
      rw [Nat.pow_add, Nat.pow_add 2 (n.log2 + 1)]
      exact Nat.lt_of_le_of_lt hge (Nat.mul_lt_mul_of_pos_right h2 (Nat.two_pow_pos _))
    have := (Nat.pow_lt_pow_iff_right (a := 2) (by omega)).1 this
    omega
  by_cases hm : m = 0
  · subst hm
    simp at h0
  · have l1 := log_le hp hm v1 (ha x rfl)
    have hb : ((m <<< more) % n != 0).toNat ≤ 1 := by cases ((m <<< more) % n != 0) <;> simp
    have hm2 : m < 2 ^ (m.log2 + 1) := Nat.lt_log2_self
    have hn2 : 2 ^ n.log2 ≤ n := Nat.log2_self_le hn
    have lp : Ieee.double.leastPlace = -1074 := rfl
    have hd : (m <<< more) / n < 2 ^ (m.log2 + 1 + more - n.log2) := by
      rw [Nat.div_lt_iff_lt_mul (by omega), shl_eq]
      calc m * 2 ^ more < 2 ^ (m.log2 + 1) * 2 ^ more := Nat.mul_lt_mul_of_pos_right hm2 (Nat.two_pow_pos _)
        _ = 2 ^ (m.log2 + 1 + more - n.log2) * 2 ^ n.log2 := by rw [← Nat.pow_add, ← Nat.pow_add]; congr 1; omega
        _ ≤ 2 ^ (m.log2 + 1 + more - n.log2) * n := Nat.mul_le_mul_left _ hn2
    have hM : 2 * ((m <<< more) / n) + ((m <<< more) % n != 0).toNat < 2 ^ (m.log2 + 1 + more - n.log2 + 1) := by
      rw [Nat.pow_succ]; omega
    have := (Nat.log2_lt h0).2 hM
    rw [lp]; omega
end Go.Proofs.Ytedfbaeajofmnaa

end
