/- Several texts in one: facts on floats, lists, memory and the functions that the theorems beside this text use. Conditions: none beyond those of each theorem. -/
import Derived.Test.YtedfbaeajofmnaaBu0

set_option linter.unusedVariables false

section

namespace Go.Proofs.Ytedfbaeajofmnaa
open Go Ieee Go.RowKit

def subB (b : Nat) : Bool := decide (0 < rung Ieee.single b ∧ rung Ieee.single b < 8388608)

theorem infS : Ieee.single.infRung = 2139095040 := by decide

theorem sub_nan {b : Nat} (h : isN .f32 b = true) : subB b = false := by
  have := (isN_iff .f32 b).1 h
  have e : FloatKind.f32.format.infRung = 2139095040 := infS
  have e2 : FloatKind.f32.format = Ieee.single := rfl
  rw [e2] at this; rw [e2] at e
  unfold subB; rw [decide_eq_false]; omega

theorem key_zero_iff (f : Format) (b : Nat) : key f b = 0 ↔ rung f b = 0 := by
  unfold key; split <;> omega

/-- the exponent's bits are none just where the rung is small -/
theorem mask_test (b : Nat) (hb : b < 2 ^ 32) : (bits .and .i64 (bitsOf b) 2139095040 == 0) = decide (rung Ieee.single b < 8388608) := by
  have hr : rung Ieee.single b = b % 2147483648 := rfl
  unfold bitsOf
  by_cases hn : isN .f32 b = true
  · rw [if_pos hn]
    have := (isN_iff .f32 b).1 hn
    have e2 : FloatKind.f32.format = Ieee.single := rfl
    rw [e2, infS] at this
    rw [decide_eq_false (by omega)]
    decide
  · rw [if_neg hn]
    have hn' : isN .f32 b = false := by simpa using hn
    have := isN_false hn'
    have e2 : FloatKind.f32.format = Ieee.single := rfl
    rw [e2, infS] at this
    have e := i64_and_nat b 2139095040 (by omega)
    rw [show ((2139095040 : Nat) : Int) = 2139095040 from rfl, show (2139095040 % 18446744073709551616 : Nat) = 2139095040 from rfl, and_exponent] at e
    rw [e, Bool.eq_iff_iff]
    simp only [beq_iff_eq, decide_eq_true_eq]
    omega

/-! ### Flushed numbers -/

/-- the zero with a word's sign -/
def zeroLike (b : Nat) : Nat := if sgn Ieee.single b then 2147483648 else 0
def flushed (b : Nat) : Nat := if subB b then zeroLike b else b

theorem narrow_zero (s : Bool) (v : Nat) (h : canon .f32 v = fconv .f64 .f32 (canon .f64 (if s then 9223372036854775808 else 0))) : v = if s then 2147483648 else 0 := by
  cases s
  · have e : fconv .f64 .f32 (canon .f64 0) = some 0 := by rfl
    have h' : canon .f32 v = some 0 := h.trans e
    exact (canon_some h').1.symm
  · have e : fconv .f64 .f32 (canon .f64 9223372036854775808) = some 2147483648 := by rfl
    have h' : canon .f32 v = some 2147483648 := h.trans e
    exact (canon_some h').1.symm

theorem fits_zero (s : Bool) : fits .f64 .f32 (if s then 9223372036854775808 else 0) := by
  cases s <;> exact fits_narrow (by decide)

/-! ### Roots -/

theorem sqrt_eq (v : Nat) : Extern.MathSqrt.sqrt #[.float .f64 v] = (match FloatKind.f64.format.sqrt v with
    | some r => pure (.float .f64 r)
    | none => do pure (.float .f64 (← choose (.nanBits .f64 v v)))) := rfl

end Go.Proofs.Ytedfbaeajofmnaa

end

section

namespace Go.Proofs.Ytedfbaeajofmnaa
open Go Ieee Go.RowKit

/-- what a root's narrowed number is -/
def oroot (b : Option Nat) : Option Nat := fconv .f64 .f32 (fsqrt (fconv .f32 .f64 b))

end Go.Proofs.Ytedfbaeajofmnaa

end

section

namespace Go.Proofs.Ytedfbaeajofmnaa
open Go Ieee

theorem lastOf_scale (f : Format) {m : Nat} (h : m ≠ 0) (j : Nat) (e : Int) : lastOf f (m * 2 ^ j) e = lastOf f m (e + j) := by
  unfold lastOf; rw [log2_mul_pow h]; congr 1; omega

theorem rungOf_scale (f : Format) {m : Nat} (h : m ≠ 0) (j : Nat) (e : Int) : rungOf f (m * 2 ^ j) e = rungOf f m (e + j) := by
  unfold rungOf
  rw [lastOf_scale f h]
  generalize lastOf f m (e + j) = last
  congr 1
  simp only [shl_eq]
  rcases Int.le_total last e with a | a
  · have z1 : (last - e).toNat = 0 := by omega
    have z2 : (last - (e + j)).toNat = 0 := by omega
    rw [z1, z2, cut_zero, cut_zero, Nat.mul_assoc, ← Nat.pow_add]
    congr 2; omega
  · have z1 : (e - last).toNat = 0 := by omega
    rw [z1, Nat.pow_zero, Nat.mul_one]
    rcases Int.le_total last (e + j) with b | b
    · have z2 : (last - (e + j)).toNat = 0 := by omega
      rw [z2, cut_zero]
      have hj : (j : Nat) = (e + j - last).toNat + (last - e).toNat := by omega
      have : m * 2 ^ j = m * 2 ^ (e + j - last).toNat * 2 ^ (last - e).toNat := by
        rw [Nat.mul_assoc, ← Nat.pow_add, ← hj]
      rw [this]
      have := cut_scale false (m * 2 ^ (e + j - last).toNat) 0 (last - e).toNat
      rw [Nat.zero_add] at this
      rw [this, cut_zero]
    · have z2 : (e + j - last).toNat = 0 := by omega
      rw [z2, Nat.pow_zero, Nat.mul_one]
      have : (last - e).toNat = (last - (e + j)).toNat + j := by omega
      rw [this, cut_scale]

/-- the cut to the nearest is monotone -/
theorem cut_mono (n n' d : Nat) (h : n ≤ n') : Toward.even.cut false n d ≤ Toward.even.cut false n' d := by
  have hp : 0 < 2 ^ d := Nat.two_pow_pos d
  rcases Nat.lt_or_ge (n / 2 ^ d) (n' / 2 ^ d) with q | q
  · have h1 : Toward.even.cut false n d ≤ n / 2 ^ d + 1 := by
      apply cut_le
      have := Nat.div_add_mod n (2 ^ d)
      have := Nat.mod_lt n hp
      rw [Nat.add_mul, Nat.mul_comm]; omega
    have h2 : n' / 2 ^ d ≤ Toward.even.cut false n' d := by rw [cut_even]; exact Nat.le_add_right _ _
    omega
  · have hq : n / 2 ^ d = n' / 2 ^ d := Nat.le_antisymm (Nat.div_le_div_right h) q
    rw [cut_even, cut_even, hq]
    have m1 := Nat.div_add_mod n (2 ^ d)
    have m2 := Nat.div_add_mod n' (2 ^ d)
    rw [hq] at m1
    have hr : n % 2 ^ d ≤ n' % 2 ^ d := by omega
    apply Nat.add_le_add_left
    generalize n % 2 ^ d = r at *
    generalize n' % 2 ^ d = r' at *
    generalize n' / 2 ^ d % 2 = o
    by_cases c1 : 2 ^ d < 2 * r
    · have : 2 ^ d < 2 * r' := by omega
      simp [c1, this]
    · by_cases c2 : 2 ^ d = 2 * r
      · by_cases c3 : r = r'
        · subst c3; exact Nat.le_refl _
        · have : 2 ^ d < 2 * r' := by omega
          simp [this]
          cases (decide (2 ^ d < 2 * r) || decide (2 ^ d = 2 * r) && decide (o = 1)) <;> simp
      · simp [c1, c2]

theorem log2_mono {m m' : Nat} (h : m ≤ m') : m.log2 ≤ m'.log2 := by
  by_cases h0 : m = 0
  · subst h0; simp
  · have h1 : 2 ^ m.log2 ≤ m := Nat.log2_self_le h0
    have h2 : m' < 2 ^ (m'.log2 + 1) := Nat.lt_log2_self
    have : 2 ^ m.log2 < 2 ^ (m'.log2 + 1) := by omega
    have := (Nat.pow_lt_pow_iff_right (a := 2) (by omega)).1 this
    omega

theorem lastOf_mono (f : Format) {m m' : Nat} (h : m ≤ m') (e : Int) : lastOf f m e ≤ lastOf f m' e := by
  have := log2_mono h
  unfold lastOf; omega

/-- ROUNDING IS MONOTONE. -/
theorem rungOf_mono (f : Format) {m m' : Nat} (h0 : m ≠ 0) (h : m ≤ m') (e : Int) : rungOf f m e ≤ rungOf f m' e := by
    have hl := lastOf_mono f h e
    rcases Int.lt_or_eq_of_le hl with q | q
    · -- a greater binade
      have h0' : m' ≠ 0 := by omega
      have hB : f.binade = 2 ^ f.fractionBits := rfl
      have up : rungOf f m e ≤ ((lastOf f m e - f.leastPlace).toNat + 2) * f.binade := by
        have hll : f.leastPlace ≤ lastOf f m e := by unfold lastOf; omega
        have hm : e + m.log2 ≤ lastOf f m e + f.fractionBits := by unfold lastOf; omega
        have := rungOf_le f (m := m) e (lastOf f m e + f.fractionBits + 1) (by omega) (by omega)
        rw [show (lastOf f m e + f.fractionBits + 1 - 1 - f.fractionBits - f.leastPlace).toNat = (lastOf f m e - f.leastPlace).toNat by omega] at this
        exact this
      have hll : f.leastPlace ≤ lastOf f m e := by unfold lastOf; omega
      have hgt : lastOf f m' e = e + m'.log2 - f.fractionBits := by unfold lastOf at q hll ⊢; omega
      have low : ((lastOf f m' e - f.leastPlace).toNat + 1) * f.binade ≤ rungOf f m' e := by
        unfold rungOf
        rw [Nat.add_mul, Nat.one_mul]
        apply Nat.add_le_add_left
        rw [shl_eq, cut_even]
        refine Nat.le_trans ?_ (Nat.le_add_right _ _)
        have h1 : 2 ^ m'.log2 ≤ m' := Nat.log2_self_le h0'
        rw [Nat.le_div_iff_mul_le (Nat.two_pow_pos _), hB, ← Nat.pow_add]
        refine Nat.le_trans ?_ (Nat.mul_le_mul_right _ h1)
        rw [← Nat.pow_add]
        apply Nat.pow_le_pow_right (by omega)
        omega
      have : ((lastOf f m e - f.leastPlace).toNat + 2) * f.binade ≤ ((lastOf f m' e - f.leastPlace).toNat + 1) * f.binade := Nat.mul_le_mul_right _ (by omega)
      omega
    · unfold rungOf
      rw [q]
      apply Nat.add_le_add_left
      apply cut_mono
      simp only [shl_eq]
      exact Nat.mul_le_mul_right _ h

theorem magOf_zero (f : Format) : magOf f 0 = 0 := by
  unfold magOf; rw [if_pos (show 0 < f.binade from Nat.two_pow_pos _)]

theorem magOf_ne (f : Format) {r : Nat} (h : r ≠ 0) : magOf f r ≠ 0 := by
  have := magOf_lt f (r := 0) (s := r) (by omega)
  omega

/-- A WORD'S VALUE IS ROUNDED TO THE WORD. -/
theorem rungOf_mag (f : Format) {r : Nat} (h : r ≠ 0) : rungOf f (magOf f r) f.leastPlace = r := by
  have hB : 0 < f.binade := Nat.two_pow_pos _
  have hBe : f.binade = 2 ^ f.fractionBits := rfl
  unfold magOf
  by_cases h1 : r < f.binade
  · rw [if_pos h1]
    have hl : r.log2 < f.fractionBits := (Nat.log2_lt h).2 (by rw [← hBe]; exact h1)
    have e1 : lastOf f r f.leastPlace = f.leastPlace := by unfold lastOf; omega
    unfold rungOf
    rw [e1]
    have z : (f.leastPlace - f.leastPlace).toNat = 0 := by omega
    rw [z, cut_zero]; simp
  · rw [if_neg h1]
    have hm : r % f.binade < f.binade := Nat.mod_lt _ hB
    have hq : 1 ≤ r / f.binade := (Nat.le_div_iff_mul_le hB).2 (by omega)
    have hne : f.binade + r % f.binade ≠ 0 := by omega
    rw [rungOf_scale f hne]
    have hl : (f.binade + r % f.binade).log2 = f.fractionBits := by
      rw [Nat.log2_eq_iff hne, ← hBe, Nat.pow_succ, ← hBe]; omega
    have e1 : lastOf f (f.binade + r % f.binade) (f.leastPlace + (r / f.binade - 1 : Nat)) = f.leastPlace + (r / f.binade - 1 : Nat) := by unfold lastOf; rw [hl]; omega
    unfold rungOf
    rw [e1]
    have z : (f.leastPlace + ((r / f.binade - 1 : Nat) : Int) - (f.leastPlace + ((r / f.binade - 1 : Nat) : Int))).toNat = 0 := by omega
    have z2 : (f.leastPlace + ((r / f.binade - 1 : Nat) : Int) - f.leastPlace).toNat = r / f.binade - 1 := by omega
    rw [z, z2, cut_zero]
    simp only [shl_eq, Nat.pow_zero, Nat.mul_one]
    have hd := Nat.div_add_mod r f.binade
    have : (r / f.binade - 1) * f.binade + f.binade = f.binade * (r / f.binade) := by
      rw [← Nat.succ_mul, Nat.mul_comm]; congr 1; omega
    omega

/-- what is not above a word's value is not rounded above the word -/
theorem round_le (f : Format) {m : Nat} (h0 : m ≠ 0) (e : Int) {r : Nat} (c : Int) (hc : c ≤ e) (hc2 : c ≤ f.leastPlace) (h : m * 2 ^ (e - c).toNat ≤ magOf f r * 2 ^ (f.leastPlace - c).toNat) : rungOf f m e ≤ r := by
  have hr : r ≠ 0 := by
    intro hr
    rw [hr, magOf_zero, Nat.zero_mul] at h
    have := Nat.two_pow_pos (e - c).toNat
    rcases Nat.mul_eq_zero.1 (Nat.le_zero.1 h) with q | q <;> omega
  have h1 : rungOf f (m * 2 ^ (e - c).toNat) c = rungOf f m e := by rw [rungOf_scale f h0]; congr 1; omega
  have h2 : rungOf f (magOf f r * 2 ^ (f.leastPlace - c).toNat) c = r := by
    rw [rungOf_scale f (magOf_ne f hr), show c + ((f.leastPlace - c).toNat : Int) = f.leastPlace by omega, rungOf_mag f hr]
  rw [← h1]
  refine Nat.le_trans (rungOf_mono f ?_ h c) (Nat.le_of_eq h2)
  exact Nat.mul_ne_zero h0 (by have := Nat.two_pow_pos (e - c).toNat; omega)

/-- what is not below a word's value is not rounded below the word -/
theorem round_ge (f : Format) {m : Nat} (h0 : m ≠ 0) (e : Int) {r : Nat} (c : Int) (hc : c ≤ e) (hc2 : c ≤ f.leastPlace) (h : magOf f r * 2 ^ (f.leastPlace - c).toNat ≤ m * 2 ^ (e - c).toNat) : r ≤ rungOf f m e := by
  by_cases hr : r = 0
  · omega
  · have h1 : rungOf f (m * 2 ^ (e - c).toNat) c = rungOf f m e := by rw [rungOf_scale f h0]; congr 1; omega
    have h2 : rungOf f (magOf f r * 2 ^ (f.leastPlace - c).toNat) c = r := by
      rw [rungOf_scale f (magOf_ne f hr), show c + ((f.leastPlace - c).toNat : Int) = f.leastPlace by omega, rungOf_mag f hr]
    rw [← h1]
    refine Nat.le_trans (Nat.le_of_eq h2.symm) (rungOf_mono f ?_ h c)
    exact Nat.mul_ne_zero (magOf_ne f hr) (by have := Nat.two_pow_pos (f.leastPlace - c).toNat; omega)

/-! ### Sums in units of the least place -/

def sv (f : Format) (b : Nat) : Int := if sgn f b then -(magOf f (rung f b) : Int) else magOf f (rung f b)

def isFin (k : FloatKind) (b : Nat) : Prop := rung k.format b < k.format.infRung

theorem fin_read {k : FloatKind} {b : Nat} (h : isFin k b) : ∃ m p, k.format.read b = .number (sgn k.format b) m (k.format.leastPlace + (p : Nat)) ∧ m * 2 ^ p = magOf k.format (rung k.format b) := by
  rcases read_cases k.format b with ⟨_, m, p, e, v⟩ | ⟨h1, _⟩ | ⟨h1, _⟩ | h1
  · exact ⟨m, p, e, v⟩
  · unfold isFin at h; omega
  · unfold isFin at h; omega
  · exact absurd h1 (by cases k <;> decide)

theorem signed_natAbs (s : Bool) (m u : Nat) : signed s m u = if s then -((m * 2 ^ u : Nat) : Int) else ((m * 2 ^ u : Nat) : Int) := by
  unfold signed; rw [shl_eq]

/-- what a sum of two numbers is -/
theorem sum_units (f : Format) (s t : Bool) (m n p q : Nat) :
    ((Datum.number s m (f.leastPlace + (p : Nat))).sum (.number t n (f.leastPlace + (q : Nat)))).map f.write =
      some (if signed s (m * 2 ^ p) 0 + signed t (n * 2 ^ q) 0 = 0 then f.word (s && t) 0 else f.nearest (decide (signed s (m * 2 ^ p) 0 + signed t (n * 2 ^ q) 0 < 0)) (signed s (m * 2 ^ p) 0 + signed t (n * 2 ^ q) 0).natAbs f.leastPlace) := by
  simp only [Datum.sum, Option.map_some, Option.some.injEq]
  have hb : min (f.leastPlace + (p : Int)) (f.leastPlace + (q : Int)) = f.leastPlace + ((min p q : Nat) : Int) := by omega
  rw [hb]
  have z1 : (f.leastPlace + (p : Int) - (f.leastPlace + ((min p q : Nat) : Int))).toNat = p - min p q := by omega
  have z2 : (f.leastPlace + (q : Int) - (f.leastPlace + ((min p q : Nat) : Int))).toNat = q - min p q := by omega
  rw [z1, z2]
  have key : (signed s m (p - min p q) + signed t n (q - min p q)) * ((2 ^ min p q : Nat) : Int) = signed s (m * 2 ^ p) 0 + signed t (n * 2 ^ q) 0 := by
    rw [Int.add_mul, signed_mul, signed_mul, show p - min p q + min p q = p by omega, show q - min p q + min p q = q by omega]
  generalize signed s m (p - min p q) + signed t n (q - min p q) = T at *
  rw [← key]
  have hp : (0 : Int) < ((2 ^ min p q : Nat) : Int) := by have := Nat.two_pow_pos (min p q); omega
  by_cases h0 : T = 0
  · subst h0
    simp only [Int.zero_mul, if_true, Int.natAbs_zero]
    show f.nearest (s && t) 0 _ = _
    unfold Format.nearest; rw [if_pos rfl]
  · have h1 : T * ((2 ^ min p q : Nat) : Int) ≠ 0 := Int.mul_ne_zero h0 (by omega)
    rw [if_neg h0, if_neg h1]
    have e1 : (T * ((2 ^ min p q : Nat) : Int)).natAbs = T.natAbs * 2 ^ min p q := by rw [Int.natAbs_mul, Int.natAbs_natCast]
    rw [e1, nearest_scale f _ (by omega)]
    have e2 : decide (T * ((2 ^ min p q : Nat) : Int) < 0) = decide (T < 0) := by
      rw [decide_eq_decide]
      constructor
      · intro h
        by_cases a : T < 0
        · exact a
        · have := Int.mul_nonneg (show 0 ≤ T by omega) (Int.le_of_lt hp); omega
      · intro h; exact Int.mul_neg_of_neg_of_pos h hp
    rw [e2]; rfl

theorem sv_signed {k : FloatKind} {b m p : Nat} (h : m * 2 ^ p = magOf k.format (rung k.format b)) : signed (sgn k.format b) (m * 2 ^ p) 0 = sv k.format b := by
  rw [signed_natAbs, Nat.pow_zero, Nat.mul_one, h]; rfl

/-- A SUM: its exact value in units of the least place, rounded. -/
theorem add_eq {k : FloatKind} {x y : Nat} (hx : isFin k x) (hy : isFin k y) : fop .add k (some x) (some y) = some (if sv k.format x + sv k.format y = 0 then k.format.word (sgn k.format x && sgn k.format y) 0 else k.format.nearest (decide (sv k.format x + sv k.format y < 0)) (sv k.format x + sv k.format y).natAbs k.format.leastPlace) := by
  obtain ⟨m, p, e1, v1⟩ := fin_read hx
  obtain ⟨n, q, e2, v2⟩ := fin_read hy
  show k.format.add x y = _
  unfold Format.add
  rw [e1, e2, sum_units, sv_signed v1, sv_signed v2]

theorem sub_eq {k : FloatKind} {x y : Nat} (hx : isFin k x) (hy : isFin k y) : fop .sub k (some x) (some y) = some (if sv k.format x - sv k.format y = 0 then k.format.word (sgn k.format x && !sgn k.format y) 0 else k.format.nearest (decide (sv k.format x - sv k.format y < 0)) (sv k.format x - sv k.format y).natAbs k.format.leastPlace) := by
  obtain ⟨m, p, e1, v1⟩ := fin_read hx
  obtain ⟨n, q, e2, v2⟩ := fin_read hy
  show k.format.sub x y = _
  unfold Format.sub
  rw [e1, e2]
  have ho : signed (!sgn k.format y) (n * 2 ^ q) 0 = - sv k.format y := by
    rw [← sv_signed v2]
    rw [signed_natAbs, signed_natAbs]
    cases sgn k.format y <;> simp
  rw [show (Datum.number (sgn k.format y) n (k.format.leastPlace + (q : Nat))).opposite = .number (!sgn k.format y) n (k.format.leastPlace + (q : Nat)) from rfl, sum_units, sv_signed v1, ho, ← Int.sub_eq_add_neg]

/-- how great a rounded sum is, and of which sign -/
theorem round_units (f : Format) (T : Int) (h : T ≠ 0) {r : Nat} (hr : r < f.infRung) (hT : T.natAbs ≤ magOf f r) :
    rung f (f.nearest (decide (T < 0)) T.natAbs f.leastPlace) ≤ r ∧ sgn f (f.nearest (decide (T < 0)) T.natAbs f.leastPlace) = decide (T < 0) := by
  have h0 : T.natAbs ≠ 0 := by omega
  have hle : rungOf f T.natAbs f.leastPlace ≤ r := round_le f h0 f.leastPlace f.leastPlace (Int.le_refl _) (Int.le_refl _) (by
    have z : (f.leastPlace - f.leastPlace).toNat = 0 := by omega
    rw [z, Nat.pow_zero, Nat.mul_one, Nat.mul_one]; exact hT)
  rw [nearest_rung f _ h0, Nat.min_eq_left (by omega)]
  have hs : rungOf f T.natAbs f.leastPlace < f.signWeight := by have := f.infRung_lt; omega
  exact ⟨by rw [rung_word f _ hs]; exact hle, sgn_word f _ hs⟩

/-! ### Bounds by powers of two, in 64 bits -/

/-- a number, or a NaN, not above 2 ^ (q - 1023) -/
def Bd (q : Nat) (o : Option Nat) : Prop := ∀ v, o = some v → rung Ieee.double v ≤ q * 2 ^ 52

theorem dinf : Ieee.double.infRung = 2047 * 2 ^ 52 := by decide

theorem Bd.isFin' {q v : Nat} (h : Bd q (some v)) (hq : q ≤ 2046) : isFin .f64 v := by
  have := h v rfl
  unfold isFin
  rw [show FloatKind.f64.format = Ieee.double from rfl, dinf]; omega

theorem Bd.mono {q q' : Nat} {o : Option Nat} (h : Bd q o) (hq : q ≤ q') : Bd q' o := fun v hv => Nat.le_trans (h v hv) (Nat.mul_le_mul_right _ hq)

theorem log_le {q m p : Nat} (hq : 1 ≤ q) {r : Nat} (h0 : m ≠ 0) (h : m * 2 ^ p = magOf Ieee.double r) (hr : r ≤ q * 2 ^ 52) : m.log2 + p ≤ q + 51 := by
  rcases Nat.lt_or_ge r (q * 2 ^ 52) with a | a
  · obtain ⟨q', rfl⟩ : ∃ q', q = q' + 1 := ⟨q - 1, by omega⟩
    have := log_bound (q := q') h0 (by rw [h]; exact mag_bound q' a)
    omega
  · obtain rfl : r = q * 2 ^ 52 := by omega
    obtain ⟨q', rfl⟩ : ∃ q', q = q' + 1 := ⟨q - 1, by omega⟩
    rw [magOf_pow] at h
    have h2 : 2 ^ m.log2 ≤ m := Nat.log2_self_le h0
    have : 2 ^ (m.log2 + p) ≤ 2 ^ (52 + q') := by
      rw [Nat.pow_add, Nat.pow_add 2 52, ← h]; exact Nat.mul_le_mul_right _ h2
    have := (Nat.pow_le_pow_iff_right (a := 2) (by omega)).1 this
    omega

theorem bd_nearest {s : Bool} {m : Nat} {e : Int} {q : Nat} (hq : 2 ≤ q) (hq2 : q ≤ 2046) (h : m ≠ 0 → e + m.log2 ≤ (q : Int) - 1024) : rung Ieee.double (Ieee.double.nearest s m e) ≤ q * 2 ^ 52 := by
  by_cases h0 : m = 0
  · unfold Format.nearest; rw [if_pos h0, rung_word _ _ (by decide)]; omega
  · have hh := h h0
    have lp : Ieee.double.leastPlace = -1074 := rfl
    have fb : (Ieee.double.fractionBits : Int) = 52 := rfl
    have bn : Ieee.double.binade = 2 ^ 52 := rfl
    have hr := rungOf_le Ieee.double (m := m) e ((q : Int) - 1023) (by omega) (by rw [lp, fb]; omega)
    rw [lp, fb, bn, show ((q : Int) - 1023 - 1 - 52 - -1074).toNat + 2 = q by omega] at hr
    rw [nearest_rung _ _ h0]
    have hm : min (rungOf Ieee.double m e) Ieee.double.infRung ≤ q * 2 ^ 52 := Nat.le_trans (Nat.min_le_left ..) hr
    rw [rung_word _ _ (by have := Ieee.double.infRung_lt; have := Nat.min_le_right (rungOf Ieee.double m e) Ieee.double.infRung; omega)]
    exact hm

theorem log2_mul_le (m n : Nat) (hm : m ≠ 0) (hn : n ≠ 0) : (m * n).log2 ≤ m.log2 + n.log2 + 1 := by
  have h1 : m < 2 ^ (m.log2 + 1) := Nat.lt_log2_self
  have h2 : n < 2 ^ (n.log2 + 1) := Nat.lt_log2_self
  have : m * n < 2 ^ (m.log2 + n.log2 + 2) := by
    rw [show m.log2 + n.log2 + 2 = (m.log2 + 1) + (n.log2 + 1) by omega, Nat.pow_add]
    exact Nat.mul_lt_mul'' h1 h2
  have := (Nat.log2_lt (Nat.mul_ne_zero hm hn)).2 this
  omega

theorem Bd.none (q : Nat) : Bd q none := fun v h => by cases h

theorem Bd.mul {a b : Option Nat} {p q r : Nat} (ha : Bd p a) (hb : Bd q b) (hp : 1 ≤ p) (hq : 1 ≤ q) (hp2 : p ≤ 2046) (hq2 : q ≤ 2046) (hr : p + q ≤ r + 1021) (hr1 : 2 ≤ r) (hr2 : r ≤ 2046) : Bd r (fop .mul .f64 a b) := by
  cases a with
  | none => exact Bd.none r
  | some x =>
  cases b with
  | none => exact Bd.none r
  | some y =>
  obtain ⟨m, i, e1, v1⟩ := fin_read (ha.isFin' hp2)
  obtain ⟨n, j, e2, v2⟩ := fin_read (hb.isFin' hq2)
  intro v hv
  have h : some (Ieee.double.nearest (sgn Ieee.double x ^^ sgn Ieee.double y) (m * n) (Ieee.double.leastPlace + (i : Int) + (Ieee.double.leastPlace + (j : Int)))) = some v := by
    rw [← hv]
    show _ = Ieee.double.mul x y
    unfold Format.mul
    rw [show Ieee.double.read x = _ from e1, show Ieee.double.read y = _ from e2]; rfl
  injection h with h
  rw [← h]
  refine bd_nearest hr1 hr2 fun h0 => ?_
  have hm : m ≠ 0 := fun e => h0 (by rw [e, Nat.zero_mul])
  have hn : n ≠ 0 := fun e => h0 (by rw [e, Nat.mul_zero])
  have l1 := log_le hp hm v1 (ha x rfl)
  have l2 := log_le hq hn v2 (hb y rfl)
  have l3 := log2_mul_le m n hm hn
  have lp : Ieee.double.leastPlace = -1074 := rfl
  rw [lp]; omega

/-- divided by a number that is at least 2 ^ (c - 1023) -/
theorem Bd.quo {a : Option Nat} {y p c r : Nat} (ha : Bd p a) (hy : isFin .f64 y) (hc : c * 2 ^ 52 ≤ rung Ieee.double y) (hc1 : 1 ≤ c) (hp : 1 ≤ p) (hp2 : p ≤ 2046) (hr : p + 1024 ≤ r + c) (hr1 : 2 ≤ r) (hr2 : r ≤ 2046) : Bd r (fop .quo .f64 a (some y)) := by
  cases a with
  | none => exact Bd.none r
  | some x =>
  obtain ⟨m, i, e1, v1⟩ := fin_read (ha.isFin' hp2)
  obtain ⟨n, j, e2, v2⟩ := fin_read hy
  have hn : n ≠ 0 := by
    intro e
    rw [e, Nat.zero_mul] at v2
    have : rung FloatKind.f64.format y = rung Ieee.double y := rfl
    rw [this] at v2
    exact magOf_ne Ieee.double (r := rung Ieee.double y) (by omega) v2.symm
  intro v hv
  have hq : fop .quo .f64 (some x) (some y) = ((Datum.number (sgn Ieee.double x) m (Ieee.double.leastPlace + (i : Int))).quotient (Ieee.double.fractionBits + 2) (.number (sgn Ieee.double y) n (Ieee.double.leastPlace + (j : Int)))).map Ieee.double.write := by
    show Ieee.double.div x y = _
    unfold Format.div
    rw [show Ieee.double.read x = _ from e1, show Ieee.double.read y = _ from e2]; rfl
  rw [hq] at hv
  simp only [Datum.quotient, if_neg hn, Option.map_some, Option.some.injEq] at hv
  have hv' : Ieee.double.nearest (sgn Ieee.double x ^^ sgn Ieee.double y) (2 * ((m <<< (Ieee.double.fractionBits + 2 + n.log2 - m.log2)) / n) + ((m <<< (Ieee.double.fractionBits + 2 + n.log2 - m.log2)) % n != 0).toNat) (Ieee.double.leastPlace + (i : Int) - (Ieee.double.leastPlace + (j : Int)) - ((Ieee.double.fractionBits + 2 + n.log2 - m.log2 : Nat) : Int) - 1) = v := hv
  rw [← hv']
  clear hv' hv hq
  have hmore : n.log2 < m.log2 + 1 + (Ieee.double.fractionBits + 2 + n.log2 - m.log2) := by omega
  generalize Ieee.double.fractionBits + 2 + n.log2 - m.log2 = more at hmore ⊢
  refine bd_nearest hr1 hr2 fun h0 => ?_
  have l2 : c + 51 ≤ n.log2 + j := by
    obtain ⟨c', rfl⟩ : ∃ c', c = c' + 1 := ⟨c - 1, by omega⟩
    have hge : magOf Ieee.double ((c' + 1) * 2 ^ 52) ≤ magOf Ieee.double (rung Ieee.double y) := by
      rcases Nat.lt_or_eq_of_le hc with a | a
      · exact Nat.le_of_lt (magOf_lt _ a)
      · rw [a]; exact Nat.le_refl _
    rw [magOf_pow, ← show n * 2 ^ j = magOf Ieee.double (rung Ieee.double y) from v2] at hge
    have h2 : n < 2 ^ (n.log2 + 1) := Nat.lt_log2_self
    have : 2 ^ (52 + c') < 2 ^ (n.log2 + 1 + j) := by
      rw [Nat.pow_add, Nat.pow_add 2 (n.log2 + 1)]
      exact Nat.lt_of_le_of_lt hge (Nat.mul_lt_mul_of_pos_right h2 (Nat.two_pow_pos _))
    have := (Nat.pow_lt_pow_iff_right (a := 2) (by omega)).1 this
    omega
  by_cases hm : m = 0
  · subst hm
    simp at h0
  · have l1 := log_le hp hm v1 (ha x rfl)
    have hb : ((m <<< more) % n != 0).toNat ≤ 1 := by cases ((m <<< more) % n != 0) <;> simp
    have hm2 : m < 2 ^ (m.log2 + 1) := Nat.lt_log2_self
    have hn2 : 2 ^ n.log2 ≤ n := Nat.log2_self_le hn
    have lp : Ieee.double.leastPlace = -1074 := rfl
    have hd : (m <<< more) / n < 2 ^ (m.log2 + 1 + more - n.log2) := by
      rw [Nat.div_lt_iff_lt_mul (by omega), shl_eq]
      calc m * 2 ^ more < 2 ^ (m.log2 + 1) * 2 ^ more := Nat.mul_lt_mul_of_pos_right hm2 (Nat.two_pow_pos _)
        _ = 2 ^ (m.log2 + 1 + more - n.log2) * 2 ^ n.log2 := by rw [← Nat.pow_add, ← Nat.pow_add]; congr 1; omega
        _ ≤ 2 ^ (m.log2 + 1 + more - n.log2) * n := Nat.mul_le_mul_left _ hn2
    have hM : 2 * ((m <<< more) / n) + ((m <<< more) % n != 0).toNat < 2 ^ (m.log2 + 1 + more - n.log2 + 1) := by
      rw [Nat.pow_succ]; omega
    have := (Nat.log2_lt h0).2 hM
    rw [lp]; omega
end Go.Proofs.Ytedfbaeajofmnaa

end

section

namespace Go.Proofs.Ytedfbaeajofmnaa
open Go Ieee

def ltO (a b : Option Nat) : Bool := ford .f64 a b == some .lt
def gtO (a b : Option Nat) : Bool := ford .f64 a b == some .gt
def geO (a b : Option Nat) : Bool := ford .f64 a b == some .gt || ford .f64 a b == some .eq

/-- how many units of the least place 1 is -/
def U1 : Nat := magOf Ieee.double (1023 * 2 ^ 52)

/-- the integer that is left when the places behind the point are cut off -/
def wholeOf (t : Nat) : Int := if sgn Ieee.double t then -((magOf Ieee.double (rung Ieee.double t) / U1 : Nat) : Int) else (magOf Ieee.double (rung Ieee.double t) / U1 : Nat)

/-- 1, a half, a quarter, two pi -/
def c1 : Nat := 4607182418800017408
def cHalf : Nat := 4602678819172646912
def cQuarter : Nat := 4598175219545276416
def cTau : Nat := 4618760256179416344

def cutO (t : Nat) : Option Nat := fop .sub .f64 (canon .f64 t) (canon .f64 (floatOfInt .f64 (wholeOf t)))
def partO (t : Nat) : Option Nat := if ltO (cutO t) (some 0) then fop .add .f64 (cutO t) (some c1) else cutO t

/-- what stands below the line at the i-th round -/
def below (i : Nat) : Nat := floatOfInt .f64 (2 * (8 - (i : Int)) * (2 * (8 - (i : Int)) + 1))
def polyO (u : Option Nat) : Nat → Option Nat
  | 0 => some c1
  | i + 1 => fop .sub .f64 (some c1) (fop .quo .f64 (fop .mul .f64 u (polyO u i)) (some (below i)))
def shortO (f : Option Nat) : Option Nat :=
  fop .mul .f64 (fop .mul .f64 f (some cTau)) (polyO (fop .mul .f64 (fop .mul .f64 f (some cTau)) (fop .mul .f64 f (some cTau))) 8)

def halvedO (g : Option Nat) : Option Nat := if geO g (some cHalf) then fop .sub .f64 g (some cHalf) else g
def foldedO (g : Option Nat) : Option Nat := if gtO (halvedO g) (some cQuarter) then fop .sub .f64 (some cHalf) (halvedO g) else halvedO g
def sineOf (g : Option Nat) : Option Nat := if geO g (some cHalf) then (shortO (foldedO g)).map (Op.negFloat .f64) else shortO (foldedO g)
def sineO (t : Nat) : Option Nat := sineOf (partO t)

/-! ### Bounds -/

theorem Bd.sub {a b : Option Nat} {p : Nat} (ha : Bd p a) (hb : Bd p b) (hp : 1 ≤ p) (hp2 : p ≤ 2045) : Bd (p + 1) (fop .sub .f64 a b) := by
  cases a with
  | none => exact Bd.none _
  | some x =>
  cases b with
  | none => exact Bd.none _
  | some y =>
  intro v hv
  rw [sub_eq (ha.isFin' (by omega)) (hb.isFin' (by omega))] at hv
  injection hv with hv
  rw [← hv]
  have e0 : FloatKind.f64.format = Ieee.double := rfl
  rw [e0]
  by_cases h0 : sv Ieee.double x - sv Ieee.double y = 0
  · rw [if_pos h0, rung_word _ _ (by decide)]; exact Nat.zero_le _
  · rw [if_neg h0]
    have mono : ∀ r : Nat, r ≤ p * 2 ^ 52 → magOf Ieee.double r ≤ magOf Ieee.double (p * 2 ^ 52) := fun r hr => by
      rcases Nat.lt_or_eq_of_le hr with q | q
      · exact Nat.le_of_lt (magOf_lt _ q)
      · rw [q]; exact Nat.le_refl _
    have m1 := mono _ (ha x rfl)
    have m2 := mono _ (hb y rfl)
    obtain ⟨p', rfl⟩ : ∃ p', p = p' + 1 := ⟨p - 1, by omega⟩
    have e1 := magOf_pow p'
    have e2 := magOf_pow (p' + 1)
    rw [Nat.pow_succ 2 p', ← Nat.mul_assoc, ← e1] at e2
    have hT : (sv Ieee.double x - sv Ieee.double y).natAbs ≤ magOf Ieee.double ((p' + 1 + 1) * 2 ^ 52) := by
      rw [e2]
      clear e1 e2 mono hv
      unfold sv
      generalize magOf Ieee.double (rung Ieee.double x) = A at *
      generalize magOf Ieee.double (rung Ieee.double y) = B at *
      generalize magOf Ieee.double ((p' + 1) * 2 ^ 52) = M at *
      split <;> split <;> omega
    exact (round_units Ieee.double _ h0 (by rw [dinf]; omega) hT).1

theorem c1_fin : isFin .f64 c1 := by unfold isFin; decide
theorem below_fin' : ∀ i, i < 8 → rung FloatKind.f64.format (below i) < FloatKind.f64.format.infRung ∧ 1023 * 2 ^ 52 ≤ rung Ieee.double (below i) := by decide +kernel
theorem below_fin (i : Nat) (h : i < 8) : isFin .f64 (below i) ∧ 1023 * 2 ^ 52 ≤ rung Ieee.double (below i) := below_fin' i h

theorem Bd.c1 : Bd 1023 (some c1) := fun v h => by cases h; decide

theorem bd_poly {u : Option Nat} (hu : Bd 1031 u) : ∀ i, i ≤ 8 → Bd (1023 + 12 * i) (polyO u i)
  | 0, _ => Bd.c1
  | i + 1, hi => by
    have ih := bd_poly hu i (by omega)
    have h1 : Bd (1033 + 12 * i) (fop .mul .f64 u (polyO u i)) := Bd.mul hu ih (by omega) (by omega) (by omega) (by omega) (by omega) (by omega) (by omega)
    have h2 : Bd (1034 + 12 * i) (fop .quo .f64 (fop .mul .f64 u (polyO u i)) (some (below i))) := Bd.quo h1 (below_fin i (by omega)).1 (below_fin i (by omega)).2 (by omega) (by omega) (by omega) (by omega) (by omega) (by omega)
    have h3 := Bd.sub (Bd.c1.mono (q' := 1034 + 12 * i) (by omega)) h2 (by omega) (by omega)
    exact h3.mono (by omega)

theorem bd_short {f : Option Nat} (h : Bd 1021 f) : Bd 1124 (shortO f) := by
  have ht : Bd 1026 (some cTau) := fun v hv => by cases hv; decide
  have hz : Bd 1026 (fop .mul .f64 f (some cTau)) := Bd.mul h ht (by omega) (by omega) (by omega) (by omega) (by omega) (by omega) (by omega)
  have hu : Bd 1031 (fop .mul .f64 (fop .mul .f64 f (some cTau)) (fop .mul .f64 f (some cTau))) := Bd.mul hz hz (by omega) (by omega) (by omega) (by omega) (by omega) (by omega) (by omega)
  exact Bd.mul hz (bd_poly hu 8 (Nat.le_refl _)) (by omega) (by omega) (by omega) (by omega) (by omega) (by omega) (by omega)

/-- from 0 to a bound, or -0 -/
def Up (r : Nat) (o : Option Nat) : Prop := ∃ v, o = some v ∧ rung Ieee.double v ≤ r ∧ (sgn Ieee.double v = false ∨ rung Ieee.double v = 0)

theorem Up.isFin' {r v : Nat} (h : Up r (some v)) (hr : r < Ieee.double.infRung) : isFin .f64 v := by
  obtain ⟨_, e, h1, _⟩ := h
  cases e
  exact Nat.lt_of_le_of_lt h1 hr

theorem Up.sv {r v : Nat} (h : Up r (some v)) : sv Ieee.double v = magOf Ieee.double (rung Ieee.double v) ∧ magOf Ieee.double (rung Ieee.double v) ≤ magOf Ieee.double r := by
  obtain ⟨_, e, h1, h2⟩ := h
  cases e
  constructor
  · unfold Go.Proofs.Ytedfbaeajofmnaa.sv
    rcases h2 with h2 | h2
    · rw [h2]; rfl
    · rw [h2, magOf_zero]; split <;> rfl
  · rcases Nat.lt_or_eq_of_le h1 with q | q
    · exact Nat.le_of_lt (magOf_lt _ q)
    · rw [q]; exact Nat.le_refl _

/-- a difference of two such numbers, the first one not below the second -/
theorem Up.sub {a b : Nat} {r s : Nat} (ha : Up r (some a)) (hb : Up s (some b)) (hr : r < Ieee.double.infRung) (hs : s < Ieee.double.infRung) (h : rung Ieee.double b ≤ rung Ieee.double a) (q : Nat) (hq : q < Ieee.double.infRung)
    (hm : magOf Ieee.double (rung Ieee.double a) ≤ magOf Ieee.double q + magOf Ieee.double (rung Ieee.double b)) : Up q (fop .sub .f64 (some a) (some b)) := by
  rw [sub_eq (ha.isFin' hr) (hb.isFin' hs)]
  refine ⟨_, rfl, ?_⟩
  have e0 : FloatKind.f64.format = Ieee.double := rfl
  rw [e0, ha.sv.1, hb.sv.1]
  have hle : magOf Ieee.double (rung Ieee.double b) ≤ magOf Ieee.double (rung Ieee.double a) := by
    rcases Nat.lt_or_eq_of_le h with q | q
    · exact Nat.le_of_lt (magOf_lt _ q)
    · rw [q]; exact Nat.le_refl _
  generalize magOf Ieee.double (rung Ieee.double a) = A at *
  generalize magOf Ieee.double (rung Ieee.double b) = B at *
  by_cases h0 : (A : Int) - B = 0
  · rw [if_pos h0, rung_word _ _ (by decide)]
    exact ⟨Nat.zero_le _, .inr rfl⟩
  · rw [if_neg h0]
    have := round_units Ieee.double ((A : Int) - B) h0 hq (by omega)
    refine ⟨this.1, .inl ?_⟩
    rw [this.2, decide_eq_false]; omega

theorem key_up {r v : Nat} (h : Up r (some v)) : key Ieee.double v = rung Ieee.double v := by
  obtain ⟨_, e, _, h2⟩ := h
  cases e
  unfold key
  rcases h2 with h2 | h2
  · rw [h2]; rfl
  · rw [h2]; split <;> rfl

theorem isN_fin {k : FloatKind} {v : Nat} (h : isFin k v) : isN k v = false := isN_of_le (Nat.le_of_lt h)
theorem canon_fin {k : FloatKind} {v : Nat} (h : isFin k v) : canon k v = some v := canon_of_not (isN_fin h)

theorem ford_key {a b : Nat} (ha : isFin .f64 a) (hb : isFin .f64 b) : ford .f64 (some a) (some b) = some (compare (key Ieee.double a) (key Ieee.double b)) := by
  have := order_key .f64 (isN_fin ha) (isN_fin hb)
  rw [order_canon, canon_fin ha, canon_fin hb] at this
  exact this

theorem geO_key {a b : Nat} (ha : isFin .f64 a) (hb : isFin .f64 b) : geO (some a) (some b) = decide (key Ieee.double b ≤ key Ieee.double a) := by
  unfold geO
  rw [ford_key ha hb, Bool.eq_iff_iff]
  simp only [Bool.or_eq_true, beq_iff_eq, Option.some.injEq, decide_eq_true_eq, Int.compare_eq_gt, Int.compare_eq_eq]
  omega
theorem gtO_key {a b : Nat} (ha : isFin .f64 a) (hb : isFin .f64 b) : gtO (some a) (some b) = decide (key Ieee.double b < key Ieee.double a) := by
  unfold gtO
  rw [ford_key ha hb, Bool.eq_iff_iff]
  simp only [beq_iff_eq, Option.some.injEq, decide_eq_true_eq, Int.compare_eq_gt]
theorem ltO_key {a b : Nat} (ha : isFin .f64 a) (hb : isFin .f64 b) : ltO (some a) (some b) = decide (key Ieee.double a < key Ieee.double b) := by
  unfold ltO
  rw [ford_key ha hb, Bool.eq_iff_iff]
  simp only [beq_iff_eq, Option.some.injEq, decide_eq_true_eq, Int.compare_eq_lt]

theorem up_half : Up (1022 * 2 ^ 52) (some cHalf) := ⟨_, rfl, by decide, .inl (by decide)⟩

theorem mag_double (q a b : Nat) (ha : a = (q + 1 + 1) * 2 ^ 52) (hb : b = (q + 1) * 2 ^ 52) : magOf Ieee.double a = magOf Ieee.double b * 2 := by
  rw [ha, hb, magOf_pow, magOf_pow, Nat.pow_succ 2 q, Nat.mul_assoc]
theorem mag1H : magOf Ieee.double (1023 * 2 ^ 52) = magOf Ieee.double (1022 * 2 ^ 52) * 2 := mag_double 1021 _ _ rfl rfl
theorem magHQ : magOf Ieee.double (1022 * 2 ^ 52) = magOf Ieee.double (1021 * 2 ^ 52) * 2 := mag_double 1020 _ _ rfl rfl

theorem up_halved {g : Option Nat} (h : Up (1023 * 2 ^ 52) g) : Up (1022 * 2 ^ 52) (halvedO g) := by
  obtain ⟨v, rfl, h1, h2⟩ := h
  have hu : Up (1023 * 2 ^ 52) (some v) := ⟨v, rfl, h1, h2⟩
  have i1 : (1023 * 2 ^ 52 : Nat) < Ieee.double.infRung := by decide
  have i2 : (1022 * 2 ^ 52 : Nat) < Ieee.double.infRung := by decide
  have hr : rung Ieee.double cHalf = 1022 * 2 ^ 52 := by decide
  unfold halvedO
  rw [geO_key (hu.isFin' i1) (up_half.isFin' i2), key_up hu, key_up up_half, hr]
  by_cases hc : ((1022 * 2 ^ 52 : Nat) : Int) ≤ (rung Ieee.double v : Int)
  · rw [decide_eq_true hc, if_pos rfl]
    refine Up.sub hu up_half i1 i2 (by rw [hr]; omega) _ i2 ?_
    have := hu.sv.2
    rw [hr]
    rw [mag1H] at this
    omega
  · rw [decide_eq_false hc]
    exact ⟨v, rfl, by omega, h2⟩

theorem up_folded {g : Option Nat} (h : Up (1023 * 2 ^ 52) g) : Up (1021 * 2 ^ 52) (foldedO g) := by
  obtain ⟨v, hv, h1, h2⟩ := up_halved h
  unfold foldedO
  rw [hv]
  have hu : Up (1022 * 2 ^ 52) (some v) := ⟨v, rfl, h1, h2⟩
  have i1 : (1022 * 2 ^ 52 : Nat) < Ieee.double.infRung := by decide
  have i2 : (1021 * 2 ^ 52 : Nat) < Ieee.double.infRung := by decide
  have uq : Up (1021 * 2 ^ 52) (some cQuarter) := ⟨_, rfl, by decide, .inl (by decide)⟩
  have hr : rung Ieee.double cQuarter = 1021 * 2 ^ 52 := by decide
  have hh : rung Ieee.double cHalf = 1022 * 2 ^ 52 := by decide
  rw [gtO_key (hu.isFin' i1) (uq.isFin' i2), key_up hu, key_up uq, hr]
  by_cases hc : ((1021 * 2 ^ 52 : Nat) : Int) < (rung Ieee.double v : Int)
  · rw [decide_eq_true hc, if_pos rfl]
    refine Up.sub up_half hu i1 i1 (by rw [hh]; omega) _ i2 ?_
    have hm : magOf Ieee.double (1021 * 2 ^ 52) < magOf Ieee.double (rung Ieee.double v) := magOf_lt _ (by omega)
    rw [hh]
    rw [magHQ]
    omega
  · rw [decide_eq_false hc]
    exact ⟨v, rfl, by omega, h2⟩

theorem Up.bd {q : Nat} {o : Option Nat} (h : Up (q * 2 ^ 52) o) : Bd q o := fun v hv => by
  obtain ⟨u, e, h1, _⟩ := h
  rw [e] at hv; cases hv; exact h1

theorem bd_sine {g : Option Nat} (h : Up (1023 * 2 ^ 52) g) : Bd 1124 (shortO (foldedO g)) := bd_short (up_folded h).bd
end Go.Proofs.Ytedfbaeajofmnaa

end

section

namespace Go.Proofs.Ytedfbaeajofmnaa
open Go Ieee

theorem U1_pow (q : Nat) (h : 1022 = q) : U1 = 2 ^ (52 + q) := by
  unfold U1
  rw [show (1023 * 2 ^ 52 : Nat) = (1022 + 1) * 2 ^ 52 from rfl, h, magOf_pow, Nat.pow_add]

theorem U1_pos : 0 < U1 := by
  obtain ⟨q, h⟩ : ∃ q : Nat, 1022 = q := ⟨_, rfl⟩
  rw [U1_pow q h]; exact Nat.two_pow_pos _

theorem cut_zeroWay (s : Bool) (n d : Nat) : Toward.zero.cut s n d = n / 2 ^ d := by
  unfold Toward.cut
  simp only [shl_eq, Nat.one_mul, Bool.toNat_false, Nat.add_zero]
  by_cases h : d ≤ n.log2 + 2
  · rw [Nat.min_eq_left h]
  · rw [Nat.min_eq_right (by omega)]
    have l1 : n < 2 ^ (n.log2 + 1) := Nat.lt_log2_self
    have l2 : 2 ^ (n.log2 + 1) ≤ 2 ^ (n.log2 + 2) := Nat.pow_le_pow_right (by omega) (by omega)
    have l3 : 2 ^ (n.log2 + 2) ≤ 2 ^ d := Nat.pow_le_pow_right (by omega) (by omega)
    rw [Nat.div_eq_of_lt (by omega), Nat.div_eq_of_lt (by omega)]

/-- cut towards zero: a count of units becomes a count of ones -/
theorem whole_cut (s : Bool) (m p : Nat) : Toward.zero.cut s (m <<< (Ieee.double.leastPlace + (p : Int)).toNat) (-(Ieee.double.leastPlace + (p : Int))).toNat = m * 2 ^ p / U1 := by
  obtain ⟨q, h⟩ : ∃ q : Nat, 1022 = q := ⟨_, rfl⟩
  rw [cut_zeroWay, U1_pow q h, shl_eq]
  have lp : Ieee.double.leastPlace = -((52 + q : Nat) : Int) := by rw [← h]; rfl
  rw [lp]
  rcases Nat.le_total (52 + q) p with a | a
  · have z1 : (-((52 + q : Nat) : Int) + (p : Int)).toNat = p - (52 + q) := by omega
    have z2 : (-(-((52 + q : Nat) : Int) + (p : Int))).toNat = 0 := by omega
    rw [z1, z2, Nat.pow_zero, Nat.div_one]
    have : m * 2 ^ p = m * 2 ^ (p - (52 + q)) * 2 ^ (52 + q) := by rw [Nat.mul_assoc, ← Nat.pow_add]; congr 2; omega
    rw [this, Nat.mul_div_cancel _ (Nat.two_pow_pos _)]
  · have z1 : (-((52 + q : Nat) : Int) + (p : Int)).toNat = 0 := by omega
    have z2 : (-(-((52 + q : Nat) : Int) + (p : Int))).toNat = 52 + q - p := by omega
    rw [z1, z2, Nat.pow_zero, Nat.mul_one]
    have : 2 ^ (52 + q) = 2 ^ (52 + q - p) * 2 ^ p := by rw [← Nat.pow_add]; congr 1; omega
    rw [this, Nat.mul_div_mul_right _ _ (Nat.two_pow_pos _)]

theorem r52 : (1075 * 2 ^ 52 : Nat) < Ieee.double.infRung := by decide

theorem whole_lt {t : Nat} (h : rung Ieee.double t < 1075 * 2 ^ 52) : magOf Ieee.double (rung Ieee.double t) / U1 < 2 ^ 52 := by
  obtain ⟨q, hq⟩ : ∃ q : Nat, 1022 = q := ⟨_, rfl⟩
  have h1 : rung Ieee.double t < (q + 52 + 1) * 2 ^ 52 := by rw [← hq]; exact h
  have := mag_bound (q + 52) h1
  rw [Nat.div_lt_iff_lt_mul U1_pos, U1_pow q hq, ← Nat.pow_add]
  rw [show 52 + (52 + q) = 52 + (q + 52) by omega]; exact this

theorem whole_bd {t : Nat} (h : rung Ieee.double t < 1075 * 2 ^ 52) : -4503599627370496 < wholeOf t ∧ wholeOf t < 4503599627370496 := by
  have := whole_lt h
  unfold wholeOf
  generalize magOf Ieee.double (rung Ieee.double t) / U1 = N at *
  split <;> omega

theorem whole_conv {t : Nat} (h : rung Ieee.double t < 1075 * 2 ^ 52) : floatToIntVal .f64 t .i64 = some (wholeOf t) := by
  have hf : isFin .f64 t := Nat.lt_trans h r52
  obtain ⟨m, p, e, v⟩ := fin_read hf
  have hb := whole_bd h
  unfold floatToIntVal
  have e' : FloatKind.f64.decode t = .number (sgn Ieee.double t) m (Ieee.double.leastPlace + (p : Nat)) := e
  have key : (FloatKind.f64.decode t).toInt .zero = some (wholeOf t) := by
    rw [e']
    unfold Datum.toInt Datum.integral
    simp only [whole_cut]
    unfold wholeOf
    rw [← show m * 2 ^ p = magOf Ieee.double (rung Ieee.double t) from v, signed_natAbs, Nat.pow_zero, Nat.mul_one]
  rw [key]
  simp only []
  rw [if_pos]
  constructor
  · show (-9223372036854775808 : Int) ≤ _; omega
  · show _ ≤ (9223372036854775807 : Int); omega

/-- an integer below 2 ^ 53 is a float -/
theorem int_float (n : Int) (h : n.natAbs < 2 ^ 53) : isFin .f64 (floatOfInt .f64 n) ∧ sv Ieee.double (floatOfInt .f64 n) = n * (U1 : Int) ∧ (n = 0 ∨ sgn Ieee.double (floatOfInt .f64 n) = decide (n < 0)) := by
  have e0 : floatOfInt .f64 n = Ieee.double.nearest (decide (n < 0)) n.natAbs 0 := rfl
  rw [e0]
  by_cases h0 : n = 0
  · subst h0
    refine ⟨by unfold isFin; decide, ?_, .inl rfl⟩
    rw [Int.zero_mul]; rfl
  · have hn : n.natAbs ≠ 0 := by omega
    have hl : n.natAbs.log2 < 53 := (Nat.log2_lt hn).2 h
    have lp : Ieee.double.leastPlace = -1074 := rfl
    have fb : (Ieee.double.fractionBits : Int) = 52 := rfl
    have e1 : lastOf Ieee.double n.natAbs 0 = (n.natAbs.log2 : Int) - 52 := by unfold lastOf; rw [lp, fb]; omega
    have hr := rungOf_le Ieee.double (m := n.natAbs) 0 53 (by omega) (by rw [lp, fb]; omega)
    have hlt : rungOf Ieee.double n.natAbs 0 < Ieee.double.infRung := Nat.lt_of_le_of_lt hr (by decide)
    have hx := read_exact Ieee.double (decide (n < 0)) hn 0 (by rw [e1]; omega) hlt
    have hs : rungOf Ieee.double n.natAbs 0 < Ieee.double.signWeight := by have := Ieee.double.infRung_lt; omega
    have hw : Ieee.double.nearest (decide (n < 0)) n.natAbs 0 = Ieee.double.word (decide (n < 0)) (rungOf Ieee.double n.natAbs 0) := by
      rw [nearest_rung _ _ hn, Nat.min_eq_left (Nat.le_of_lt hlt)]
    have hrg : rung Ieee.double (Ieee.double.nearest (decide (n < 0)) n.natAbs 0) = rungOf Ieee.double n.natAbs 0 := by rw [hw, rung_word _ _ hs]
    have hsg : sgn Ieee.double (Ieee.double.nearest (decide (n < 0)) n.natAbs 0) = decide (n < 0) := by rw [hw, sgn_word _ _ hs]
    have hfin : isFin .f64 (Ieee.double.nearest (decide (n < 0)) n.natAbs 0) := by
      unfold isFin
      rw [show FloatKind.f64.format = Ieee.double from rfl, hrg]; exact hlt
    refine ⟨hfin, ?_, .inr hsg⟩
    obtain ⟨m, p, e, v⟩ := fin_read hfin
    have hx' := hx.symm.trans e
    injection hx' with _ a2 a3
    obtain ⟨q, hq⟩ : ∃ q : Nat, 1022 = q := ⟨_, rfl⟩
    have hmag : magOf Ieee.double (rung Ieee.double (Ieee.double.nearest (decide (n < 0)) n.natAbs 0)) = n.natAbs * U1 := by
      rw [← show m * 2 ^ p = magOf Ieee.double (rung Ieee.double (Ieee.double.nearest (decide (n < 0)) n.natAbs 0)) from v, ← a2, U1_pow q hq, Nat.mul_assoc, ← Nat.pow_add]
      congr 2
      have a3' : lastOf Ieee.double n.natAbs 0 = -1074 + (p : Int) := a3
      omega
    unfold sv
    rw [hsg, hmag]
    by_cases hneg : n < 0
    · rw [decide_eq_true hneg, if_pos rfl, Int.natCast_mul, ← Int.neg_mul]; congr 1; omega
    · rw [decide_eq_false hneg, if_neg (by simp), Int.natCast_mul]; congr 1; omega

/-- what is left when the whole turns are cut off: less than 1, of the number's own sign -/
theorem cut_part {t : Nat} (h : rung Ieee.double t < 1075 * 2 ^ 52) : ∃ v, cutO t = some v ∧ isFin .f64 v ∧ rung Ieee.double v ≤ 1023 * 2 ^ 52 ∧
    (rung Ieee.double v = 0 ∨ sgn Ieee.double v = sgn Ieee.double t) ∧ magOf Ieee.double (rung Ieee.double v) ≤ U1 := by
  have hf : isFin .f64 t := Nat.lt_trans h r52
  have hw := whole_lt h
  have hb := whole_bd h
  have ei := int_float (wholeOf t) (by omega)
  obtain ⟨fi, si, _⟩ := ei
  unfold cutO
  rw [canon_fin hf, canon_fin fi, sub_eq hf fi]
  refine ⟨_, rfl, ?_⟩
  have e0 : FloatKind.f64.format = Ieee.double := rfl
  have i1 : (1023 * 2 ^ 52 : Nat) < Ieee.double.infRung := by decide
  rw [e0, si]
  have hT : sv Ieee.double t - wholeOf t * (U1 : Int) = if sgn Ieee.double t then -((magOf Ieee.double (rung Ieee.double t) % U1 : Nat) : Int) else (magOf Ieee.double (rung Ieee.double t) % U1 : Nat) := by
    have hd := Nat.div_add_mod (magOf Ieee.double (rung Ieee.double t)) U1
    rw [Nat.mul_comm] at hd
    have hd' : ((magOf Ieee.double (rung Ieee.double t) / U1 : Nat) : Int) * (U1 : Int) + ((magOf Ieee.double (rung Ieee.double t) % U1 : Nat) : Int) = (magOf Ieee.double (rung Ieee.double t) : Int) := by
      rw [← Int.natCast_mul, ← Int.natCast_add, hd]
    unfold wholeOf sv
    generalize ((magOf Ieee.double (rung Ieee.double t) / U1 : Nat) : Int) = A at *
    generalize ((magOf Ieee.double (rung Ieee.double t) % U1 : Nat) : Int) = B at *
    generalize (magOf Ieee.double (rung Ieee.double t) : Int) = C at *
    split
    · rw [Int.neg_mul]; omega
    · omega
  have hm : magOf Ieee.double (rung Ieee.double t) % U1 < U1 := Nat.mod_lt _ U1_pos
  generalize hTT : sv Ieee.double t - wholeOf t * (U1 : Int) = T at *
  generalize magOf Ieee.double (rung Ieee.double t) % U1 = B at *
  by_cases h0 : T = 0
  · rw [if_pos h0]
    refine ⟨?_, ?_, ?_, ?_⟩
    · unfold isFin
      rw [e0, rung_word _ _ (by decide)]; decide
    · rw [rung_word _ _ (by decide)]; exact Nat.zero_le _
    · rw [rung_word _ _ (by decide)]; exact .inl rfl
    · rw [rung_word _ _ (by decide), magOf_zero]; exact Nat.zero_le _
  · rw [if_neg h0]
    have hTm : T.natAbs ≤ magOf Ieee.double (1023 * 2 ^ 52) := by
      show T.natAbs ≤ U1
      split at hT <;> omega
    have hr := round_units Ieee.double T h0 i1 hTm
    refine ⟨?_, hr.1, .inr ?_, ?_⟩
    · unfold isFin
      rw [e0]; exact Nat.lt_of_le_of_lt hr.1 i1
    · rw [hr.2]
      split at hT
      · rename_i hs; rw [hs, decide_eq_true]; omega
      · rename_i hs
        have : sgn Ieee.double t = false := by simpa using hs
        rw [this, decide_eq_false]; omega
    · unfold U1
      rcases Nat.lt_or_eq_of_le hr.1 with q | q
      · exact Nat.le_of_lt (magOf_lt _ q)
      · rw [q]; exact Nat.le_refl _

theorem c1_facts : rung Ieee.double c1 = 1023 * 2 ^ 52 ∧ sgn Ieee.double c1 = false := by decide

/-- THE PART OF A TURN IS FROM 0 TO 1. -/
theorem up_part {t : Nat} (h : rung Ieee.double t < 1075 * 2 ^ 52) : Up (1023 * 2 ^ 52) (partO t) := by
  obtain ⟨v, hv, hf, hr, hs, hm⟩ := cut_part h
  have i1 : (1023 * 2 ^ 52 : Nat) < Ieee.double.infRung := by decide
  have e0 : FloatKind.f64.format = Ieee.double := rfl
  unfold partO
  rw [hv, ltO_key hf (show isFin .f64 0 by unfold isFin; decide), show key Ieee.double 0 = 0 from rfl]
  by_cases hk : key Ieee.double v < 0
  · rw [decide_eq_true hk, if_pos rfl, add_eq hf c1_fin, e0]
    refine ⟨_, rfl, ?_⟩
    have hsv : sgn Ieee.double v = true ∧ rung Ieee.double v ≠ 0 := by
      unfold key at hk
      split at hk
      · rename_i q; exact ⟨q, by omega⟩
      · omega
    have s1 : sv Ieee.double v = -(magOf Ieee.double (rung Ieee.double v) : Int) := by unfold sv; rw [hsv.1]; rfl
    have s2 : sv Ieee.double c1 = (U1 : Int) := by unfold sv U1; rw [c1_facts.1, c1_facts.2]; rfl
    rw [s1, s2]
    have hpos := magOf_lt Ieee.double (r := 0) (s := rung Ieee.double v) (by omega)
    generalize magOf Ieee.double (rung Ieee.double v) = A at *
    by_cases h0 : -(A : Int) + (U1 : Int) = 0
    · rw [if_pos h0, rung_word _ _ (by decide)]
      exact ⟨Nat.zero_le _, .inr rfl⟩
    · rw [if_neg h0]
      have hr2 := round_units Ieee.double (-(A : Int) + (U1 : Int)) h0 i1 (by show _ ≤ U1; omega)
      refine ⟨hr2.1, .inl ?_⟩
      rw [hr2.2, decide_eq_false]; omega
  · rw [decide_eq_false hk]
    refine ⟨v, rfl, hr, ?_⟩
    unfold key at hk
    split at hk
    · exact .inr (by omega)
    · rename_i q; exact .inl (by simpa using q)

theorem Bd.neg {q : Nat} {o : Option Nat} (h : Bd q o) : Bd q (o.map (Op.negFloat .f64)) := by
  intro v hv
  cases o with
  | none => cases hv
  | some x =>
    simp only [Option.map_some, Option.some.injEq] at hv
    rw [← hv]
    have : rung Ieee.double (Op.negFloat .f64 x) = rung Ieee.double x := by
      show (x ^^^ 2 ^ 63) % 2 ^ 63 = x % 2 ^ 63
      apply Nat.eq_of_testBit_eq
      intro i
      rw [Nat.testBit_mod_two_pow, Nat.testBit_mod_two_pow, Nat.testBit_xor, Nat.testBit_two_pow]
      by_cases hi : i < 63
      · have : ¬ 63 = i := by omega
        simp [hi, this]
      · simp [hi]
    rw [this]; exact h x rfl

theorem bd_sineOf {g : Option Nat} (h : Up (1023 * 2 ^ 52) g) : Bd 1124 (sineOf g) := by
  unfold sineOf
  split
  · exact (bd_sine h).neg
  · exact bd_sine h

/-- a bound that lets narrow -/
theorem Bd.narrows {v : Nat} {o : Option Nat} (h : Bd 1149 o) (hv : canon .f64 v = o) : fits .f64 .f32 v := by
  cases o with
  | none => exact .inr (.inl (canon_none.1 hv))
  | some x =>
    obtain ⟨rfl, _⟩ := canon_some hv
    have := h _ rfl
    exact fits_narrow (Nat.lt_of_le_of_lt this (by decide))
end Go.Proofs.Ytedfbaeajofmnaa

end

section

namespace Go.Proofs.Ytedfbaeajofmnaa
open Go Ieee Go.RowKit

/-- a 64-bit float comes back, known up to a NaN's bits -/
def DRet (w : World) (S : Option Nat) (e : Ending) (w' : World) : Prop := ∃ r n, e = .returned (.float .f64 r) ∧ w' = w.drewN n ∧ canon .f64 r = S ∧ r < 2 ^ 64

theorem tLt {v c : Nat} {o : Option Nat} {b : Bool} (hc : canon .f64 v = o) (hcc : canon .f64 c = some c) (h : ltO o (some c) = b) : (FloatKind.f64.format.order v c == some .lt) = b := by
  rw [order_canon, hc, hcc]; exact h
theorem tGt {v c : Nat} {o : Option Nat} {b : Bool} (hc : canon .f64 v = o) (hcc : canon .f64 c = some c) (h : gtO o (some c) = b) : (FloatKind.f64.format.order v c == some .gt) = b := by
  rw [order_canon, hc, hcc]; exact h
theorem tGe {v c : Nat} {o : Option Nat} {b : Bool} (hc : canon .f64 v = o) (hcc : canon .f64 c = some c) (h : geO o (some c) = b) : (FloatKind.f64.format.order v c == some .gt || FloatKind.f64.format.order v c == some .eq) = b := by
  rw [order_canon, hc, hcc]; exact h

theorem neg_canon (v : Nat) (hv : v < 2 ^ 64) : canon .f64 (Op.negFloat .f64 v) = (canon .f64 v).map (Op.negFloat .f64) ∧ Op.negFloat .f64 v < 2 ^ 64 := by
  have hlt : Op.negFloat .f64 v < 2 ^ 64 := by
    show v ^^^ 2 ^ 63 < 2 ^ 64
    exact Nat.xor_lt_two_pow hv (by decide)
  have hr : rung Ieee.double (Op.negFloat .f64 v) = rung Ieee.double v := by
    show (v ^^^ 2 ^ 63) % 2 ^ 63 = v % 2 ^ 63
    apply Nat.eq_of_testBit_eq
    intro i
    rw [Nat.testBit_mod_two_pow, Nat.testBit_mod_two_pow, Nat.testBit_xor, Nat.testBit_two_pow]
    by_cases hi : i < 63
    · have : ¬ 63 = i := by omega
      simp [hi, this]
    · simp [hi]
  refine ⟨?_, hlt⟩
  have e0 : FloatKind.f64.format = Ieee.double := rfl
  by_cases hn : isN .f64 v = true
  · have h2 : isN .f64 (Op.negFloat .f64 v) = true := by
      rw [isN_iff] at hn ⊢
      rw [e0] at hn ⊢
      rw [hr]; exact hn
    rw [canon_none.2 h2, canon_none.2 hn]; rfl
  · have hn' : isN .f64 v = false := by simpa using hn
    have h2 : isN .f64 (Op.negFloat .f64 v) = false := isN_of_le (by rw [e0, hr]; exact isN_false hn')
    rw [canon_of_not h2, canon_of_not hn']; rfl

/-- the floats 8, 7, .. 0 -/
def down (i : Nat) : Nat := floatOfInt .f64 (8 - (i : Int))
def twice (i : Nat) : Nat := floatOfInt .f64 (2 * (8 - (i : Int)))
def odd (i : Nat) : Nat := floatOfInt .f64 (2 * (8 - (i : Int)) + 1)

theorem down_facts : ∀ i, i < 8 →
    fop .mul .f64 (some 4611686018427387904) (some (down i)) = some (twice i) ∧ fop .add .f64 (some (twice i)) (some 4607182418800017408) = some (odd i) ∧
    fop .mul .f64 (some (twice i)) (some (odd i)) = some (below i) ∧ fop .sub .f64 (some (down i)) (some 4607182418800017408) = some (down (i + 1)) ∧
    (FloatKind.f64.format.order (down i) 4607182418800017408 == some .gt || FloatKind.f64.format.order (down i) 4607182418800017408 == some .eq) = true ∧ down (i + 1) < down i ∧ canon .f64 (down i) = some (down i) ∧ down i < 2 ^ 64 := by decide +kernel

theorem down_end : (FloatKind.f64.format.order (down 8) 4607182418800017408 == some .gt || FloatKind.f64.format.order (down 8) 4607182418800017408 == some .eq) = false := by decide +kernel

theorem down_start : (4620693217682128896 : Nat) = down 0 := by decide +kernel

def fbits : Value → Nat
  | .float _ b => b
  | _ => 0

end Go.Proofs.Ytedfbaeajofmnaa

end

section

namespace Go.Proofs.Ytedfbaeajofmnaa
open Go Ieee Go.RowKit

/-- a 32-bit float comes back, known up to a NaN's bits -/
def NRet (w : World) (S : Option Nat) (e : Ending) (w' : World) : Prop := ∃ r n, e = .returned (.float .f32 r) ∧ w' = w.drewN n ∧ canon .f32 r = S ∧ r < 2 ^ 32

@[go_sem] theorem run_negF (P : Program) (k : FloatKind) (s : Nat) (w : World) : (Op.unary .neg (.float k s)).run P w = .ok (.float k (Op.negFloat k s)) w := rfl

theorem nan_canon : canon .f64 9221120237041090561 = none := by decide +kernel
theorem nan_fits : fits .f64 .f32 9221120237041090561 := .inr (.inl (canon_none.1 nan_canon))

/-! ### The program's sine -/

/-! ### Any turns -/

/-- the sine of any number, at its full width -/
def wideS : Option Nat → Option Nat
  | none => none
  | some v => if Ieee.double.infRung ≤ rung Ieee.double v then none else if 1075 * 2 ^ 52 ≤ rung Ieee.double v then some 0 else sineO v

theorem bd_wide (o : Option Nat) : Bd 1149 (wideS o) := by
  cases o with
  | none => exact Bd.none _
  | some v =>
    show Bd 1149 (if Ieee.double.infRung ≤ rung Ieee.double v then none else if 1075 * 2 ^ 52 ≤ rung Ieee.double v then some 0 else sineO v)
    by_cases h1 : Ieee.double.infRung ≤ rung Ieee.double v
    · rw [if_pos h1]; exact Bd.none _
    · rw [if_neg h1]
      by_cases h2 : 1075 * 2 ^ 52 ≤ rung Ieee.double v
      · rw [if_pos h2]; intro x hx; cases hx; decide
      · rw [if_neg h2]; exact (bd_sineOf (up_part (Nat.lt_of_not_le h2))).mono (by decide)

theorem farFin {v : Nat} (h : rung Ieee.double v < Ieee.double.infRung) : canon .f64 v = some v := canon_fin h

end Go.Proofs.Ytedfbaeajofmnaa

end
