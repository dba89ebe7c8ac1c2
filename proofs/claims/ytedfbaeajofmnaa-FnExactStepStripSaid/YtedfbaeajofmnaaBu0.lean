/- Several texts in one: facts on floats, lists, memory and the functions that the theorems beside this text use. Conditions: none beyond those of each theorem. -/
import Derived.Laws.FloatArith
import Derived.WalkKit
import Derived.WalkLawsBesides
import Derived.Deep.Draws
import Derived.Lib.Hide
import Derived.Test.YtedfbaeajofmnaaChecked
import Derived.Below
import Derived.WalkSmall
import Derived.Deep.Slices
import Derived.ProofKit
import Derived.OpenShut
import Derived.Deep.QuietTactic
import Derived.BigQuiet

set_option linter.unusedVariables false

section

namespace Go.Proofs.Ytedfbaeajofmnaa
open Go Ieee

theorem shl_eq (a b : Nat) : a <<< b = a * 2 ^ b := Nat.shiftLeft_eq a b

theorem cut_zero (neg : Bool) (n : Nat) : Toward.even.cut neg n 0 = n := by
  simp [Toward.cut, Nat.mod_one]

/-- the cut to the nearest, without the bound on the shift -/
theorem cut_even (neg : Bool) (n d : Nat) :
    Toward.even.cut neg n d = n / 2 ^ d + (decide (2 ^ d < 2 * (n % 2 ^ d)) || (decide (2 ^ d = 2 * (n % 2 ^ d)) && decide (n / 2 ^ d % 2 = 1))).toNat := by
  unfold Toward.cut
  by_cases h : d ≤ n.log2 + 2
  · rw [Nat.min_eq_left h]
    simp only [shl_eq, Nat.one_mul]
    have e1 : (2 ^ d == 2 * (n % 2 ^ d)) = decide (2 ^ d = 2 * (n % 2 ^ d)) := by
      rw [Bool.eq_iff_iff]; simp
    have e2 : (n / 2 ^ d % 2 == 1) = decide (n / 2 ^ d % 2 = 1) := by
      rw [Bool.eq_iff_iff]; simp
    simp only [e1, e2]
  · have h' : n.log2 + 2 ≤ d := by omega
    rw [Nat.min_eq_right h']
    simp only [shl_eq, Nat.one_mul]
    have l1 : n < 2 ^ (n.log2 + 1) := Nat.lt_log2_self
    have l2 : 2 ^ (n.log2 + 2) = 2 * 2 ^ (n.log2 + 1) := by rw [show n.log2 + 2 = (n.log2 + 1) + 1 from rfl, Nat.pow_succ]; omega
    have l3 : 2 ^ (n.log2 + 2) ≤ 2 ^ d := Nat.pow_le_pow_right (by omega) h'
    have d1 : n / 2 ^ (n.log2 + 2) = 0 := Nat.div_eq_of_lt (by omega)
    have d2 : n / 2 ^ d = 0 := Nat.div_eq_of_lt (by omega)
    have m1 : n % 2 ^ (n.log2 + 2) = n := Nat.mod_eq_of_lt (by omega)
    have m2 : n % 2 ^ d = n := Nat.mod_eq_of_lt (by omega)
    rw [d1, d2, m1, m2]
    have a1 : ¬ 2 ^ (n.log2 + 2) < 2 * n := by omega
    have a2 : ¬ 2 ^ d < 2 * n := by omega
    simp [a1, a2]

theorem cut_scale (neg : Bool) (n d j : Nat) : Toward.even.cut neg (n * 2 ^ j) (d + j) = Toward.even.cut neg n d := by
  rw [cut_even, cut_even]
  have hj : 0 < 2 ^ j := Nat.two_pow_pos j
  have e1 : n * 2 ^ j / 2 ^ (d + j) = n / 2 ^ d := by
    rw [Nat.pow_add]; exact Nat.mul_div_mul_right _ _ hj
  have e2 : n * 2 ^ j % 2 ^ (d + j) = n % 2 ^ d * 2 ^ j := by
    rw [Nat.pow_add]; exact Nat.mul_mod_mul_right _ _ _
  rw [e1, e2, Nat.pow_add]
  have c1 : (2 ^ d * 2 ^ j < 2 * (n % 2 ^ d * 2 ^ j)) ↔ (2 ^ d < 2 * (n % 2 ^ d)) := by
    rw [← Nat.mul_assoc]; exact Nat.mul_lt_mul_right hj
  have c2 : (2 ^ d * 2 ^ j = 2 * (n % 2 ^ d * 2 ^ j)) ↔ (2 ^ d = 2 * (n % 2 ^ d)) := by
    rw [← Nat.mul_assoc]; exact ⟨fun h => Nat.eq_of_mul_eq_mul_right hj h, fun h => congrArg (· * 2 ^ j) h⟩
  simp only [c1, c2]

/-- 'cut' never goes past the next whole number, and keeps what is whole -/
theorem cut_le (neg : Bool) (n d K : Nat) (h : n ≤ K * 2 ^ d) : Toward.even.cut neg n d ≤ K := by
  rw [cut_even]
  have hp : 0 < 2 ^ d := Nat.two_pow_pos d
  have hm := Nat.div_add_mod n (2 ^ d)
  have hq : n / 2 ^ d ≤ K := by
    rw [Nat.div_le_iff_le_mul_add_pred hp]
    have : K * 2 ^ d = 2 ^ d * K := Nat.mul_comm _ _
    omega
  rcases Nat.lt_or_ge (n / 2 ^ d) K with h1 | h1
  · have : ∀ b : Bool, b.toNat ≤ 1 := by intro b; cases b <;> simp
    have := this (decide (2 ^ d < 2 * (n % 2 ^ d)) || (decide (2 ^ d = 2 * (n % 2 ^ d)) && decide (n / 2 ^ d % 2 = 1)))
    omega
  · have e : n / 2 ^ d = K := by omega
    have : n % 2 ^ d = 0 := by
      rw [e] at hm
      have : K * 2 ^ d = 2 ^ d * K := Nat.mul_comm _ _
      omega
    rw [this, e]
    have a1 : ¬ (2 ^ d < 2 * 0) := by omega
    simp [a1]

theorem log2_mul_pow {m : Nat} (h : m ≠ 0) (j : Nat) : (m * 2 ^ j).log2 = m.log2 + j := by
  have h1 : 2 ^ m.log2 ≤ m := Nat.log2_self_le h
  have h2 : m < 2 ^ (m.log2 + 1) := Nat.lt_log2_self
  have hj : 0 < 2 ^ j := Nat.two_pow_pos j
  have hne : m * 2 ^ j ≠ 0 := Nat.mul_ne_zero h (by omega)
  rw [Nat.log2_eq_iff hne]
  constructor
  · rw [Nat.pow_add]; exact Nat.mul_le_mul_right _ h1
  · rw [show m.log2 + j + 1 = (m.log2 + 1) + j by omega, Nat.pow_add]; exact Nat.mul_lt_mul_of_pos_right h2 hj

/-- ROUNDING LOOKS AT THE VALUE ALONE. -/
theorem nearest_scale (f : Format) (s : Bool) {m : Nat} (h : m ≠ 0) (j : Nat) (e : Int) :
    f.nearest s (m * 2 ^ j) e = f.nearest s m (e + j) := by
  have hne : m * 2 ^ j ≠ 0 := Nat.mul_ne_zero h (by have := Nat.two_pow_pos j; omega)
  unfold Format.nearest
  rw [if_neg hne, if_neg h, log2_mul_pow h]
  have hl : max (e + ((m.log2 + j : Nat) : Int) - f.fractionBits) f.leastPlace = max (e + j + m.log2 - f.fractionBits) f.leastPlace := by
    congr 1; omega
  simp only [hl]
  generalize max (e + j + (m.log2 : Int) - f.fractionBits) f.leastPlace = last
  have key : Toward.even.cut s ((m * 2 ^ j) <<< (e - last).toNat) (last - e).toNat = Toward.even.cut s (m <<< (e + j - last).toNat) (last - (e + j)).toNat := by
    simp only [shl_eq]
    rcases Int.le_total last e with a | a
    · have z1 : (last - e).toNat = 0 := by omega
      have z2 : (last - (e + j)).toNat = 0 := by omega
      rw [z1, z2, cut_zero, cut_zero, Nat.mul_assoc, ← Nat.pow_add]
      congr 2; omega
    · have z1 : (e - last).toNat = 0 := by omega
      rw [z1, Nat.pow_zero, Nat.mul_one]
      rcases Int.le_total last (e + j) with b | b
      · have z2 : (last - (e + j)).toNat = 0 := by omega
        rw [z2, cut_zero]
        have hj : (j : Nat) = (e + j - last).toNat + (last - e).toNat := by omega
        have : m * 2 ^ j = m * 2 ^ (e + j - last).toNat * 2 ^ (last - e).toNat := by
          rw [Nat.mul_assoc, ← Nat.pow_add, ← hj]
        rw [this]
        have := cut_scale s (m * 2 ^ (e + j - last).toNat) 0 (last - e).toNat
        rw [Nat.zero_add] at this
        rw [this, cut_zero]
      · have z2 : (e + j - last).toNat = 0 := by omega
        rw [z2, Nat.pow_zero, Nat.mul_one]
        have : (last - e).toNat = (last - (e + j)).toNat + j := by omega
        rw [this, cut_scale]
  rw [key]

/-- the place of the last digit kept -/
def lastOf (f : Format) (m : Nat) (e : Int) : Int := max (e + m.log2 - f.fractionBits) f.leastPlace

/-- the rung of a rounded number -/
def rungOf (f : Format) (m : Nat) (e : Int) : Nat :=
  (lastOf f m e - f.leastPlace).toNat * f.binade + Toward.even.cut false (m <<< (e - lastOf f m e).toNat) (lastOf f m e - e).toNat

theorem cut_sign (s : Bool) (n d : Nat) : Toward.even.cut s n d = Toward.even.cut false n d := by
  rw [cut_even, cut_even]

theorem nearest_rung (f : Format) (s : Bool) {m : Nat} (h : m ≠ 0) (e : Int) : f.nearest s m e = f.word s (min (rungOf f m e) f.infRung) := by
  unfold Format.nearest rungOf lastOf
  rw [if_neg h]
  simp only [cut_sign s]

/-- a number below 2 ^ K is not rounded past 2 ^ K -/
theorem rungOf_le (f : Format) {m : Nat} (e : Int) (K : Int) (hK : e + m.log2 < K) (hl : f.leastPlace ≤ K - 1 - f.fractionBits) :
    rungOf f m e ≤ ((K - 1 - f.fractionBits - f.leastPlace).toNat + 2) * f.binade := by
  have h2 : m < 2 ^ (m.log2 + 1) := Nat.lt_log2_self
  unfold rungOf
  have hlast : lastOf f m e ≤ K - 1 - f.fractionBits := by unfold lastOf; omega
  have hk : Toward.even.cut false (m <<< (e - lastOf f m e).toNat) (lastOf f m e - e).toNat ≤ 2 * f.binade := by
    apply cut_le
    rw [shl_eq]
    have : m * 2 ^ (e - lastOf f m e).toNat ≤ 2 ^ (m.log2 + 1) * 2 ^ (e - lastOf f m e).toNat := Nat.mul_le_mul_right _ (by omega)
    refine Nat.le_trans this ?_
    unfold Format.binade
    rw [show (2 : Nat) * 2 ^ f.fractionBits = 2 ^ (f.fractionBits + 1) by rw [Nat.pow_succ]; omega, ← Nat.pow_add, ← Nat.pow_add]
    apply Nat.pow_le_pow_right (by omega)
    unfold lastOf
    omega
  have : (lastOf f m e - f.leastPlace).toNat * f.binade ≤ (K - 1 - f.fractionBits - f.leastPlace).toNat * f.binade := Nat.mul_le_mul_right _ (by omega)
  rw [Nat.add_mul]
  omega

theorem signWeight_pos (f : Format) : 0 < f.signWeight := Nat.two_pow_pos _

theorem infRung_add_binade (f : Format) : f.infRung + f.binade = f.signWeight := f.infRung_add_binade

theorem word_split (f : Format) (s : Bool) {r : Nat} (h : r < f.signWeight) : f.word s r % f.signWeight = r ∧ (f.word s r / f.signWeight % 2 == 1) = s := by
  have hp := signWeight_pos f
  cases s
  · simp only [Format.word, Bool.false_eq_true, if_false]
    exact ⟨Nat.mod_eq_of_lt h, by rw [Nat.div_eq_of_lt h]; rfl⟩
  · simp only [Format.word, if_true]
    refine ⟨by rw [Nat.add_mod_left]; exact Nat.mod_eq_of_lt h, ?_⟩
    rw [Nat.add_div_left _ hp, Nat.div_eq_of_lt h]; rfl

theorem read_word (f : Format) (s : Bool) {r : Nat} (h : r < f.infRung) :
    f.read (f.word s r) = if r < f.binade then .number s r f.leastPlace else .number s (f.binade + r % f.binade) (f.leastPlace + (r / f.binade - 1 : Nat)) := by
  have hs : r < f.signWeight := by have := infRung_add_binade f; omega
  obtain ⟨e1, e2⟩ := word_split f s hs
  unfold Format.read
  simp only [e1, e2]
  rw [if_pos h]

theorem read_word_inf (f : Format) (s : Bool) (hb : f.binade ≤ f.infRung) : f.read (f.word s f.infRung) = .infinity s := by
  have hs : f.infRung < f.signWeight := f.infRung_lt
  obtain ⟨e1, e2⟩ := word_split f s hs
  unfold Format.read
  simp only [e1, e2]
  rw [if_neg (by omega), if_neg (by omega), if_pos trivial]

/-- A NUMBER THAT THE FORMAT HAS IS READ BACK, with its digits moved up. -/
theorem read_exact (f : Format) (s : Bool) {m : Nat} (h : m ≠ 0) (e : Int) (hF : lastOf f m e ≤ e) (hi : rungOf f m e < f.infRung) :
    f.read (f.nearest s m e) = .number s (m * 2 ^ (e - lastOf f m e).toNat) (lastOf f m e) := by
  have h1 : 2 ^ m.log2 ≤ m := Nat.log2_self_le h
  have h2 : m < 2 ^ (m.log2 + 1) := Nat.lt_log2_self
  have hp : 0 < f.binade := Nat.two_pow_pos _
  rw [nearest_rung f s h, Nat.min_eq_left (by omega), read_word f s hi]
  have hr : rungOf f m e = (lastOf f m e - f.leastPlace).toNat * f.binade + m * 2 ^ (e - lastOf f m e).toNat := by
    unfold rungOf
    rw [show (lastOf f m e - e).toNat = 0 by omega, cut_zero, shl_eq]
  have hb : f.binade = 2 ^ f.fractionBits := rfl
  by_cases hc : f.leastPlace < e + m.log2 - f.fractionBits
  · have hlast : lastOf f m e = e + m.log2 - f.fractionBits := by unfold lastOf; omega
    have ek : m.log2 + (e - lastOf f m e).toNat = f.fractionBits := by omega
    have k1 : f.binade ≤ m * 2 ^ (e - lastOf f m e).toNat := by
      rw [hb, ← ek, Nat.pow_add]; exact Nat.mul_le_mul_right _ h1
    have k2 : m * 2 ^ (e - lastOf f m e).toNat < 2 * f.binade := by
      rw [hb, ← ek, Nat.pow_add, ← Nat.mul_assoc, show 2 * 2 ^ m.log2 = 2 ^ (m.log2 + 1) by rw [Nat.pow_succ]; omega]
      exact Nat.mul_lt_mul_of_pos_right h2 (Nat.two_pow_pos _)
    generalize m * 2 ^ (e - lastOf f m e).toNat = k at *
    have hq : rungOf f m e = (k - f.binade) + f.binade * ((lastOf f m e - f.leastPlace).toNat + 1) := by
      rw [hr, Nat.mul_add, Nat.mul_comm]; omega
    have d1 : rungOf f m e / f.binade = (lastOf f m e - f.leastPlace).toNat + 1 := by
      rw [hq, Nat.add_mul_div_left _ _ hp, Nat.div_eq_of_lt (by omega)]; omega
    have d2 : rungOf f m e % f.binade = k - f.binade := by
      rw [hq, Nat.add_mul_mod_self_left, Nat.mod_eq_of_lt (by omega)]
    have nb : ¬ rungOf f m e < f.binade := by
      rw [hr]; have := Nat.zero_le ((lastOf f m e - f.leastPlace).toNat * f.binade); omega
    rw [if_neg nb, d1, d2]
    congr 1
    · omega
    · omega
  · have hlast : lastOf f m e = f.leastPlace := by unfold lastOf; omega
    have z : (lastOf f m e - f.leastPlace).toNat = 0 := by omega
    rw [z, Nat.zero_mul, Nat.zero_add] at hr
    by_cases hn : rungOf f m e < f.binade
    · rw [if_pos hn, hr, hlast]
    · have k2 : m * 2 ^ (e - lastOf f m e).toNat < 2 * f.binade := by
        have : m * 2 ^ (e - lastOf f m e).toNat < 2 ^ (m.log2 + 1) * 2 ^ (e - lastOf f m e).toNat := Nat.mul_lt_mul_of_pos_right h2 (Nat.two_pow_pos _)
        refine Nat.lt_of_lt_of_le this ?_
        rw [hb, show (2 : Nat) * 2 ^ f.fractionBits = 2 ^ (f.fractionBits + 1) by rw [Nat.pow_succ]; omega, ← Nat.pow_add]
        apply Nat.pow_le_pow_right (by omega); omega
      rw [if_neg hn, hr]
      generalize m * 2 ^ (e - lastOf f m e).toNat = k at *
      have hq : k = (k - f.binade) + f.binade * 1 := by omega
      have d1 : k / f.binade = 1 := by
        rw [hq, Nat.add_mul_div_left _ _ hp, Nat.div_eq_of_lt (by omega)]
      have d2 : k % f.binade = k - f.binade := by
        conv => lhs; rw [hq]
        rw [Nat.add_mul_mod_self_left, Nat.mod_eq_of_lt (by omega)]
      rw [d1, d2, hlast]
      congr 1
      · omega
      · omega
end Go.Proofs.Ytedfbaeajofmnaa

end

section

namespace Go.Proofs.Ytedfbaeajofmnaa
open Go Ieee

/-- the number is a NaN -/
def isN (k : FloatKind) (b : Nat) : Bool := (k.decode b).isNaN

/-- The bits of a number that is no NaN. -/
def canon (k : FloatKind) (b : Nat) : Option Nat := if (k.decode b).isNaN then none else some b

theorem canon_some {k : FloatKind} {b c : Nat} (h : canon k b = some c) : c = b ∧ (k.decode b).isNaN = false := by
  unfold canon at h
  split at h
  · cases h
  · rename_i hn; cases h; exact ⟨rfl, by simpa using hn⟩

theorem canon_none {k : FloatKind} {b : Nat} : canon k b = none ↔ (k.decode b).isNaN = true := by
  unfold canon; split <;> simp_all

theorem canon_of_not {k : FloatKind} {b : Nat} (h : (k.decode b).isNaN = false) : canon k b = some b := by
  unfold canon; rw [if_neg (by simp [h])]

theorem sum_notNaN {x y d : Datum} (h : x.sum y = some d) : d.isNaN = false := by
  unfold Datum.sum at h
  split at h <;> first | (cases h; done) | skip
  · split at h
    · cases h; rfl
    · cases h
  · cases h; rfl
  · cases h; rfl
  · cases h; rfl

theorem product_notNaN {x y d : Datum} (h : x.product y = some d) : d.isNaN = false := by
  unfold Datum.product at h
  split at h <;> first | (cases h; done) | skip
  · cases h; rfl
  · split at h
    · cases h
    · cases h; rfl
  · split at h
    · cases h
    · cases h; rfl
  · cases h; rfl

theorem quotient_notNaN {n : Nat} {x y d : Datum} (h : x.quotient n y = some d) : d.isNaN = false := by
  unfold Datum.quotient at h
  split at h <;> first | (cases h; done) | skip
  · cases h; rfl
  · cases h; rfl
  · split at h
    · split at h
      · cases h
      · cases h; rfl
    · cases h; rfl

theorem root_notNaN {n : Nat} {x d : Datum} (h : x.root n = some d) : d.isNaN = false := by
  unfold Datum.root at h
  split at h <;> first | (cases h; done) | skip
  · split at h
    · cases h
    · cases h; rfl
  · split at h
    · cases h; rfl
    · split at h
      · cases h
      · cases h; rfl

theorem binade_le_inf (k : FloatKind) : k.format.binade ≤ k.format.infRung := by cases k <;> decide

theorem read_word_notNaN (k : FloatKind) (s : Bool) {r : Nat} (h : r ≤ k.format.infRung) : (k.format.read (k.format.word s r)).isNaN = false := by
  rcases Nat.lt_or_ge r k.format.infRung with h1 | h1
  · rw [read_word _ _ h1]; split <;> rfl
  · obtain rfl : r = k.format.infRung := by omega
    rw [read_word_inf _ _ (binade_le_inf k)]; rfl

theorem nearest_notNaN (k : FloatKind) (s : Bool) (m : Nat) (e : Int) : (k.format.read (k.format.nearest s m e)).isNaN = false := by
  by_cases h : m = 0
  · unfold Format.nearest; rw [if_pos h]
    exact read_word_notNaN k s (Nat.zero_le _)
  · rw [nearest_rung _ _ h]
    exact read_word_notNaN k s (Nat.min_le_right ..)

theorem write_notNaN (k : FloatKind) {d : Datum} (h : d.isNaN = false) : (k.decode (k.encode d)).isNaN = false := by
  cases d with
  | number s m e => exact nearest_notNaN k s m e
  | infinity s => exact read_word_notNaN k s (Nat.le_refl _)
  | nan => cases h

theorem floatBits_notNaN {op : BinOp} {k : FloatKind} {a b r : Nat} (h : floatBits op k a b = some r) : (k.decode r).isNaN = false := by
  have go : ∀ {o : Option Datum}, (∀ d, o = some d → d.isNaN = false) → o.map k.format.write = some r → (k.decode r).isNaN = false := by
    intro o ho hr
    cases o with
    | none => cases hr
    | some d => cases hr; exact write_notNaN k (ho d rfl)
  unfold floatBits at h
  split at h
  · exact go (fun d hd => sum_notNaN hd) h
  · exact go (fun d hd => sum_notNaN hd) h
  · exact go (fun d hd => product_notNaN hd) h
  · exact go (fun d hd => quotient_notNaN hd) h
  · cases h

theorem isNaN_form : ∀ d : Datum, d.isNaN = true → ∃ s t, d = .nan s t
  | .nan s t, _ => ⟨s, t, rfl⟩
  | .number .., h => by cases h
  | .infinity _, h => by cases h

/-- An operation on numbers of which one may be a NaN. -/
def fop (op : BinOp) (k : FloatKind) : Option Nat → Option Nat → Option Nat
  | some a, some b => floatBits op k a b
  | _, _ => none

theorem floatBits_canon (op : BinOp) (k : FloatKind) (a b : Nat) : floatBits op k a b = fop op k (canon k a) (canon k b) := by
  have hn := isNaN_form
  by_cases ha : (k.decode a).isNaN = true
  · rw [canon_none.2 ha]
    obtain ⟨s, t, e⟩ := hn _ ha
    have e' : k.format.read a = .nan s t := e
    show _ = none
    unfold floatBits; split <;> first | rfl | simp [Format.add, Format.sub, Format.mul, Format.div, e', Datum.sum, Datum.product, Datum.quotient]
  · by_cases hb : (k.decode b).isNaN = true
    · rw [canon_none.2 hb]
      obtain ⟨s, t, e⟩ := hn _ hb
      have e' : k.format.read b = .nan s t := e
      have : fop op k (canon k a) none = none := by cases canon k a <;> rfl
      rw [this]
      unfold floatBits; split <;> first | rfl | (cases hd : k.format.read a <;> simp [Format.add, Format.sub, Format.mul, Format.div, e', hd, Datum.opposite, Datum.sum, Datum.product, Datum.quotient])
    · rw [canon_of_not (by simpa using ha), canon_of_not (by simpa using hb)]; rfl

/-- how two stand to each other -/
def ford (k : FloatKind) : Option Nat → Option Nat → Option Ordering
  | some a, some b => k.format.order a b
  | _, _ => none

theorem order_canon (k : FloatKind) (a b : Nat) : k.format.order a b = ford k (canon k a) (canon k b) := by
  have hn := isNaN_form
  by_cases ha : (k.decode a).isNaN = true
  · rw [canon_none.2 ha]
    obtain ⟨s, t, e⟩ := hn _ ha
    have e' : k.format.read a = .nan s t := e
    simp [Format.order, e', Datum.order, ford]
  · by_cases hb : (k.decode b).isNaN = true
    · rw [canon_none.2 hb]
      obtain ⟨s, t, e⟩ := hn _ hb
      have e' : k.format.read b = .nan s t := e
      have : ford k (canon k a) none = none := by cases canon k a <;> rfl
      rw [this]
      cases hd : k.format.read a <;> simp [Format.order, e', hd, Datum.order]
    · rw [canon_of_not (by simpa using ha), canon_of_not (by simpa using hb)]; rfl

theorem order_self (k : FloatKind) (b : Nat) : k.format.order b b = if (k.decode b).isNaN then none else some .eq := by
  unfold Format.order
  show (k.decode b).order (k.decode b) = _
  generalize k.decode b = d
  cases d with
  | number s m e => simp only [Datum.order, Datum.isNaN]; simp
  | infinity s => cases s <;> rfl
  | nan => rfl

theorem nanCut (k : FloatKind) (q : Question) (t : Nat) (hq : (∃ x y, q = .nanBits k x y) ∨ (∃ x, q = .nanConv k x)) :
    (k.decode (q.cut t)).isNaN = true ∧ q.cut t < 2 ^ k.format.width ∧ q.forced = false := by
  have hc : (q.cut t = match k with | .f32 => (t % 2) * 2 ^ 31 + 0x7f800000 + 1 + (t / 2) % (2 ^ 23 - 1) | .f64 => (t % 2) * 2 ^ 63 + 0x7ff0000000000000 + 1 + (t / 2) % (2 ^ 52 - 1)) ∧ q.forced = false := by
    rcases hq with ⟨x, y, rfl⟩ | ⟨x, rfl⟩ <;> cases k <;> exact ⟨rfl, rfl⟩
  rw [hc.1]
  refine ⟨?_, ?_, hc.2⟩
  · cases k
    · show (Ieee.single.read _).isNaN = true
      have m1 : (t / 2) % (2 ^ 23 - 1) < 2 ^ 23 - 1 := Nat.mod_lt _ (by decide)
      have m2 : t % 2 < 2 := Nat.mod_lt _ (by decide)
      generalize (t / 2) % (2 ^ 23 - 1) = u at *
      generalize t % 2 = v at *
      have e1 : (v * 2 ^ 31 + 0x7f800000 + 1 + u) % 2 ^ 31 = 0x7f800000 + 1 + u := by omega
      unfold Format.read
      rw [show Ieee.single.signWeight = 2 ^ 31 from rfl, show Ieee.single.binade = 2 ^ 23 from rfl, show Ieee.single.infRung = 0x7f800000 from rfl]
      simp only [e1]
      rw [if_neg (by omega), if_neg (by omega), if_neg (by omega)]; rfl
    · show (Ieee.double.read _).isNaN = true
      have m1 : (t / 2) % (2 ^ 52 - 1) < 2 ^ 52 - 1 := Nat.mod_lt _ (by decide)
      have m2 : t % 2 < 2 := Nat.mod_lt _ (by decide)
      generalize (t / 2) % (2 ^ 52 - 1) = u at *
      generalize t % 2 = v at *
      have e1 : (v * 2 ^ 63 + 0x7ff0000000000000 + 1 + u) % 2 ^ 63 = 0x7ff0000000000000 + 1 + u := by omega
      unfold Format.read
      rw [show Ieee.double.signWeight = 2 ^ 63 from rfl, show Ieee.double.binade = 2 ^ 52 from rfl, show Ieee.double.infRung = 0x7ff0000000000000 from rfl]
      simp only [e1]
      rw [if_neg (by omega), if_neg (by omega), if_neg (by omega)]; rfl
  · have m2 : t % 2 < 2 := Nat.mod_lt _ (by decide)
    cases k
    · have m1 : (t / 2) % (2 ^ 23 - 1) < 2 ^ 23 - 1 := Nat.mod_lt _ (by decide)
      show _ < 2 ^ 32
      simp only []
      omega
    · have m1 : (t / 2) % (2 ^ 52 - 1) < 2 ^ 52 - 1 := Nat.mod_lt _ (by decide)
      show _ < 2 ^ 64
      simp only []
      omega

/-- what an operation's run leaves: a value known up to a NaN's bits, and at most some draws -/
theorem run_arith_any {P : Program} (w : World) (op : BinOp) (hop : op = .add ∨ op = .sub ∨ op = .mul ∨ op = .quo) (k : FloatKind) (a b : Nat) :
    ∃ v n, (Op.floatArith op k a b).run P w = .ok (.float k v) (w.drewN n) ∧ canon k v = fop op k (canon k a) (canon k b) ∧ v < 2 ^ k.format.width := by
  rw [← floatBits_canon]
  cases h : floatBits op k a b with
  | some r =>
    refine ⟨r, 0, ?_, canon_of_not (floatBits_notNaN h), ?_⟩
    · exact run_floatArith w h
    · have := floatBits_wf h
      cases k <;> (simp only [Lit.wf, decide_eq_true_eq] at this; exact this)
  | none =>
    have hq := nanCut k (.nanBits k a b) (w.tape w.drawn (.nanBits k a b)) (.inl ⟨_, _, rfl⟩)
    refine ⟨(Question.nanBits k a b).cut (w.tape w.drawn (.nanBits k a b)), 1, ?_, canon_none.2 hq.1, hq.2.1⟩
    have hf : (Question.nanBits k a b).forced = false := hq.2.2
    rcases hop with rfl | rfl | rfl | rfl <;> simp only [floatBits] at h <;> simp [Op.floatArith, h, hf, World.drewN]

/-- the four operations -/
def isArith : BinOp → Bool
  | .add | .sub | .mul | .quo => true
  | _ => false
theorem isArith_or {op : BinOp} (h : isArith op = true) : op = .add ∨ op = .sub ∨ op = .mul ∨ op = .quo := by
  cases op <;> first | (cases h; done) | simp

/-- a conversion between the kinds, up to a NaN; 'none' also where the number is too great -/
def fconv (src dst : FloatKind) : Option Nat → Option Nat
  | some b => floatToFloatBits src b dst
  | none => none

/-- the number is not too great for the other kind -/
def fits (src dst : FloatKind) (b : Nat) : Prop := src = dst ∨ (src.decode b).isNaN = true ∨ (floatToFloatBits src b dst).isSome = true

theorem floatToFloatBits_notNaN {src dst : FloatKind} {b r : Nat} (hn : (src.decode b).isNaN = false) (h : floatToFloatBits src b dst = some r) : (dst.decode r).isNaN = false := by
  unfold floatToFloatBits at h
  split at h
  · rename_i e; subst e; cases h; exact hn
  · split at h
    · cases h
    · cases h; exact write_notNaN dst rfl
    · split at h
      · cases h
      · cases h; exact write_notNaN dst rfl

theorem wf_lt {k : FloatKind} {r : Nat} (h : (Lit.float k r).wf = true) : r < 2 ^ k.format.width := by
  cases k <;> (simp only [Lit.wf, decide_eq_true_eq] at h; exact h)

/-- what a conversion between float kinds leaves -/
theorem run_conv_any {P : Program} (w : World) (src dst : FloatKind) (hne : src ≠ dst) (b : Nat) (hb : b < 2 ^ src.format.width) (hf : fits src dst b) :
    ∃ v n, (Conv.floatToFloat src b dst).run P w = .ok (.float dst v) (w.drewN n) ∧ canon dst v = fconv src dst (canon src b) ∧ v < 2 ^ dst.format.width := by
  by_cases hn : (src.decode b).isNaN = true
  · obtain ⟨s, t, e⟩ := isNaN_form _ hn
    have hq := nanCut dst (.nanConv dst b) (w.tape w.drawn (.nanConv dst b)) (.inr ⟨_, rfl⟩)
    refine ⟨(Question.nanConv dst b).cut (w.tape w.drawn (.nanConv dst b)), 1, ?_, ?_, hq.2.1⟩
    · have hf : (Question.nanConv dst b).forced = false := hq.2.2
      simp [Conv.floatToFloat, hne, e, hf, World.drewN]
    · rw [canon_none.2 hq.1, canon_none.2 hn]; rfl
  · have hn' : (src.decode b).isNaN = false := by simpa using hn
    have hs : (floatToFloatBits src b dst).isSome = true := by
      rcases hf with h | h | h
      · exact absurd h hne
      · exact absurd h hn
      · exact h
    obtain ⟨r, hr⟩ := Option.isSome_iff_exists.1 hs
    refine ⟨r, 0, ?_, ?_, ?_⟩
    · unfold floatToFloatBits at hr
      rw [if_neg hne] at hr
      split at hr
      · cases hr
      · rename_i s e; cases hr
        simp [Conv.floatToFloat, hne, e, World.drewN]
      · rename_i s m e he
        split at hr
        · cases hr
        · rename_i ho; cases hr
          simp [Conv.floatToFloat, hne, he, ho, World.drewN]
    · rw [canon_of_not hn', canon_of_not (floatToFloatBits_notNaN hn' hr)]; exact hr.symm
    · exact wf_lt (floatToFloatBits_wf (wf_of_lt src b hb) hr)

section
variable {P : Program} {ops : Array Oper} {Q : Exit → Act → World → Prop} {a : Act} {w : World} {rest : List Oper} {o : Oper}
theorem wp_arith (op : BinOp) (hop : isArith op = true) (t t2 : TypeId) (x y : Operand) (ho : o.op = .binOp op t x y t2) (k : FloatKind) (p q : Nat) (hx : a.eval x = .float k p) (hy : a.eval y = .float k q)
    {K : Act → World → Prop} (h : ∀ v n, canon k v = fop op k (canon k p) (canon k q) → v < 2 ^ k.format.width → K (a.put o.dst (.float k v)) (w.drewN n)) : o.wp P a w K Q := by
  have hop' := isArith_or hop
  obtain ⟨v, n, hr, hc, hv⟩ := run_arith_any (P := P) w op hop' k p q
  unfold Oper.wp execOp
  have e : binOp op t (.float k p) (.float k q) = Op.floatArith op k p q := by rcases hop' with rfl | rfl | rfl | rfl <;> simp [binOp]
  have g : eqGuard op t x y (.float k p) (.float k q) = pure () := by rcases hop' with rfl | rfl | rfl | rfl <;> rfl
  simp only [ho, hx, hy, g, e, Sem.run_bind, Sem.run_pure, Result.andThen_ok, hr]
  exact h v n hc hv

/-- AN ARM: '+', '-', '*', '/' on floats: the result is known up to a NaN's bits. -/
theorem wpList_arith (hgd : o.guard = none) (op : BinOp) (t t2 : TypeId) (x y : Operand) (ho : o.op = .binOp op t x y t2) (hop : isArith op = true) (k : FloatKind) (p q : Nat) (hx : a.eval x = .float k p) (hy : a.eval y = .float k q)
    (h : ∀ v n, canon k v = fop op k (canon k p) (canon k q) → v < 2 ^ k.format.width → wpList P ops Q rest (a.put o.dst (.float k v)) (w.drewN n)) : wpList P ops Q (o :: rest) a w :=
  wpList_plain hgd fun _ hK => wp_arith op hop t t2 x y ho k p q hx hy fun v n h1 h2 => hK _ _ (h v n h1 h2)

theorem wp_conv (t t2 : TypeId) (x : Operand) (ho : o.op = .convert t t2 x) (src dst : FloatKind) (hne : src ≠ dst) (p : Nat) (hx : a.eval x = .float src p) (hs : P.underlying t = some (.float src)) (hd : P.underlying t2 = some (.float dst))
    (hb : p < 2 ^ src.format.width) (hf : fits src dst p)
    {K : Act → World → Prop} (h : ∀ v n, canon dst v = fconv src dst (canon src p) → v < 2 ^ dst.format.width → K (a.put o.dst (.float dst v)) (w.drewN n)) : o.wp P a w K Q := by
  obtain ⟨v, n, hr, hc, hv⟩ := run_conv_any (P := P) w src dst hne p hb hf
  unfold Oper.wp execOp
  have e : (convert t t2 (.float src p)).run P w = .ok (.float dst v) (w.drewN n) := by
    simp [convert, run_underlying hs, run_underlying hd, hr]
  simp only [ho, hx, Sem.run_bind, Sem.run_pure, Result.andThen_ok, e]
  exact h v n hc hv

/-- AN ARM: a conversion between the two float kinds. -/
theorem wpList_conv (hgd : o.guard = none) (t t2 : TypeId) (x : Operand) (ho : o.op = .convert t t2 x) (src dst : FloatKind) (hne : src ≠ dst) (p : Nat) (hx : a.eval x = .float src p) (hs : P.underlying t = some (.float src)) (hd : P.underlying t2 = some (.float dst))
    (hb : p < 2 ^ src.format.width) (hf : fits src dst p)
    (h : ∀ v n, canon dst v = fconv src dst (canon src p) → v < 2 ^ dst.format.width → wpList P ops Q rest (a.put o.dst (.float dst v)) (w.drewN n)) : wpList P ops Q (o :: rest) a w :=
  wpList_plain hgd fun _ hK => wp_conv t t2 x ho src dst hne p hx hs hd hb hf fun v n h1 h2 => hK _ _ (h v n h1 h2)
end

/-! ### A 32-bit number is a 64-bit one -/

theorem read_bounds {f : Format} {b : Nat} {s : Bool} {m : Nat} {e : Int} (h : f.read b = .number s m e) :
    m < 2 * f.binade ∧ f.leastPlace ≤ e ∧ e ≤ f.leastPlace + (f.infRung / f.binade : Nat) := by
  have hp : 0 < f.binade := Nat.two_pow_pos _
  have hm : b % f.signWeight % f.binade < f.binade := Nat.mod_lt _ hp
  unfold Format.read at h
  simp only at h
  by_cases h1 : b % f.signWeight < f.binade
  · rw [if_pos h1] at h
    injection h with _ a2 a3
    have := Int.natCast_nonneg (f.infRung / f.binade)
    refine ⟨?_, ?_, ?_⟩
    · omega
    · omega
    · rw [← a3]; exact Int.le_add_of_nonneg_right (Int.natCast_nonneg _)
  · rw [if_neg h1] at h
    by_cases h2 : b % f.signWeight < f.infRung
    · rw [if_pos h2] at h
      injection h with _ a2 a3
      have hd := Nat.div_le_div_right (c := f.binade) (Nat.le_of_lt h2)
      generalize f.infRung / f.binade = z at *
      generalize b % f.signWeight / f.binade = y at *
      refine ⟨?_, ?_, ?_⟩ <;> omega
    · rw [if_neg h2] at h
      split at h <;> cases h

theorem widen_read (s : Bool) {m : Nat} (h : m ≠ 0) {e : Int} (hm : m < 2 ^ 24) (h1 : -149 ≤ e) (h2 : e ≤ 106) :
    Ieee.double.read (Ieee.double.nearest s m e) = .number s (m * 2 ^ (52 - m.log2)) (e - (52 - m.log2 : Nat)) := by
  have hl : m.log2 < 24 := (Nat.log2_lt h).2 hm
  have lp : Ieee.double.leastPlace = -1074 := rfl
  have fb : (Ieee.double.fractionBits : Int) = 52 := rfl
  have e1 : lastOf Ieee.double m e = e - (52 - m.log2 : Nat) := by
    unfold lastOf; rw [lp, fb]; omega
  have hr : rungOf Ieee.double m e < Ieee.double.infRung := by
    have := rungOf_le Ieee.double (m := m) e 131 (by omega) (by rw [lp, fb]; omega)
    refine Nat.lt_of_le_of_lt this ?_
    decide
  have := read_exact Ieee.double s h e (by rw [e1]; omega) hr
  rw [this, e1]
  congr 2
  congr 1
  omega

theorem fits_widen (b : Nat) : fits .f32 .f64 b := by
  by_cases hn : (FloatKind.f32.decode b).isNaN = true
  · exact .inr (.inl hn)
  · refine .inr (.inr ?_)
    unfold floatToFloatBits
    rw [if_neg (by decide)]
    have : FloatKind.f32.decode b = Ieee.single.read b := rfl
    rw [this] at hn ⊢
    cases hd : Ieee.single.read b with
    | nan s t => rw [hd] at hn; exact absurd rfl hn
    | infinity s => rfl
    | number s m e =>
      have hb := read_bounds hd
      simp only
      by_cases h0 : m = 0
      · subst h0
        have z : FloatKind.f64.encode (.number s 0 e) = Ieee.double.word s 0 := rfl
        rw [z]; cases s <;> rfl
      · have hw := widen_read s h0 (e := e) (by have : Ieee.single.binade = 2 ^ 23 := rfl; omega) (by have : Ieee.single.leastPlace = -149 := rfl; omega) (by have : Ieee.single.leastPlace = -149 := rfl; have : Ieee.single.infRung / Ieee.single.binade = 255 := rfl; omega)
        have : FloatKind.f64.decode (FloatKind.f64.encode (.number s m e)) = _ := hw
        rw [this]; rfl
end Go.Proofs.Ytedfbaeajofmnaa

end

section

namespace Go.Proofs.Ytedfbaeajofmnaa
open Go Ieee

/-- the magnitude of a rung, in units of the least place -/
def magOf (f : Format) (r : Nat) : Nat := if r < f.binade then r else (f.binade + r % f.binade) * 2 ^ (r / f.binade - 1)

theorem magOf_step (f : Format) (r : Nat) : magOf f r < magOf f (r + 1) := by
  have hB : 0 < f.binade := Nat.two_pow_pos _
  generalize hb : f.binade = B at hB
  unfold magOf
  rw [hb]
  by_cases h1 : r + 1 < B
  · rw [if_pos (by omega), if_pos h1]; omega
  · by_cases h2 : r < B
    · have e : r + 1 = B := by omega
      rw [if_pos h2, if_neg h1, e, Nat.mod_self, Nat.div_self hB]; simp; omega
    · rw [if_neg h2, if_neg h1]
      have hq : 1 ≤ r / B := (Nat.le_div_iff_mul_le hB).2 (by omega)
      have hm := Nat.div_add_mod r B
      have hl : r % B < B := Nat.mod_lt _ hB
      by_cases h3 : r % B + 1 < B
      · have d : (r + 1) / B = r / B := by
          rw [Nat.div_eq_iff hB]
          constructor
          · rw [Nat.mul_comm]; omega
          · rw [Nat.mul_comm]; omega
        have m : (r + 1) % B = r % B + 1 := by
          have := Nat.div_add_mod (r + 1) B
          rw [d] at this; omega
        rw [d, m]
        apply Nat.mul_lt_mul_of_pos_right (by omega) (Nat.two_pow_pos _)
      · have d : (r + 1) / B = r / B + 1 := by
          rw [Nat.div_eq_iff hB]
          constructor
          · rw [Nat.add_mul, Nat.mul_comm]; omega
          · rw [Nat.add_mul, Nat.mul_comm]; omega
        have m : (r + 1) % B = 0 := by
          have := Nat.div_add_mod (r + 1) B
          rw [d, Nat.mul_add] at this; omega
        rw [d, m]
        have : 2 ^ (r / B + 1 - 1) = 2 * 2 ^ (r / B - 1) := by
          rw [show r / B + 1 - 1 = (r / B - 1) + 1 by omega, Nat.pow_succ]; omega
        rw [this, Nat.add_zero, ← Nat.mul_assoc]
        apply Nat.mul_lt_mul_of_pos_right (by omega) (Nat.two_pow_pos _)

theorem magOf_lt (f : Format) {r s : Nat} (h : r < s) : magOf f r < magOf f s := by
  induction s with
  | zero => omega
  | succ s ih =>
    rcases Nat.lt_or_ge r s with a | a
    · exact Nat.lt_trans (ih a) (magOf_step f s)
    · obtain rfl : r = s := by omega
      exact magOf_step f r

theorem magOf_lt_iff (f : Format) {r s : Nat} : magOf f r < magOf f s ↔ r < s := by
  constructor
  · intro h
    rcases Nat.lt_trichotomy r s with a | a | a
    · exact a
    · subst a; omega
    · have := magOf_lt f a; omega
  · exact magOf_lt f

theorem magOf_inj (f : Format) {r s : Nat} (h : magOf f r = magOf f s) : r = s := by
  rcases Nat.lt_trichotomy r s with a | a | a
  · have := magOf_lt f a; omega
  · exact a
  · have := magOf_lt f a; omega

def sgn (f : Format) (b : Nat) : Bool := b / f.signWeight % 2 == 1
def rung (f : Format) (b : Nat) : Nat := b % f.signWeight
/-- the signed rung -/
def key (f : Format) (b : Nat) : Int := if sgn f b then -(rung f b : Int) else rung f b

/-- what a word reads as, by its rung -/
theorem read_cases (f : Format) (b : Nat) :
    (rung f b < f.infRung ∧ ∃ m p, f.read b = .number (sgn f b) m (f.leastPlace + (p : Nat)) ∧ m * 2 ^ p = magOf f (rung f b)) ∨
    (rung f b = f.infRung ∧ f.binade ≤ f.infRung ∧ f.read b = .infinity (sgn f b)) ∨ (f.infRung < rung f b ∧ f.read b = .nan (sgn f b) (rung f b - f.infRung)) ∨ f.infRung < f.binade := by
  unfold Format.read sgn rung
  simp only
  by_cases hw : f.infRung < f.binade
  · exact .inr (.inr (.inr hw))
  · by_cases h1 : b % f.signWeight < f.binade
    · rw [if_pos h1]
      by_cases h2 : b % f.signWeight < f.infRung
      · exact .inl ⟨h2, b % f.signWeight, 0, by simp, by unfold magOf; rw [if_pos h1]; simp⟩
      · omega
    · rw [if_neg h1]
      by_cases h2 : b % f.signWeight < f.infRung
      · rw [if_pos h2]
        exact .inl ⟨h2, _, _, rfl, by unfold magOf; rw [if_neg h1]⟩
      · rw [if_neg h2]
        by_cases h3 : b % f.signWeight = f.infRung
        · rw [if_pos h3]; exact .inr (.inl ⟨h3, by omega, rfl⟩)
        · rw [if_neg h3]; exact .inr (.inr (.inl ⟨by omega, rfl⟩))

theorem isN_iff (k : FloatKind) (b : Nat) : isN k b = true ↔ k.format.infRung < rung k.format b := by
  have hw : ¬ k.format.infRung < k.format.binade := by cases k <;> decide
  unfold isN FloatKind.decode
  rcases read_cases k.format b with ⟨h, m, p, e, _⟩ | ⟨h, _, e⟩ | ⟨h, e⟩ | h
  · rw [e]; constructor
    · intro h'; cases h'
    · intro h'; omega
  · rw [e]; constructor
    · intro h'; cases h'
    · intro h'; omega
  · rw [e]; exact ⟨fun _ => h, fun _ => rfl⟩
  · exact absurd h hw

theorem compare_mul {a b : Int} {c : Nat} (hc : 0 < c) : compare (a * c) (b * c) = compare a b := by
  have hc' : (0 : Int) < c := by omega
  rcases Int.lt_trichotomy a b with h | h | h
  · rw [Int.compare_eq_lt.2 h, Int.compare_eq_lt.2 (Int.mul_lt_mul_of_pos_right h hc')]
  · subst h; simp
  · rw [Int.compare_eq_gt.2 h, Int.compare_eq_gt.2 (Int.mul_lt_mul_of_pos_right h hc')]

theorem signed_mul (s : Bool) (m u j : Nat) : signed s m u * (2 ^ j : Nat) = signed s (m * 2 ^ (u + j)) 0 := by
  unfold signed
  simp only [shl_eq, Nat.pow_zero, Nat.mul_one]
  have : ((m * 2 ^ u : Nat) : Int) * (2 ^ j : Nat) = ((m * 2 ^ (u + j) : Nat) : Int) := by
    rw [Nat.pow_add, ← Nat.mul_assoc, Int.natCast_mul (m * 2 ^ u)]
  cases s
  · simpa using this
  · simp only [if_true]
    rw [Int.neg_mul, this]

theorem compare_signed (f : Format) (s t : Bool) (r q : Nat) : compare (signed s (magOf f r) 0) (signed t (magOf f q) 0) = compare (if s then -(r : Int) else r) (if t then -(q : Int) else q) := by
  have z : magOf f 0 = 0 := by unfold magOf; rw [if_pos (show 0 < f.binade from Nat.two_pow_pos _)]
  have hr : r = 0 ∧ magOf f r = 0 ∨ 0 < r ∧ 0 < magOf f r := by
    rcases Nat.eq_zero_or_pos r with h | h
    · subst h; exact .inl ⟨rfl, z⟩
    · have := magOf_lt f h; exact .inr ⟨h, by omega⟩
  have hq : q = 0 ∧ magOf f q = 0 ∨ 0 < q ∧ 0 < magOf f q := by
    rcases Nat.eq_zero_or_pos q with h | h
    · subst h; exact .inl ⟨rfl, z⟩
    · have := magOf_lt f h; exact .inr ⟨h, by omega⟩
  have l1 := @magOf_lt_iff f r q
  have l2 := @magOf_lt_iff f q r
  generalize magOf f r = x at *
  generalize magOf f q = y at *
  have key : ∀ a b c d : Int, (a < b ↔ c < d) → (b < a ↔ d < c) → compare a b = compare c d := by
    intro a b c d h1 h2
    rcases Int.lt_trichotomy a b with h | h | h
    · rw [Int.compare_eq_lt.2 h, Int.compare_eq_lt.2 (h1.1 h)]
    · have : c = d := by
        rcases Int.lt_trichotomy c d with h' | h' | h'
        · have := h1.2 h'; omega
        · exact h'
        · have := h2.2 h'; omega
      rw [h, this]; simp
    · rw [Int.compare_eq_gt.2 h, Int.compare_eq_gt.2 (h2.1 h)]
  unfold signed
  simp only [shl_eq, Nat.pow_zero, Nat.mul_one]
  apply key <;> cases s <;> cases t <;> simp <;> omega

/-- HOW TWO STAND TO EACH OTHER IS HOW THEIR SIGNED RUNGS DO. -/
theorem order_key (k : FloatKind) {a b : Nat} (ha : isN k a = false) (hb : isN k b = false) : k.format.order a b = some (compare (key k.format a) (key k.format b)) := by
  have hw : ¬ k.format.infRung < k.format.binade := by cases k <;> decide
  have ha' : ¬ k.format.infRung < rung k.format a := fun h => by rw [(isN_iff k a).2 h] at ha; cases ha
  have hb' : ¬ k.format.infRung < rung k.format b := fun h => by rw [(isN_iff k b).2 h] at hb; cases hb
  unfold Format.order key
  rcases read_cases k.format a with ⟨h1, m, p, e1, v1⟩ | ⟨h1, _, e1⟩ | ⟨h1, _⟩ | h1
  · rcases read_cases k.format b with ⟨h2, n, q, e2, v2⟩ | ⟨h2, _, e2⟩ | ⟨h2, _⟩ | h2
    · rw [e1, e2]
      unfold Datum.order
      simp only
      congr 1
      rw [← compare_mul (c := 2 ^ (min (k.format.leastPlace + (p : Int)) (k.format.leastPlace + (q : Int)) - k.format.leastPlace).toNat) (Nat.two_pow_pos _), signed_mul, signed_mul]
      have w1 : (k.format.leastPlace + (p : Int) - min (k.format.leastPlace + (p : Int)) (k.format.leastPlace + (q : Int))).toNat + (min (k.format.leastPlace + (p : Int)) (k.format.leastPlace + (q : Int)) - k.format.leastPlace).toNat = p := by omega
      have w2 : (k.format.leastPlace + (q : Int) - min (k.format.leastPlace + (p : Int)) (k.format.leastPlace + (q : Int))).toNat + (min (k.format.leastPlace + (p : Int)) (k.format.leastPlace + (q : Int)) - k.format.leastPlace).toNat = q := by omega
      rw [w1, w2, v1, v2]
      exact compare_signed _ _ _ _ _
    · rw [e1, e2]
      unfold Datum.order
      simp only
      congr 1
      cases sgn k.format b
      · simp only [Bool.false_eq_true, if_false]
        symm; rw [Int.compare_eq_lt]; split <;> omega
      · simp only [if_true]
        symm; rw [Int.compare_eq_gt]; split <;> omega
    · exact absurd h2 hb'
    · exact absurd h2 hw
  · rcases read_cases k.format b with ⟨h2, n, q, e2, v2⟩ | ⟨h2, _, e2⟩ | ⟨h2, _⟩ | h2
    · rw [e1, e2]
      unfold Datum.order
      simp only
      congr 1
      cases sgn k.format a
      · simp only [Bool.false_eq_true, if_false]
        symm; rw [Int.compare_eq_gt]; split <;> omega
      · simp only [if_true]
        symm; rw [Int.compare_eq_lt]; split <;> omega
    · rw [e1, e2]
      unfold Datum.order
      simp only
      congr 1
      have hp : 0 < k.format.infRung := by cases k <;> decide
      cases sgn k.format a <;> cases sgn k.format b <;> simp only [Bool.false_eq_true, if_false, if_true, h1, h2]
      · simp
      · symm; show _ = Ordering.gt; rw [Int.compare_eq_gt]; omega
      · symm; show _ = Ordering.lt; rw [Int.compare_eq_lt]; omega
      · simp
    · exact absurd h2 hb'
    · exact absurd h2 hw
  · exact absurd h1 ha'
  · exact absurd h1 hw
end Go.Proofs.Ytedfbaeajofmnaa

end

section

namespace Go.Proofs.Ytedfbaeajofmnaa
open Go Ieee Go.RowKit

def bitsOf (b : Nat) : Int := if isN .f32 b = true then 2143289344 else b

theorem neq_self (k : FloatKind) (b : Nat) : (k.format.order b b != some .eq) = isN k b := by
  rw [order_self]; unfold isN; split <;> simp_all

@[go_sem] theorem run_f32bits (b : Nat) (w : World) : (callFunc 157 #[.float .f32 b]).run Try.prog w = .ok (.value (.int .u32 b)) w := by
  rw [run_callFunc_extern (e := Extern.MathFloatBits.float32bits) Try.func157 (by kernel_rfl) (by kernel_rfl) (by kernel_rfl) (by kernel_rfl)]; rfl

theorem isNaN_any (b : Nat) (w : World) : Calls Try.prog 156 #[.float .f64 b] w fun e w' => e = .returned (.bool (isN .f64 b)) ∧ w = w' := by
  have h := neq_self .f64 b
  go_enter Try.func156, Try.ntmps156
  go_wp2
  go_ret
  exact ⟨rfl, rfl⟩

theorem specBits (b : Nat) (w : World) (hb : b < 2 ^ 32) : Calls Try.prog 155 #[.float .f32 b] w fun e w' => e = .returned (.int .i64 (bitsOf b)) ∧ w = w' := by
  have h := neq_self .f32 b
  by_cases hn : isN .f32 b = true
  · go_enter Try.func155, Try.ntmps155
    go_wp2
    go_ret
    exact ⟨by unfold bitsOf; rw [if_pos hn]; rfl, rfl⟩
  · have hn' : isN .f32 b = false := by simpa using hn
    go_enter Try.func155, Try.ntmps155
    go_wp2
    go_ret
    exact ⟨by unfold bitsOf; rw [if_neg hn]; rfl, rfl⟩

theorem isN_conv {src dst : FloatKind} {b v : Nat} (h : canon dst v = fconv src dst (canon src b)) (hf : fits src dst b) (hne : src ≠ dst) : isN dst v = isN src b := by
  unfold isN
  by_cases hn : (src.decode b).isNaN = true
  · rw [canon_none.2 hn] at h
    rw [hn]; exact canon_none.1 h
  · have hn' : (src.decode b).isNaN = false := by simpa using hn
    rw [canon_of_not hn'] at h
    rcases hf with hf | hf | hf
    · exact absurd hf hne
    · exact absurd hf hn
    · obtain ⟨r, hr⟩ := Option.isSome_iff_exists.1 hf
      have h' : canon dst v = some r := h.trans hr
      rw [hn']; exact (canon_some h').2

theorem implBits (b : Nat) (w : World) (hb : b < 2 ^ 32) : Calls Try.prog 146 #[.float .f32 b] w fun e w' => e = .returned (.int .i64 (bitsOf b)) ∧ ∃ n, w' = w.drewN n := by
  by_cases hn : isN .f32 b = true
  · go_enter Try.func146, Try.ntmps146
    go_wp2_with (first | (go_at_call 156; refine (isNaN_any _ _).mono ?_; rintro e w' ⟨rfl, rfl⟩) | (refine wpList_conv rfl 102 143 _ rfl .f32 .f64 (by decide) _ rfl Try.underlying102 Try.underlying143 hb (fits_widen _) ?_; intro v n hc hv; have hi : isN .f64 v = true := (isN_conv hc (fits_widen _) (by decide)).trans hn; have HC := Lib.hid hc; clear hc))
    go_ret
    exact ⟨by unfold bitsOf; rw [if_pos hn]; rfl, _, rfl⟩
  · have hn' : isN .f32 b = false := by simpa using hn
    go_enter Try.func146, Try.ntmps146
    go_wp2_with (first | (go_at_call 156; refine (isNaN_any _ _).mono ?_; rintro e w' ⟨rfl, rfl⟩) | (refine wpList_conv rfl 102 143 _ rfl .f32 .f64 (by decide) _ rfl Try.underlying102 Try.underlying143 hb (fits_widen _) ?_; intro v n hc hv; have hi : isN .f64 v = false := (isN_conv hc (fits_widen _) (by decide)).trans hn'; have HC := Lib.hid hc; clear hc))
    go_ret
    exact ⟨by unfold bitsOf; rw [if_neg hn]; rfl, _, rfl⟩
end Go.Proofs.Ytedfbaeajofmnaa

end

section

namespace Go.Proofs.Ytedfbaeajofmnaa
open Go Ieee Go.RowKit

theorem specSame (a b : Nat) (w : World) (ha : a < 2 ^ 32) (hb : b < 2 ^ 32) : Calls Try.prog 145 #[.float .f32 a, .float .f32 b] w fun e w' => e = .returned (.bool (bitsOf a == bitsOf b)) ∧ w = w' := by
  go_enter Try.func145, Try.ntmps145
  go_wp2_with fail
  refine (specBits _ _ ha).mono ?_; rintro e w' ⟨rfl, rfl⟩
  go_wp2_with fail
  refine (specBits _ _ hb).mono ?_; rintro e w' ⟨rfl, rfl⟩
  go_wp2
  go_ret
  exact ⟨rfl, rfl⟩

theorem below_drawn (w : World) (n : Nat) : Below w.heap.size w (w.drewN n) := below_drewN (Below.refl _ _) n

end Go.Proofs.Ytedfbaeajofmnaa

end

section

namespace Go.Proofs.Ytedfbaeajofmnaa
open Go Ieee

theorem isN_false {k : FloatKind} {b : Nat} (h : isN k b = false) : rung k.format b ≤ k.format.infRung := by
  rcases Nat.lt_or_ge k.format.infRung (rung k.format b) with a | a
  · rw [(isN_iff k b).2 a] at h; cases h
  · exact a

theorem isN_of_le {k : FloatKind} {b : Nat} (h : rung k.format b ≤ k.format.infRung) : isN k b = false := by
  cases hb : isN k b
  · rfl
  · have := (isN_iff k b).1 hb; omega

theorem order_nan_left {k : FloatKind} {a b : Nat} (h : isN k a = true) : k.format.order a b = none := by
  rw [order_canon, canon_none.2 h]; rfl
theorem order_nan_right {k : FloatKind} {a b : Nat} (h : isN k b = true) : k.format.order a b = none := by
  rw [order_canon, canon_none.2 h]; cases canon k a <;> rfl

theorem cmp_lt (k : FloatKind) {a b : Nat} (ha : isN k a = false) (hb : isN k b = false) : (k.format.order a b == some .lt) = decide (key k.format a < key k.format b) := by
  rw [order_key k ha hb, Bool.eq_iff_iff]
  simp only [beq_iff_eq, Option.some.injEq, decide_eq_true_eq, Int.compare_eq_lt]
theorem cmp_gt (k : FloatKind) {a b : Nat} (ha : isN k a = false) (hb : isN k b = false) : (k.format.order a b == some .gt) = decide (key k.format b < key k.format a) := by
  rw [order_key k ha hb, Bool.eq_iff_iff]
  simp only [beq_iff_eq, Option.some.injEq, decide_eq_true_eq, Int.compare_eq_gt]
theorem cmp_eq (k : FloatKind) {a b : Nat} (ha : isN k a = false) (hb : isN k b = false) : (k.format.order a b == some .eq) = decide (key k.format a = key k.format b) := by
  rw [order_key k ha hb, Bool.eq_iff_iff]
  simp only [beq_iff_eq, Option.some.injEq, decide_eq_true_eq, Int.compare_eq_eq]
theorem cmp_ne (k : FloatKind) {a b : Nat} (ha : isN k a = false) (hb : isN k b = false) : (k.format.order a b != some .eq) = decide (key k.format a ≠ key k.format b) := by
  rw [order_key k ha hb, Bool.eq_iff_iff]
  simp only [bne_iff_ne, ne_eq, Option.some.injEq, decide_eq_true_eq, Int.compare_eq_eq]

/-- x - x is +0 where x is finite, and a NaN elsewhere. -/
theorem sub_self_canon (k : FloatKind) (b : Nat) : fop .sub k (canon k b) (canon k b) = if rung k.format b < k.format.infRung then some 0 else none := by
  rw [← floatBits_canon]
  have hw : ¬ k.format.infRung < k.format.binade := by cases k <;> decide
  unfold floatBits Format.sub
  simp only
  rcases read_cases k.format b with ⟨h, m, p, e, _⟩ | ⟨h, _, e⟩ | ⟨h, e⟩ | h
  · rw [e, if_pos h]
    simp only [Datum.opposite, Datum.sum, Option.map_some, Option.some.injEq]
    rw [show min (k.format.leastPlace + (p : Int)) (k.format.leastPlace + (p : Int)) = k.format.leastPlace + (p : Int) by omega]
    have z : signed (sgn k.format b) m (k.format.leastPlace + (p : Int) - (k.format.leastPlace + (p : Int))).toNat + signed (!sgn k.format b) m (k.format.leastPlace + (p : Int) - (k.format.leastPlace + (p : Int))).toNat = 0 := by
      unfold signed; cases sgn k.format b <;> simp <;> omega
    rw [z]
    simp only [if_true, Int.natAbs_zero]
    have : (sgn k.format b && !sgn k.format b) = false := by cases sgn k.format b <;> rfl
    rw [this]
    show k.format.nearest false 0 _ = 0
    unfold Format.nearest; rw [if_pos rfl]; rfl
  · rw [e, if_neg (by omega)]
    cases sgn k.format b <;> rfl
  · rw [e, if_neg (by omega)]; rfl
  · exact absurd h hw

theorem canon_zero (k : FloatKind) : canon k 0 = some 0 := by cases k <;> rfl

/-- what 'x - x == 0' answers -/
theorem finite_test (k : FloatKind) {b v : Nat} (h : canon k v = fop .sub k (canon k b) (canon k b)) : (k.format.order v 0 == some .eq) = decide (rung k.format b < k.format.infRung) := by
  rw [sub_self_canon] at h
  rw [order_canon, h, canon_zero]
  by_cases hf : rung k.format b < k.format.infRung
  · rw [if_pos hf, decide_eq_true hf]; cases k <;> rfl
  · rw [if_neg hf, decide_eq_false hf]; rfl

/-! ### A 32-bit number as a 64-bit one: its sign and its kind are kept -/

theorem widen_facts {b v : Nat} (h : canon .f64 v = fconv .f32 .f64 (canon .f32 b)) (hn : isN .f32 b = false) :
    isN .f64 v = false ∧ sgn Ieee.double v = sgn Ieee.single b ∧ (rung Ieee.double v < Ieee.double.infRung ↔ rung Ieee.single b < Ieee.single.infRung) ∧ (rung Ieee.double v = 0 ↔ rung Ieee.single b = 0) := by
  have hn' : (FloatKind.f32.decode b).isNaN = false := hn
  have hv := fits_widen b
  rw [canon_of_not hn'] at h
  have hs : (floatToFloatBits .f32 b .f64).isSome = true := by
    rcases hv with hv | hv | hv
    · cases hv
    · rw [hn'] at hv; cases hv
    · exact hv
  obtain ⟨r, hr⟩ := Option.isSome_iff_exists.1 hs
  have h' : canon .f64 v = some r := h.trans hr
  obtain ⟨rfl, hnv⟩ := canon_some h'
  refine ⟨hnv, ?_⟩
  unfold floatToFloatBits at hr
  rw [if_neg (by decide)] at hr
  have hd : FloatKind.f32.decode b = Ieee.single.read b := rfl
  rw [hd] at hr hn'
  rcases read_cases Ieee.single b with ⟨h1, m, p, e, v1⟩ | ⟨h1, _, e⟩ | ⟨h1, e⟩ | h1
  · rw [e] at hr
    simp only at hr
    split at hr
    · cases hr
    · cases hr
      have hb := read_bounds e
      by_cases h0 : m = 0
      · subst h0
        have z : FloatKind.f64.encode (.number (sgn Ieee.single b) 0 (Ieee.single.leastPlace + (p : Int))) = Ieee.double.word (sgn Ieee.single b) 0 := rfl
        have r0 : rung Ieee.single b = 0 := by
          rw [Nat.zero_mul] at v1
          rcases Nat.eq_zero_or_pos (rung Ieee.single b) with q | q
          · exact q
          · have := magOf_lt Ieee.single q; omega
        obtain ⟨g1, g2⟩ := word_split Ieee.double (sgn Ieee.single b) (r := 0) (by decide)
        rw [z]
        exact ⟨g2, ⟨fun _ => h1, fun _ => by rw [show rung Ieee.double (Ieee.double.word (sgn Ieee.single b) 0) = 0 from g1]; decide⟩, ⟨fun _ => r0, fun _ => g1⟩⟩
      · have hw := widen_read (sgn Ieee.single b) h0 (e := Ieee.single.leastPlace + (p : Int)) (by have : Ieee.single.binade = 2 ^ 23 := rfl; omega) (by have : Ieee.single.leastPlace = -149 := rfl; omega) (by have : Ieee.single.leastPlace = -149 := rfl; have : Ieee.single.infRung / Ieee.single.binade = 255 := rfl; omega)
        have z : FloatKind.f64.encode (.number (sgn Ieee.single b) m (Ieee.single.leastPlace + (p : Int))) = Ieee.double.nearest (sgn Ieee.single b) m (Ieee.single.leastPlace + (p : Int)) := rfl
        rw [z]
        generalize Ieee.double.nearest (sgn Ieee.single b) m (Ieee.single.leastPlace + (p : Int)) = r at *
        have r0 : rung Ieee.single b ≠ 0 := by
          intro q
          have : magOf Ieee.single 0 = 0 := rfl
          rw [q, this] at v1
          have := Nat.two_pow_pos p
          rcases Nat.mul_eq_zero.1 v1 with q' | q' <;> omega
        rcases read_cases Ieee.double r with ⟨g1, m', p', e', v'⟩ | ⟨g1, _, e'⟩ | ⟨g1, e'⟩ | g1
        · rw [e'] at hw
          injection hw with w1 w2 w3
          refine ⟨w1, ⟨fun _ => h1, fun _ => g1⟩, ⟨fun q => ?_, fun q => absurd q r0⟩⟩
          exfalso
          have : magOf Ieee.double 0 = 0 := rfl
          rw [q, this, w2] at v'
          have := Nat.two_pow_pos p'
          have := Nat.two_pow_pos (52 - m.log2)
          rcases Nat.mul_eq_zero.1 v' with q' | q'
          · rcases Nat.mul_eq_zero.1 q' with q'' | q'' <;> omega
          · omega
        · rw [e'] at hw; cases hw
        · rw [e'] at hw; cases hw
        · exact absurd g1 (by decide)
  · rw [e] at hr
    cases hr
    have z : FloatKind.f64.encode (.infinity (sgn Ieee.single b)) = Ieee.double.word (sgn Ieee.single b) Ieee.double.infRung := rfl
    obtain ⟨g1, g2⟩ := word_split Ieee.double (sgn Ieee.single b) Ieee.double.infRung_lt
    rw [z]
    have hi : (0 : Nat) < Ieee.double.infRung := by decide
    have hj : (0 : Nat) < Ieee.single.infRung := by decide
    have g1' : rung Ieee.double (Ieee.double.word (sgn Ieee.single b) Ieee.double.infRung) = Ieee.double.infRung := g1
    rw [g1']
    exact ⟨g2, ⟨fun q => by omega, fun q => by omega⟩, ⟨fun q => by omega, fun q => by omega⟩⟩
  · rw [e] at hn'; cases hn'
  · exact absurd h1 (by decide)

/-! ### Bits of a word -/

theorem i64_and_nat (a b : Nat) (ha : a < 9223372036854775808) : bits .and .i64 (a : Int) (b : Int) = ((a &&& b % 18446744073709551616 : Nat) : Int) := by
  have hx : a &&& b % 18446744073709551616 ≤ a := Nat.and_le_left
  show IntKind.i64.wrap ((BitVec.ofInt 64 (a : Int) &&& BitVec.ofInt 64 (b : Int)).toNat : Int) = _
  rw [BitVec.toNat_and, ofInt_u64 a (by omega)]
  have : (BitVec.ofInt 64 (b : Int)).toNat = b % 18446744073709551616 := by rw [BitVec.ofInt_natCast, BitVec.toNat_ofNat]
  rw [this, IntWalk.i64_in]
  omega

theorem and_exponent (b : Nat) : b &&& 2139095040 = b / 8388608 % 256 * 8388608 := by
  have e : (2139095040 : Nat) = 255 <<< 23 := by decide
  rw [e]
  have h : b &&& 255 <<< 23 = (b >>> 23 &&& 255) <<< 23 := by
    apply Nat.eq_of_testBit_eq
    intro i
    simp only [Nat.testBit_and, Nat.testBit_shiftLeft, Nat.testBit_shiftRight]
    by_cases hi : 23 ≤ i
    · simp [hi]
    · simp [hi]
  rw [h, nat_mask8, Nat.shiftRight_eq_div_pow, Nat.shiftLeft_eq]
end Go.Proofs.Ytedfbaeajofmnaa

end

section

namespace Go.Proofs.Ytedfbaeajofmnaa
open Go Ieee Go.RowKit

def finB (k : FloatKind) (b : Nat) : Bool := decide (rung k.format b < k.format.infRung)
def infB (k : FloatKind) (b : Nat) : Bool := decide (rung k.format b = k.format.infRung)

theorem andNot_sign (v : Nat) (hv : v < 2 ^ 64) : bits .andNot .u64 (v : Int) 9223372036854775808 = ((rung Ieee.double v : Nat) : Int) := by
  have := u64_andNot_nat v 9223372036854775808 hv (by omega)
  rw [show ((9223372036854775808 : Nat) : Int) = 9223372036854775808 from rfl] at this
  rw [this, show (18446744073709551615 - 9223372036854775808 : Nat) = 2 ^ 63 - 1 from rfl, Nat.and_two_pow_sub_one_eq_mod]; rfl

theorem rung_rung (f : Format) (v : Nat) : rung f (rung f v) = rung f v := Nat.mod_mod _ _
theorem sgn_rung (f : Format) (v : Nat) : sgn f (rung f v) = false := by
  unfold sgn rung; rw [Nat.div_eq_of_lt (Nat.mod_lt _ (signWeight_pos f))]; rfl
theorem key_rung (f : Format) (v : Nat) : key f (rung f v) = rung f v := by
  unfold key; rw [sgn_rung, rung_rung]; rfl

theorem inf_test (v : Nat) : (FloatKind.f64.format.order (rung Ieee.double v) 9218868437227405311 == some .gt) = infB .f64 v := by
  by_cases h : Ieee.double.infRung < rung Ieee.double v
  · have hn : isN .f64 (rung Ieee.double v) = true := (isN_iff .f64 _).2 (by show _ < rung Ieee.double (rung Ieee.double v); rw [rung_rung]; exact h)
    rw [order_nan_left hn]
    have : ¬ rung Ieee.double v = Ieee.double.infRung := by omega
    exact (decide_eq_false this).symm
  · have hn : isN .f64 (rung Ieee.double v) = false := isN_of_le (by show rung Ieee.double (rung Ieee.double v) ≤ _; rw [rung_rung]; exact Nat.le_of_not_lt h)
    have hm : isN .f64 9218868437227405311 = false := by decide
    have e : (FloatKind.f64.format.order (rung Ieee.double v) 9218868437227405311 == some .gt) = decide (key Ieee.double 9218868437227405311 < key Ieee.double (rung Ieee.double v)) := cmp_gt .f64 hn hm
    rw [e, key_rung]
    have k : key Ieee.double 9218868437227405311 = 9218868437227405311 := by decide
    have i : Ieee.double.infRung = 9218868437227405312 := by decide
    rw [k]
    show _ = decide (rung Ieee.double v = Ieee.double.infRung)
    rw [decide_eq_decide]
    omega

theorem finB_of (k : FloatKind) (v : Nat) : (!isN k v && !infB k v) = finB k v := by
  have := isN_iff k v
  unfold infB finB
  cases h : isN k v
  · have := isN_false h
    rw [Bool.eq_iff_iff]; simp; omega
  · have := (isN_iff k v).1 h
    rw [Bool.eq_iff_iff]; simp; omega

theorem finB_conv {b v : Nat} (h : canon .f64 v = fconv .f32 .f64 (canon .f32 b)) : finB .f64 v = finB .f32 b := by
  cases hn : isN .f32 b
  · obtain ⟨_, _, h3, _⟩ := widen_facts h hn
    unfold finB
    rw [decide_eq_decide]; exact h3
  · have hv : isN .f64 v = true := (isN_conv h (fits_widen _) (by decide)).trans hn
    have a1 := (isN_iff _ _).1 hn
    have a2 := (isN_iff _ _).1 hv
    unfold finB
    rw [decide_eq_false (by omega), decide_eq_false (by omega)]

end Go.Proofs.Ytedfbaeajofmnaa

end

section

namespace Go.Proofs.Ytedfbaeajofmnaa
open Go Go.RowKit

theorem l00In_any (a lo hi : Int) (w : World) : Calls Try.prog 66 #[.int .i64 a, .int .i64 lo, .int .i64 hi] w fun e w' => e = .returned (.bool (decide (lo ≤ a ∧ a ≤ hi))) ∧ w = w' := by
  by_cases h1 : lo ≤ a
  · by_cases h2 : a ≤ hi
    · have d1 : decide (lo ≤ a) = true := decide_eq_true h1
      have d2 : decide (a ≤ hi) = true := decide_eq_true h2
      go_enter Try.func66, Try.ntmps66
      go_wp2
      go_ret
      exact ⟨by rw [decide_eq_true (show lo ≤ a ∧ a ≤ hi from ⟨h1, h2⟩)]; rfl, rfl⟩
    · have d1 : decide (lo ≤ a) = true := decide_eq_true h1
      have d2 : decide (a ≤ hi) = false := decide_eq_false h2
      go_enter Try.func66, Try.ntmps66
      go_wp2
      go_ret
      exact ⟨rfl, rfl⟩
  · have d1 : decide (lo ≤ a) = false := decide_eq_false h1
    go_enter Try.func66, Try.ntmps66
    go_wp2
    go_ret
    exact ⟨rfl, rfl⟩

end Go.Proofs.Ytedfbaeajofmnaa

end

section

namespace Go.Proofs.Ytedfbaeajofmnaa
open Go Ieee

theorem magOf_pow (q : Nat) : magOf Ieee.double ((q + 1) * 2 ^ 52) = 2 ^ 52 * 2 ^ q := by
  have b : Ieee.double.binade = 2 ^ 52 := rfl
  have hp : 0 < 2 ^ 52 := Nat.two_pow_pos 52
  unfold magOf
  rw [b, if_neg (by omega), Nat.mul_mod_left, Nat.mul_div_cancel _ hp]
  rfl

theorem mag_bound (q : Nat) {r : Nat} (h : r < (q + 1) * 2 ^ 52) : magOf Ieee.double r < 2 ^ (52 + q) := by
  have := magOf_lt Ieee.double h
  rw [magOf_pow] at this
  rw [Nat.pow_add]; exact this

theorem log_bound {m p q : Nat} (h0 : m ≠ 0) (h : m * 2 ^ p < 2 ^ (52 + q)) : m.log2 + p < 52 + q := by
  have h2 : 2 ^ m.log2 ≤ m := Nat.log2_self_le h0
  have : 2 ^ (m.log2 + p) < 2 ^ (52 + q) := by
    rw [Nat.pow_add 2 m.log2]; exact Nat.lt_of_le_of_lt (Nat.mul_le_mul_right _ h2) h
  exact (Nat.pow_lt_pow_iff_right (by omega)).1 this

/-- A 64-bit number below 2 ^ 127 is not too great for 32 bits. -/
theorem fits_narrow {v : Nat} (h : rung Ieee.double v < 1150 * 2 ^ 52) : fits .f64 .f32 v := by
  have hi : (1150 * 2 ^ 52 : Nat) < Ieee.double.infRung := by decide
  refine .inr (.inr ?_)
  unfold floatToFloatBits
  rw [if_neg (by decide)]
  have : FloatKind.f64.decode v = Ieee.double.read v := rfl
  rw [this]
  rcases read_cases Ieee.double v with ⟨h1, m, p, e, v1⟩ | ⟨h1, _, e⟩ | ⟨h1, e⟩ | h1
  · rw [e]
    simp only
    by_cases h0 : m = 0
    · subst h0
      have z : FloatKind.f32.encode (.number (sgn Ieee.double v) 0 (Ieee.double.leastPlace + (p : Int))) = Ieee.single.word (sgn Ieee.double v) 0 := rfl
      rw [z]; cases sgn Ieee.double v <;> rfl
    · have hl := log_bound (q := 1149) h0 (by rw [v1]; exact mag_bound 1149 h)
      have lp : Ieee.double.leastPlace = -1074 := rfl
      have sp : Ieee.single.leastPlace = -149 := rfl
      have sf : (Ieee.single.fractionBits : Int) = 23 := rfl
      have hr := rungOf_le Ieee.single (m := m) (Ieee.double.leastPlace + (p : Int)) 127 (by omega) (by rw [sp, sf]; omega)
      have hlt : rungOf Ieee.single m (Ieee.double.leastPlace + (p : Int)) < Ieee.single.infRung := Nat.lt_of_le_of_lt hr (by decide)
      have z : FloatKind.f32.encode (.number (sgn Ieee.double v) m (Ieee.double.leastPlace + (p : Int))) = Ieee.single.word (sgn Ieee.double v) (rungOf Ieee.single m (Ieee.double.leastPlace + (p : Int))) := by
        show Ieee.single.nearest _ _ _ = _
        rw [nearest_rung _ _ h0, Nat.min_eq_left (Nat.le_of_lt hlt)]
      rw [z]
      have : (FloatKind.f32.decode (Ieee.single.word (sgn Ieee.double v) (rungOf Ieee.single m (Ieee.double.leastPlace + (p : Int))))).isInfinity = false := by
        show (Ieee.single.read _).isInfinity = false
        rw [read_word _ _ hlt]; split <;> rfl
      rw [this]; rfl
  · omega
  · omega
  · exact absurd h1 (by decide)

/-- what narrowing needs, whether the number is finite or not -/
def narrows (v : Nat) : Prop := rung Ieee.double v < 1150 * 2 ^ 52 ∨ Ieee.double.infRung ≤ rung Ieee.double v

theorem fits_narrows {v : Nat} (h : narrows v) : fits .f64 .f32 v := by
  rcases h with h | h
  · exact fits_narrow h
  · rcases Nat.eq_or_lt_of_le h with e | e
    · refine .inr (.inr ?_)
      unfold floatToFloatBits
      rw [if_neg (by decide)]
      have : FloatKind.f64.decode v = Ieee.double.read v := rfl
      rw [this]
      rcases read_cases Ieee.double v with ⟨h1, _⟩ | ⟨h1, _, e'⟩ | ⟨h1, _⟩ | h1
      · omega
      · rw [e']; rfl
      · omega
      · exact absurd h1 (by decide)
    · exact .inr (.inl ((isN_iff .f64 v).2 e))

theorem rootFrom_sq (n : Nat) : ∀ t r, r * r ≤ n → Datum.rootFrom n t r * Datum.rootFrom n t r ≤ n
  | 0, _, h => h
  | t + 1, r, h => by
    unfold Datum.rootFrom
    simp only
    split
    · rename_i g; exact rootFrom_sq n t _ g
    · exact rootFrom_sq n t _ h

def fsqrt : Option Nat → Option Nat
  | some b => FloatKind.f64.format.sqrt b
  | none => none

theorem sqrt_canon (b : Nat) : FloatKind.f64.format.sqrt b = fsqrt (canon .f64 b) := by
  by_cases h : (FloatKind.f64.decode b).isNaN = true
  · rw [canon_none.2 h]
    obtain ⟨s, t, e⟩ := isNaN_form _ h
    have e' : FloatKind.f64.format.read b = .nan s t := e
    simp [Format.sqrt, e', Datum.root, fsqrt]
  · rw [canon_of_not (by simpa using h)]; rfl

theorem sqrt_notNaN {b r : Nat} (h : FloatKind.f64.format.sqrt b = some r) : (FloatKind.f64.decode r).isNaN = false := by
  unfold Format.sqrt at h
  cases hd : (FloatKind.f64.format.read b).root (FloatKind.f64.format.fractionBits + 2) with
  | none => rw [hd] at h; cases h
  | some d => rw [hd] at h; cases h; exact write_notNaN .f64 (root_notNaN hd)

theorem rung_word (f : Format) (s : Bool) {r : Nat} (h : r < f.signWeight) : rung f (f.word s r) = r := (word_split f s h).1
theorem sgn_word (f : Format) (s : Bool) {r : Nat} (h : r < f.signWeight) : sgn f (f.word s r) = s := (word_split f s h).2

/-- The root of a number below 2 ^ 200 can be narrowed. -/
theorem sqrt_narrows {b r : Nat} (hb : rung Ieee.double b < 1223 * 2 ^ 52 ∨ Ieee.double.infRung ≤ rung Ieee.double b) (h : FloatKind.f64.format.sqrt b = some r) : narrows r := by
  have hi : (1223 * 2 ^ 52 : Nat) < Ieee.double.infRung := by decide
  have e0 : FloatKind.f64.format = Ieee.double := rfl
  unfold Format.sqrt at h
  rw [e0] at h
  rcases read_cases Ieee.double b with ⟨h1, m, p, e, v1⟩ | ⟨h1, _, e⟩ | ⟨h1, e⟩ | h1
  · rw [e] at h
    unfold Datum.root at h
    simp only at h
    by_cases h0 : m = 0
    · rw [if_pos h0] at h
      subst h0
      have h' : some (Ieee.double.word (sgn Ieee.double b) 0) = some r := h
      injection h' with h'
      rw [← h']
      refine .inl ?_
      rw [rung_word _ _ (by decide)]; decide
    · rw [if_neg h0] at h
      by_cases hs : sgn Ieee.double b = true
      · rw [hs] at h; cases h
      · have hs' : sgn Ieee.double b = false := by simpa using hs
        rw [hs'] at h
        simp only [Bool.false_eq_true, if_false] at h
        have hb' : rung Ieee.double b < 1223 * 2 ^ 52 := by omega
        have hl := log_bound (q := 1222) h0 (by rw [v1]; exact mag_bound 1222 hb')
        have lp : Ieee.double.leastPlace = -1074 := rfl
        have fb : (Ieee.double.fractionBits : Int) = 52 := rfl
        have fb' : Ieee.double.fractionBits = 52 := rfl
        generalize hmore : (2 * (Ieee.double.fractionBits + 2) - m.log2) + ((Ieee.double.leastPlace + (p : Int) - ((2 * (Ieee.double.fractionBits + 2) - m.log2 : Nat) : Int)) % 2).toNat = more at h
        generalize hn : m <<< more = n at h
        have hsq := rootFrom_sq n (n.log2 / 2 + 1) 0 (by omega)
        generalize Datum.rootFrom n (n.log2 / 2 + 1) 0 = whole at h hsq
        generalize hM : 2 * whole + (whole * whole != n).toNat = M at h
        have hML : M.log2 ≤ (m.log2 + more) / 2 + 1 := by
          by_cases hM0 : M = 0
          · subst hM0; simp
          · have hb1 : (whole * whole != n).toNat ≤ 1 := by cases (whole * whole != n) <;> simp
            have hn2 : n < 2 ^ (m.log2 + more + 1) := by
              rw [← hn, shl_eq, show m.log2 + more + 1 = (m.log2 + 1) + more by omega, Nat.pow_add]
              exact Nat.mul_lt_mul_of_pos_right Nat.lt_log2_self (Nat.two_pow_pos _)
            have hw : whole < 2 ^ ((m.log2 + more) / 2 + 1) := by
              rcases Nat.lt_or_ge whole (2 ^ ((m.log2 + more) / 2 + 1)) with q | q
              · exact q
              · exfalso
                have := Nat.mul_le_mul q q
                rw [← Nat.pow_add] at this
                have := Nat.pow_le_pow_right (n := 2) (by omega) (show m.log2 + more + 1 ≤ (m.log2 + more) / 2 + 1 + ((m.log2 + more) / 2 + 1) by omega)
                omega
            have : M < 2 ^ ((m.log2 + more) / 2 + 2) := by
              rw [show (m.log2 + more) / 2 + 2 = ((m.log2 + more) / 2 + 1) + 1 by omega, Nat.pow_succ]; omega
            have := (Nat.log2_lt hM0).2 this
            omega
        have hplace : (Ieee.double.leastPlace + (p : Int) - (more : Int)) / 2 - 1 + (M.log2 : Int) < 126 := by omega
        have h' : some (Ieee.double.nearest false M ((Ieee.double.leastPlace + (p : Int) - (more : Int)) / 2 - 1)) = some r := h
        injection h' with h'
        rw [← h']
        refine .inl ?_
        by_cases hM0 : M = 0
        · unfold Format.nearest; rw [if_pos hM0, rung_word _ _ (by decide)]; decide
        · have hr := rungOf_le Ieee.double (m := M) ((Ieee.double.leastPlace + (p : Int) - (more : Int)) / 2 - 1) 126 hplace (by rw [lp, fb]; omega)
          have hlt : rungOf Ieee.double M ((Ieee.double.leastPlace + (p : Int) - (more : Int)) / 2 - 1) < 1150 * 2 ^ 52 := Nat.lt_of_le_of_lt hr (by decide)
          rw [nearest_rung _ _ hM0, Nat.min_eq_left (by omega), rung_word _ _ (by have := Ieee.double.infRung_lt; omega)]
          exact hlt
  · rw [e] at h
    cases hs : sgn Ieee.double b
    · rw [hs] at h
      have h' : some (Ieee.double.word false Ieee.double.infRung) = some r := h
      injection h' with h'
      rw [← h']
      refine .inr ?_
      rw [rung_word _ _ Ieee.double.infRung_lt]; exact Nat.le_refl _
    · rw [hs] at h; cases h
  · rw [e] at h; cases h
  · exact absurd h1 (by decide)

theorem rung_of_mag (q : Nat) {r : Nat} (h : magOf Ieee.double r < 2 ^ (52 + q)) : r < (q + 1) * 2 ^ 52 := by
  rw [Nat.pow_add, ← magOf_pow] at h
  exact (magOf_lt_iff _).1 h

/-- a 32-bit number, as a 64-bit one, is below 2 ^ 200 -/
theorem widen_bound {b v : Nat} (h : canon .f64 v = fconv .f32 .f64 (canon .f32 b)) : rung Ieee.double v < 1223 * 2 ^ 52 ∨ Ieee.double.infRung ≤ rung Ieee.double v := by
  by_cases hn : (FloatKind.f32.decode b).isNaN = true
  · rw [canon_none.2 hn] at h
    have : isN .f64 v = true := canon_none.1 h
    exact .inr (Nat.le_of_lt ((isN_iff .f64 v).1 this))
  · have hn' : (FloatKind.f32.decode b).isNaN = false := by simpa using hn
    have hv := fits_widen b
    rw [canon_of_not hn'] at h
    have hs : (floatToFloatBits .f32 b .f64).isSome = true := by
      rcases hv with hv | hv | hv
      · cases hv
      · rw [hn'] at hv; cases hv
      · exact hv
    obtain ⟨r, hr⟩ := Option.isSome_iff_exists.1 hs
    have h' : canon .f64 v = some r := h.trans hr
    obtain ⟨rfl, hnv⟩ := canon_some h'
    unfold floatToFloatBits at hr
    rw [if_neg (by decide)] at hr
    have hd : FloatKind.f32.decode b = Ieee.single.read b := rfl
    rw [hd] at hr hn'
    rcases read_cases Ieee.single b with ⟨h1, m, p, e, v1⟩ | ⟨h1, _, e⟩ | ⟨h1, e⟩ | h1
    · rw [e] at hr
      simp only at hr
      split at hr
      · cases hr
      · cases hr
        refine .inl ?_
        have hb := read_bounds e
        have lp : Ieee.single.leastPlace = -149 := rfl
        have bn : Ieee.single.binade = 2 ^ 23 := rfl
        have ib : Ieee.single.infRung / Ieee.single.binade = 255 := rfl
        by_cases h0 : m = 0
        · subst h0
          have z : FloatKind.f64.encode (.number (sgn Ieee.single b) 0 (Ieee.single.leastPlace + (p : Int))) = Ieee.double.word (sgn Ieee.single b) 0 := rfl
          rw [z, rung_word _ _ (by decide)]; decide
        · have hw := widen_read (sgn Ieee.single b) h0 (e := Ieee.single.leastPlace + (p : Int)) (by omega) (by omega) (by omega)
          have hl : m.log2 < 24 := (Nat.log2_lt h0).2 (by omega)
          have z : FloatKind.f64.encode (.number (sgn Ieee.single b) m (Ieee.single.leastPlace + (p : Int))) = Ieee.double.nearest (sgn Ieee.single b) m (Ieee.single.leastPlace + (p : Int)) := rfl
          rw [z]
          generalize Ieee.double.nearest (sgn Ieee.single b) m (Ieee.single.leastPlace + (p : Int)) = r at *
          rcases read_cases Ieee.double r with ⟨g1, m', p', e', v'⟩ | ⟨g1, _, e'⟩ | ⟨g1, e'⟩ | g1
          · rw [e'] at hw
            injection hw with w1 w2 w3
            have dl : Ieee.double.leastPlace = -1074 := rfl
            have key : ∀ q, q = 1222 → rung Ieee.double r < (q + 1) * 2 ^ 52 := by
             intro q hq
             apply rung_of_mag q
             rw [← v', w2]
             have a1 : m * 2 ^ (52 - m.log2) < 2 ^ 53 := by
               have : m < 2 ^ (m.log2 + 1) := Nat.lt_log2_self
               calc m * 2 ^ (52 - m.log2) < 2 ^ (m.log2 + 1) * 2 ^ (52 - m.log2) := Nat.mul_lt_mul_of_pos_right this (Nat.two_pow_pos _)
                 _ = 2 ^ 53 := by rw [← Nat.pow_add]; congr 1; omega
             calc m * 2 ^ (52 - m.log2) * 2 ^ p' < 2 ^ 53 * 2 ^ p' := Nat.mul_lt_mul_of_pos_right a1 (Nat.two_pow_pos _)
               _ ≤ 2 ^ (52 + q) := by rw [← Nat.pow_add]; exact Nat.pow_le_pow_right (by omega) (by omega)
            exact key 1222 rfl
          · rw [e'] at hw; cases hw
          · rw [e'] at hw; cases hw
          · exact absurd g1 (by decide)
    · rw [e] at hr
      cases hr
      have z : FloatKind.f64.encode (.infinity (sgn Ieee.single b)) = Ieee.double.word (sgn Ieee.single b) Ieee.double.infRung := rfl
      rw [z, rung_word _ _ Ieee.double.infRung_lt]
      exact .inr (Nat.le_refl _)
    · rw [e] at hn'; cases hn'
    · exact absurd h1 (by decide)

theorem root_fits {b v r : Nat} (h : canon .f64 v = fconv .f32 .f64 (canon .f32 b)) (hr : canon .f64 r = fsqrt (canon .f64 v)) : fits .f64 .f32 r := by
  rw [← sqrt_canon] at hr
  cases hs : FloatKind.f64.format.sqrt v with
  | none =>
    rw [hs] at hr
    exact .inr (.inl (canon_none.1 hr))
  | some q =>
    rw [hs] at hr
    obtain ⟨rfl, _⟩ := canon_some hr
    exact fits_narrows (sqrt_narrows (widen_bound h) hs)

theorem conv_same {x y a b : Nat} {X : Option Nat} (h1 : RowKit.Hid (canon .f64 a = fconv .f32 .f64 (canon .f32 x))) (h2 : RowKit.Hid (canon .f64 b = fconv .f32 .f64 (canon .f32 y))) (h3 : RowKit.Hid (canon .f32 x = X)) (h4 : RowKit.Hid (canon .f32 y = X)) : canon .f64 a = canon .f64 b := by
  rw [h1.out, h2.out, h3.out, h4.out]

end Go.Proofs.Ytedfbaeajofmnaa

end

section

namespace Go.Proofs.Ytedfbaeajofmnaa
open Go Ieee Go.RowKit

/-! ### Two numbers that are one, or both NaNs -/

theorem sameFloat_any (a b : Nat) (w : World) (h : canon .f64 a = canon .f64 b) : Calls Try.prog 103 #[.float .f64 a, .float .f64 b] w fun e w' => e = .returned (.bool true) ∧ ∃ n, w' = w.drewN n := by
  have ha := neq_self .f64 a
  have hb := neq_self .f64 b
  by_cases hn : isN .f64 a = true
  · have hn2 : isN .f64 b = true := canon_none.1 (h ▸ canon_none.2 hn)
    have HH := Lib.hid h; clear h
    rw [hn] at ha
    rw [hn2] at hb
    go_enter Try.func103, Try.ntmps103
    go_wp2
    go_ret
    exact ⟨rfl, 0, rfl⟩
  · have hn1 : isN .f64 a = false := by simpa using hn
    have hab : a = b := by
      have h1 : canon .f64 a = some a := canon_of_not hn1
      rw [h1] at h
      exact (canon_some h.symm).1
    subst hab
    clear hb h
    rw [hn1] at ha
    have hs : (FloatKind.f64.format.order a a == some .eq) = true := by rw [cmp_eq .f64 hn1 hn1]; simp
    by_cases hz : (FloatKind.f64.format.order a 0 == some .eq) = true
    · go_enter Try.func103, Try.ntmps103
      go_wp2_with (refine wpList_arith rfl _ _ _ _ _ rfl rfl .f64 _ _ rfl rfl ?_; intro v n hc hv; have HC := Lib.hid hc; clear hc)
      rename_i v1 n1 hv1 HC1
      go_ret
      refine ⟨?_, _, rfl⟩
      have e : FloatKind.f64.format.order v 0 = FloatKind.f64.format.order v1 0 := by rw [order_canon, HC.out, order_canon .f64 v1, HC1.out]
      show Ending.returned (.bool ((FloatKind.f64.format.order v1 0 == some .gt) == (FloatKind.f64.format.order v 0 == some .gt))) = _
      rw [e]; simp
    · have hz' : (FloatKind.f64.format.order a 0 == some .eq) = false := by simpa using hz
      go_enter Try.func103, Try.ntmps103
      go_wp2
      go_ret
      exact ⟨rfl, 0, rfl⟩

theorem hid2 {k : FloatKind} {a b : Nat} {x : Option Nat} (h1 : Hid (canon k a = x)) (h2 : Hid (canon k b = x)) : canon k a = canon k b := h1.out.trans h2.out.symm

/-! ### Bits that are read back -/

def fromV (n : Int) : Value := if 0 ≤ n ∧ n ≤ 4294967295 then .tuple #[.float .f32 n.toNat, .bool true] else .tuple #[.float .f32 0, .bool false]

end Go.Proofs.Ytedfbaeajofmnaa

end

section

namespace Go.Proofs.Ytedfbaeajofmnaa
open Go Go.RowKit

@[go_sem] theorem run_store_float {P : Program} {w : World} {a : Addr} {m : Mode} (k : FloatKind) (b : Nat) : (store a (.float k b) m).run P w = stored P w a (.float k b) m := run_store P w a _ m rfl

@[go_sem] theorem run_store_complex {P : Program} {w : World} {a : Addr} {m : Mode} (k : FloatKind) (b c : Nat) : (store a (.complex k b c) m).run P w = stored P w a (.complex k b c) m := run_store P w a _ m rfl

/-- the cells from an address on are these values -/
def RowV (w : World) (a : Option Addr) (vs : List Value) : Prop :=
  ∀ i u, vs[i]? = some u → ∃ b off, a = some ⟨b, off, none⟩ ∧ w.cell? ⟨b, off + i, none⟩ = some u

theorem lt_of_cell {w : World} {p : Addr} {u : Value} (h : w.cell? p = some u) : p.block < w.heap.size := by
  unfold World.cell? at h
  rcases Nat.lt_or_ge p.block w.heap.size with a | a
  · exact a
  · rw [Array.getElem?_eq_none a] at h; cases h

theorem RowV.below {w w' : World} {a : Option Addr} {vs : List Value} (h : RowV w a vs) {B : Nat} (hb : Below B w w') (ha : ∀ x, a = some x → vs ≠ [] → x.block < B) : RowV w' a vs := by
  intro i u hu
  obtain ⟨b, off, rfl, hc⟩ := h i u hu
  have hne : vs ≠ [] := by intro e; rw [e] at hu; cases hu
  exact ⟨b, off, rfl, by rw [Below.cell hb (p := ⟨b, off + i, none⟩) (ha ⟨b, off, none⟩ rfl hne)]; exact hc⟩

/-- what could be read stays so where all that was there stays -/
theorem RowV.later {w w' : World} {a : Option Addr} {vs : List Value} (h : RowV w a vs) (hb : Below w.heap.size w w') : RowV w' a vs := by
  intro i u hu
  obtain ⟨b, off, rfl, hc⟩ := h i u hu
  exact ⟨b, off, rfl, by rw [Below.cell hb (p := ⟨b, off + i, none⟩) (lt_of_cell hc)]; exact hc⟩

theorem RowV.block_lt {w : World} {a : Option Addr} {vs : List Value} (h : RowV w a vs) : ∀ x, a = some x → vs ≠ [] → x.block < w.heap.size := by
  intro x hx hne
  cases vs with
  | nil => exact absurd rfl hne
  | cons u l =>
    obtain ⟨b, off, rfl, hc⟩ := h 0 u rfl
    cases hx
    exact lt_of_cell hc

theorem RowV.of_owned {w : World} {base : Nat} {e : TypeId} {g n cap : Nat} {vs : List Value} (h : w.ownsRow base e 1 (.slice (some ⟨g, 0, none⟩) n cap) n vs) : RowV w (some ⟨g, 0, none⟩) vs := by
  intro i u hu
  refine ⟨g, 0, rfl, ?_⟩
  have hi : i < n * 1 := by
    have := (List.getElem?_eq_some_iff.1 hu).1
    rw [h.1] at this; exact this
  have := World.ownsRow.cellAt h i hi
  rw [Nat.zero_add, this, hu]

def fvals (xs : List Nat) : List Value := xs.map (Value.float .f32)
def ivals (xs : List Int) : List Value := xs.map (Value.int .i64)

theorem fvals_length (xs : List Nat) : (fvals xs).length = xs.length := List.length_map ..
theorem ivals_length (xs : List Int) : (ivals xs).length = xs.length := List.length_map ..
theorem fvals_get {xs : List Nat} {i : Nat} (h : i < xs.length) : (fvals xs)[i]? = some (.float .f32 xs[i]) := by
  unfold fvals; rw [List.getElem?_map, List.getElem?_eq_getElem h]; rfl
theorem ivals_get {xs : List Int} {i : Nat} (h : i < xs.length) : (ivals xs)[i]? = some (.int .i64 xs[i]) := by
  unfold ivals; rw [List.getElem?_map, List.getElem?_eq_getElem h]; rfl

/-- the copy behind i rounds: what was copied, and zeros -/
def part (vs : List Value) (z : Value) (i : Nat) : List Value := vs.take i ++ List.replicate (vs.length - i) z

theorem part_zero (vs : List Value) (z : Value) : part vs z 0 = List.replicate vs.length z := by simp [part]
theorem part_all (vs : List Value) (z : Value) : part vs z vs.length = vs := by simp [part]
theorem part_set (vs : List Value) (z : Value) (i : Nat) (h : i < vs.length) (u : Value) (hu : vs[i]? = some u) : (part vs z i).set i u = part vs z (i + 1) := by
  unfold part
  apply List.ext_getElem?
  intro j
  rw [List.getElem?_set]
  have hl : (vs.take i ++ List.replicate (vs.length - i) z).length = vs.length := by simp; omega
  by_cases hj : i = j
  · subst hj
    rw [if_pos rfl, hl, if_pos h, List.getElem?_append_left (by simp; omega), List.getElem?_take, if_pos (by omega), hu]
  · rw [if_neg hj]
    by_cases h2 : j < i
    · rw [List.getElem?_append_left (by simp; omega), List.getElem?_append_left (by simp; omega), List.getElem?_take, List.getElem?_take, if_pos h2, if_pos (by omega)]
    · rw [List.getElem?_append_right (by simp; omega), List.getElem?_append_right (by simp; omega), List.getElem?_replicate, List.getElem?_replicate]
      simp only [List.length_take]
      have e1 : min i vs.length = i := by omega
      have e2 : min (i + 1) vs.length = i + 1 := by omega
      rw [e1, e2]
      by_cases h3 : j < vs.length
      · rw [if_pos (by omega), if_pos (by omega)]
      · rw [if_neg (by omega), if_neg (by omega)]

theorem Try.infoF32 : (Try.prog.info? 102).map (fun i => (i.zero, i.size, i.bytes)) = some (some (.float .f32 0), 1, 4) := by kernel_rfl

theorem Try.infoI64 : (Try.prog.info? 2).map (fun i => (i.zero, i.size, i.bytes)) = some (some (.int .i64 0), 1, 8) := by kernel_rfl

set_option maxHeartbeats 1000000 in
theorem toF32s (a : Option Addr) (cap : Nat) (xs : List Nat) (w : World) (hr : RowV w a (fvals xs)) (hn : xs.length ≤ 1048576) :
    Calls Try.prog 55 #[.slice a xs.length cap] w fun e w' => e = .returned (.slice (some ⟨w.heap.size, 0, none⟩) xs.length xs.length) ∧
      w'.ownsRow w.heap.size 102 1 (.slice (some ⟨w.heap.size, 0, none⟩) xs.length xs.length) xs.length (fvals xs) ∧ Below w.heap.size w w' := by
  obtain ⟨i0, hi, hz0, hz1, hz2⟩ := info_parts Try.infoF32
  generalize hlen : xs.length = n at *
  have HL := Lib.hid hlen
  clear hlen
  have hn1 : (n : Int) ≤ 1048576 := by omega
  have hbytes : i0.bytes * n ≤ 281474976710656 := by rw [hz2]; omega
  have HI := Lib.hid hi
  have HZ0 := Lib.hid hz0
  have HZ1 := Lib.hid hz1
  clear hi hz0 hz1 hz2
  go_enter Try.func55, Try.ntmps55
  go_wp2_with (at_make; refine wpList_make_full _ rfl _ _ 22 rfl w.heap.size 102 i0 (.float .f32 0) 1 Try.underlying22 HI.out HZ0.out HZ1.out .i64 .i64 _ _ n rfl rfl rfl rfl hbytes (by unfold maxLen; omega) (Nat.le_refl _) ?_; intro w1 hown hgrow)
  have hown' : w1.ownsRow w.heap.size 102 1 (.slice (some ⟨w.heap.size, 0, none⟩) n n) n (part (fvals xs) (.float .f32 0) 0) := by
    rw [part_zero, fvals_length, HL.out]
    have := hown
    rw [show (Value.float FloatKind.f32 0).cells = #[.float .f32 0] from rfl, Nat.mul_one, toList_madeCells_one] at this
    exact this
  have hbel : Below w.heap.size w w1 := (Below.refl w.heap.size w).grown hgrow (Nat.le_refl _) (fun k hk => by cases hk)
  clear hown hgrow
  go_wp2
  go_loopw [4] (fun i wr => ∃ k : Nat, k ≤ n ∧ i = .int .i64 k ∧ wr.ownsRow w.heap.size 102 1 (.slice (some ⟨w.heap.size, 0, none⟩) n n) n (part (fvals xs) (.float .f32 0) k) ∧ Below w.heap.size w wr) (fun i _ => n - (intOf i).toNat)
  case atStart => exact ⟨0, Nat.zero_le _, rfl, hown', hbel⟩
  case round =>
    obtain ⟨k, hk, rfl, hown, hb⟩ := hrel
    have HO := Lib.hid hown
    have HW := Lib.hid hb
    clear hown hb hown' hbel
    by_cases hlt : k < n
    · have hx : (fvals xs)[k]? = some (.float .f32 (xs[k]'(by rw [HL.out]; exact hlt))) := fvals_get (by rw [HL.out]; exact hlt)
      obtain ⟨b, off, rfl, hc⟩ := hr k _ hx
      have hc2 : wr.cell? ⟨b, off + k, none⟩ = some (.float .f32 (xs[k]'(by rw [HL.out]; exact hlt))) := by
        rw [Below.cell HW.out (p := ⟨b, off + k, none⟩) (lt_of_cell hc)]; exact hc
      have hold := World.ownsRow.cellAt HO.out k (by omega)
      have hfr := World.ownsRow.frozenAt HO.out k
      have hst := World.ownsRow.stored HO.out k (.float .f32 (xs[k]'(by rw [HL.out]; exact hlt)))
      rw [part_set _ _ k (by rw [fvals_length, HL.out]; exact hlt) _ hx] at hst
      obtain ⟨v0, hv0⟩ : ∃ v, (part (fvals xs) (.float .f32 0) k)[k]? = some v := by
        have : k < (part (fvals xs) (.float .f32 0) k).length := by unfold part; simp [fvals_length, HL.out]; omega
        exact ⟨_, List.getElem?_eq_getElem this⟩
      rw [hv0] at hold
      have HS := Lib.hid hst
      have HX := Lib.hid hx
      clear hst hx hv0 hc
      generalize (xs[k]'(by rw [HL.out]; exact hlt)) = xk at *
      go_wp2
      go_roundw
      case rel => exact ⟨k + 1, by omega, by go_num, HS.out.1, HW.out.grown HS.out.2 HW.out.size (fun j hj => by cases hj; exact Nat.le_refl _)⟩
      case measure => simp [intOf]; omega
    · obtain rfl : k = n := by omega
      go_wp2
      go_ret
      have hp := part_all (fvals xs) (.float .f32 0)
      rw [fvals_length, HL.out] at hp
      have := HO.out
      rw [hp] at this
      exact ⟨rfl, this, HW.out⟩
end Go.Proofs.Ytedfbaeajofmnaa

end

section

namespace Go.Proofs.Ytedfbaeajofmnaa
open Go

section
variable {P : Program} {ops : Array Oper} {md : Region.Mode} {C : World → Prop} {Sp : FuncId → Array Value → Value → Prop}

/-- a value that the operation may leave, from some world of the class; of a call: one that the calls' specification lets -/
def leaves (P : Program) (C : World → Prop) (Sp : FuncId → Array Value → Value → Prop) (x : Sem Next) (v : Value) : Prop :=
  ∃ w, C w ∧ match x.run P w with
    | .ok (.value u) _ => u = v
    | .ok .skip _ => undef = v
    | .ok (.enter f args) _ => Sp f args v
    | _ => False

/-- from every world of the class the operation leaves a value and a world of the class -/
def sureUpon (P : Program) (C : World → Prop) (Sp : FuncId → Array Value → Value → Prop) : Result Next → Prop
  | .ok (.value _) w' => C w'
  | .ok .skip w' => C w'
  | .ok (.enter f args) w' => Calls P f args w' fun e w'' => ∃ v, e = .returned v ∧ Sp f args v ∧ C w''
  | _ => False

def sure (P : Program) (C : World → Prop) (Sp : FuncId → Array Value → Value → Prop) (x : Sem Next) : Prop :=
  ∀ w, C w → sureUpon P C Sp (x.run P w)

theorem leaves_some {x : Sem Next} (h : sure P C Sp x) {w : World} (hw : C w) : ∃ v, leaves P C Sp x v := by
  have := h w hw
  cases hr : x.run P w with
  | halt x w' => rw [hr] at this; exact this.elim
  | ok n w' =>
    rw [hr] at this
    cases n with
    | value u => exact ⟨u, w, hw, by rw [hr]⟩
    | skip => exact ⟨undef, w, hw, by rw [hr]⟩
    | enter f args =>
      obtain ⟨e, w'', _, ⟨v, _, hv, _⟩, _⟩ := this []
      exact ⟨v, w, hw, by rw [hr]; exact hv⟩
    | _ => exact this.elim

/-- one operation -/
def relOp (P : Program) (C : World → Prop) (Sp : FuncId → Array Value → Value → Prop) (o : Oper) (a : Act) (K : Act → Prop) : Prop :=
  sure P C Sp (execOp a.eval o) ∧ ∀ v, leaves P C Sp (execOp a.eval o) v → K (a.put o.dst v)

/-- the walk in the order of the text -/
def wpRel (P : Program) (ops : Array Oper) (C : World → Prop) (Sp : FuncId → Array Value → Value → Prop) (Q : Act → Prop) : List Oper → Act → Prop
  | [], a => Q a
  | o :: rest, a => if Region.wanted o (yielded ops a.tmps) then relOp P C Sp o a (wpRel P ops C Sp Q rest) else wpRel P ops C Sp Q rest (a.put o.dst undef)

def nthRel (P : Program) (ops : Array Oper) (C : World → Prop) (Sp : FuncId → Array Value → Value → Prop) (i : Nat) (K : Act → Prop) (a : Act) : Prop :=
  match ops[i]? with
  | none => K a
  | some o => if Region.wanted o (yielded ops a.tmps) then relOp P C Sp o a K else K (a.put o.dst undef)

/-- whatever order is picked -/
def anyRel (P : Program) (md : Region.Mode) (ops : Array Oper) (C : World → Prop) (Sp : FuncId → Array Value → Value → Prop) (Q : Act → Prop) : Nat → Array Bool → Act → Prop
  | 0, listed, a => Region.ready md ops listed = [] ∧ Q a
  | fuel + 1, listed, a =>
    (Region.ready md ops listed = [] → Q a) ∧
    ∀ i ∈ Region.ready md ops listed, nthRel P ops C Sp i (anyRel P md ops C Sp Q fuel (listed.setIfInBounds i true)) a

theorem wp_of_relOp {o : Oper} {a : Act} {K : Act → Prop} {K' : Act → World → Prop} {Q' : Exit → Act → World → Prop} {w : World} (hw : C w) (h : ∀ a w', C w' → K a → K' a w') (hh : relOp P C Sp o a K) : o.wp P a w K' Q' := by
  obtain ⟨h1, h2⟩ := hh
  have h3 := h1 w hw
  have h4 := fun v => h2 v
  unfold Oper.wp
  cases hr : (execOp a.eval o).run P w with
  | halt x w' => rw [hr] at h3; exact h3.elim
  | ok n w' =>
    rw [hr] at h3
    cases n with
    | value u => exact h _ _ h3 (h4 u ⟨w, hw, by rw [hr]⟩)
    | skip => exact h _ _ h3 (h4 undef ⟨w, hw, by rw [hr]⟩)
    | enter f args =>
      refine Calls.mono h3 fun e w'' ⟨v, he, hv, hc⟩ => ?_
      subst he
      exact h _ _ hc (h4 v ⟨w, hw, by rw [hr]; exact hv⟩)
    | _ => exact h3.elim

theorem wpAny_of_anyRel {Q : Act → Prop} {Q' : Exit → Act → World → Prop} (hQ : ∀ a w, C w → Q a → Q' .normal a w) : ∀ (fuel : Nat) (listed : Array Bool) (a : Act) (w : World), C w →
    anyRel P md ops C Sp Q fuel listed a → wpAny P md ops Q' fuel listed a w
  | 0, _, _, _, hw, h => ⟨h.1, hQ _ _ hw h.2⟩
  | fuel + 1, listed, a, w, hw, h => ⟨fun h0 => hQ _ _ hw (h.1 h0), fun i hi => by
      have hh := h.2 i hi
      unfold nthRel at hh
      unfold wpOp
      cases ho : ops[i]? with
      | none =>
        simp only [ho] at hh
        exact wpAny_of_anyRel hQ fuel _ _ _ hw hh
      | some o =>
        simp only [ho] at hh
        dsimp only
        split
        · rename_i hwn
          simp only [hwn, if_true] at hh
          exact .inl (wp_of_relOp hw (fun a' w' hw' => wpAny_of_anyRel hQ fuel _ a' w' hw') hh)
        · rename_i hwn
          simp only [hwn, Bool.false_eq_true, if_false] at hh
          exact wpAny_of_anyRel hQ fuel _ _ _ hw hh⟩

/-- what an operation may leave in this frame, wanted or not -/
def mayLeave (P : Program) (ops : Array Oper) (C : World → Prop) (Sp : FuncId → Array Value → Value → Prop) (o : Oper) (a : Act) (V : Value → Prop) : Prop :=
  (Region.wanted o (yielded ops a.tmps) = true ∧ sure P C Sp (execOp a.eval o) ∧ V = leaves P C Sp (execOp a.eval o)) ∨ (Region.wanted o (yielded ops a.tmps) = false ∧ V = fun v => v = undef)

theorem mayLeave.nth {i : Nat} {o : Oper} {a : Act} {V : Value → Prop} (hi : ops[i]? = some o) (hy : mayLeave P ops C Sp o a V) {K : Act → Prop} (h : ∀ v, V v → K (a.put o.dst v)) : nthRel P ops C Sp i K a := by
  unfold nthRel
  simp only [hi]
  rcases hy with ⟨hw, hs, rfl⟩ | ⟨hw, rfl⟩
  · simp only [hw, if_true]; exact ⟨hs, h⟩
  · simp only [hw, Bool.false_eq_true, if_false]; exact h undef rfl

theorem mayLeave.some {o : Oper} {a : Act} {V : Value → Prop} (hy : mayLeave P ops C Sp o a V) {w : World} (hw : C w) : ∃ v, V v := by
  rcases hy with ⟨_, hs, rfl⟩ | ⟨_, rfl⟩
  · exact leaves_some hs hw
  · exact ⟨undef, rfl⟩

theorem mayLeave.put {o : Oper} {a : Act} {V : Value → Prop} {d : Option Tmp} {u : Value} (hs : ∀ cs b, o.op ≠ .select cs b) (h : ∀ t, d = Option.some t → t ∉ o.looksAt ops) (hy : mayLeave P ops C Sp o a V) : mayLeave P ops C Sp o (a.put d u) V := by
  unfold mayLeave at *
  rw [wanted_put o a d u h, execOp_put o hs a d u h]
  exact hy

/-- an operation that may come up now may be taken first -/
theorem anyRel_first {Q : Act → Prop} {i : Nat} {oi : Oper} {V : Value → Prop} (hi : ops[i]? = some oi) (hsel : ∀ (j : Nat) (o : Oper) cs b, ops[j]? = some o → o.op ≠ .select cs b) {w0 : World} (hw0 : C w0) :
    ∀ (fuel : Nat) (listed : Array Bool) (a : Act),
      (∀ j oj, ops[j]? = some oj → j ≠ i → listed.getD j true = false → (∀ e ∈ oj.after, Region.binds md e = true → e.on ≠ i) → oi.apart ops oj = true) →
      i ∈ Region.ready md ops listed → mayLeave P ops C Sp oi a V →
      (∀ v, V v → anyRel P md ops C Sp Q fuel (listed.setIfInBounds i true) (a.put oi.dst v)) → anyRel P md ops C Sp Q (fuel + 1) listed a
  | 0, listed, a, _, hr, hy, H => by
    refine ⟨fun h => (by rw [h] at hr; cases hr), fun j hj => ?_⟩
    by_cases hji : j = i
    · subst hji; exact hy.nth hi H
    · obtain ⟨v, hv⟩ := hy.some hw0
      have := ready_mono hj hji
      rw [(H v hv).1] at this
      cases this
  | fuel + 1, listed, a, hfree, hr, hy, H => by
    refine ⟨fun h => (by rw [h] at hr; cases hr), fun j hj => ?_⟩
    by_cases hji : j = i
    · subst hji; exact hy.nth hi H
    · obtain ⟨hjun, oj, hoj, hall⟩ := mem_ready.1 hj
      have hnot : ∀ e ∈ oj.after, Region.binds md e = true → e.on ≠ i := fun e he hb heq => by
        have h1 := hall e he hb
        have h0 := (mem_ready.1 hr).1
        rw [heq] at h1
        rcases Nat.lt_or_ge i listed.size with h' | h'
        · simp [h'] at h0 h1; rw [h0] at h1; cases h1
        · simp [Array.getElem?_eq_none h'] at h1
      obtain ⟨ap1, ap2, ap3⟩ := Oper.apart_spec (hfree j oj hoj hji hjun hnot)
      have hfree' : ∀ k ok, ops[k]? = some ok → k ≠ i → (listed.setIfInBounds j true).getD k true = false →
          (∀ e ∈ ok.after, Region.binds md e = true → e.on ≠ i) → oi.apart ops ok = true := fun k ok hk hki hun hno => by
        refine hfree k ok hk hki ?_ hno
        by_cases hjk : j = k
        · subst hjk; exact hjun
        · rw [getD_set_ne true hjk] at hun; exact hun
      have step : ∀ v, V v → nthRel P ops C Sp j (anyRel P md ops C Sp Q fuel ((listed.setIfInBounds i true).setIfInBounds j true)) (a.put oi.dst v) := fun v hv => (H v hv).2 j (ready_mono hj hji)
      have rest : ∀ u, (∀ v, V v → anyRel P md ops C Sp Q fuel ((listed.setIfInBounds i true).setIfInBounds j true) ((a.put oi.dst v).put oj.dst u)) → anyRel P md ops C Sp Q (fuel + 1) (listed.setIfInBounds j true) (a.put oj.dst u) := fun u hu => by
        refine anyRel_first hi hsel hw0 fuel (listed.setIfInBounds j true) (a.put oj.dst u) hfree' (ready_mono hr (Ne.symm hji)) (hy.put (fun cs b => hsel i oi cs b hi) ap3) fun v hv => ?_
        have := hu v hv
        rw [Array.setIfInBounds_comm _ _ hji, ← Act.put_comm a v u ap2]
        exact this
      unfold nthRel at step ⊢
      simp only [hoj] at step ⊢
      obtain ⟨v0, hv0⟩ := hy.some hw0
      have hwd : ∀ v, Region.wanted oj (yielded ops (a.put oi.dst v).tmps) = Region.wanted oj (yielded ops a.tmps) := fun v => wanted_put oj a oi.dst v ap1
      have hex : ∀ v, execOp (a.put oi.dst v).eval oj = execOp a.eval oj := fun v => execOp_put oj (fun cs b => hsel j oj cs b hoj) a oi.dst v ap1
      by_cases hw : Region.wanted oj (yielded ops a.tmps) = true
      · rw [if_pos hw]
        have st : ∀ v, V v → relOp P C Sp oj (a.put oi.dst v) (anyRel P md ops C Sp Q fuel ((listed.setIfInBounds i true).setIfInBounds j true)) := fun v hv => by
          have := step v hv
          rw [if_pos ((hwd v).trans hw)] at this
          exact this
        refine ⟨?_, fun u hu => rest u fun v hv => ?_⟩
        · have := (st v0 hv0).1
          rw [hex v0] at this
          exact this
        · refine (st v hv).2 u ?_
          rw [hex v]; exact hu
      · rw [if_neg hw]
        refine rest undef fun v hv => ?_
        have := step v hv
        rw [if_neg (by rw [hwd v]; exact hw)] at this
        exact this

theorem anyRel_lex {Q : Act → Prop} (hs : Region.noSelect ops = true) {w0 : World} (hw0 : C w0) : ∀ (l : List Oper) (k : Nat) (listed : Array Bool) (a : Act), (∀ j, l[j]? = ops[k + j]?) →
    Region.lexFrom md ops l.length k listed = true → wpRel P ops C Sp Q l a → anyRel P md ops C Sp Q l.length listed a
  | [], _, _, _, _, hB, h => ⟨by simpa [Region.lexFrom] using hB, h⟩
  | o :: l, k, listed, a, hl, hB, h => by
    have h0 : ops[k]? = some o := by simpa using (hl 0).symm
    simp only [List.length_cons, Region.lexFrom, Bool.and_eq_true] at hB
    obtain ⟨⟨hr, hf⟩, hB'⟩ := hB
    have hl' : ∀ j, l[j]? = ops[k + 1 + j]? := fun j => by have := hl (j + 1); simpa [Nat.add_assoc, Nat.add_comm 1 j] using this
    unfold wpRel at h
    by_cases hw : Region.wanted o (yielded ops a.tmps) = true
    · rw [if_pos hw] at h
      exact anyRel_first h0 (Region.noSelect_spec hs) hw0 l.length listed a (Region.free_spec h0 hf) (by simpa using hr) (.inl ⟨hw, h.1, rfl⟩)
        fun v hv => anyRel_lex hs hw0 l (k + 1) _ _ hl' hB' (h.2 v hv)
    · rw [if_neg hw] at h
      refine anyRel_first h0 (Region.noSelect_spec hs) hw0 l.length listed a (Region.free_spec h0 hf) (by simpa using hr) (.inr ⟨by simpa using hw, rfl⟩) fun v hv => ?_
      rw [hv]
      exact anyRel_lex hs hw0 l (k + 1) _ _ hl' hB' h

/-- ONE WALK FOR EVERY ORDER, in the worlds that are w but for draws. -/
theorem wp_region_rel {id : Nat} {Q : Exit → Act → World → Prop} {a : Act} {w : World} {l : List Oper} (hm : P.follows .mixedOrders = true) (hB : Region.lexB .any l.toArray = true)
    (h : wpRel P l.toArray (fun w' => ∃ n, w' = w.drewN n) Sp (fun a' => ∀ w', (∃ n, w' = w.drewN n) → Q .normal a' w') l a) : (Code.region id l.toArray true).wp P Q a w := by
  simp only [Region.lexB, Bool.and_eq_true] at hB
  refine wp_region_any hm (wpAny_of_anyRel (C := fun w' => ∃ n, w' = w.drewN n) (Sp := Sp) (Q := fun a' => ∀ w', (∃ n, w' = w.drewN n) → Q .normal a' w') (fun _ w' hw' h => h w' hw') _ _ _ _ ⟨1, rfl⟩ ?_)
  have := anyRel_lex (P := P) (C := fun w' => ∃ n, w' = w.drewN n) (Sp := Sp) (md := .any) hB.1 (w0 := w) ⟨0, rfl⟩ l 0 (Array.replicate l.toArray.size false) a (by simp) (by simpa using hB.2) h
  simpa using this

/-! ### The steps -/

theorem wpRel_nil {Q : Act → Prop} {a : Act} (h : Q a) : wpRel P ops C Sp Q [] a := h

theorem wpRel_skip {Q : Act → Prop} {a : Act} {o : Oper} {rest : List Oper} (hw : Region.wanted o (yielded ops a.tmps) = false) (h : wpRel P ops C Sp Q rest (a.put o.dst undef)) : wpRel P ops C Sp Q (o :: rest) a := by
  unfold wpRel; rw [hw]; exact h

theorem wpRel_want {Q : Act → Prop} {a : Act} {o : Oper} {rest : List Oper} (hw : Region.wanted o (yielded ops a.tmps) = true) (h : relOp P C Sp o a (wpRel P ops C Sp Q rest)) : wpRel P ops C Sp Q (o :: rest) a := by
  unfold wpRel; rw [hw]; exact h

/-- operations that call no function of the program -/
def plainOp : Op → Bool
  | .move _ | .assign _ | .pick .. | .load .. | .binOp .. | .unOp .. | .convert .. | .index .. | .indexAddr .. | .field .. | .fieldAddr .. | .extract .. | .slice .. => true
  | .call c => match c.callee with
    | .builtin .len | .builtin .cap | .builtin .real | .builtin .imag | .builtin .complex | .builtin .min | .builtin .max => true
    | _ => false
  | _ => false

theorem value_no_enter {x : Sem Value} {w w' : World} {f : FuncId} {args : Array Value} : (do pure (Next.value (← x)) : Sem Next).run P w ≠ .ok (.enter f args) w' := by
  rw [Sem.run_bind]
  cases x.run P w with
  | halt _ _ => intro h; cases h
  | ok v w1 => intro h; cases h

theorem plain_no_enter {o : Oper} (h : plainOp o.op = true) {r : Operand → Value} {w w' : World} {f : FuncId} {args : Array Value} : (execOp r o).run P w ≠ .ok (.enter f args) w' := by
  obtain ⟨dst, op, ty, pos, after, guard⟩ := o
  cases op <;> first | (cases h; done) | skip
  case move x => intro h; cases h
  case assign x => intro h; cases h
  case pick c x y =>
    unfold execOp
    simp only [Sem.run_bind]
    cases (asBool (r c)).run P w with
    | halt _ _ => intro h; cases h
    | ok v w1 => intro h; cases h
  case call c =>
    obtain ⟨callee, xs, ats⟩ := c
    cases callee <;> first | (cases h; done) | skip
    rename_i b
    cases b <;> first | (cases h; done) | skip
    all_goals exact value_no_enter
  all_goals exact value_no_enter

/-- an operation that leaves one value, and the world as it was -/
theorem rel_of_quiet {o : Oper} {a : Act} {K : Act → Prop} (hp : plainOp o.op = true) (h : o.quiet P a C K) : relOp P C Sp o a K := by
  obtain ⟨v, h1, h2⟩ := h
  refine ⟨fun w hw => ?_, fun u hu => ?_⟩
  · have := h1 w hw
    unfold Oper.quietAt at this
    cases hr : (execOp a.eval o).run P w with
    | halt x w' => rw [hr] at this; exact this.elim
    | ok n w' =>
      rw [hr] at this
      cases n with
      | value u => rw [show w' = w from this.1]; exact hw
      | skip => rw [show w' = w from this.1]; exact hw
      | enter f args => exact absurd hr (plain_no_enter hp)
      | _ => exact this.elim
  · obtain ⟨w, hw, hm⟩ := hu
    have := h1 w hw
    unfold Oper.quietAt at this
    cases hr : (execOp a.eval o).run P w with
    | halt x w' => rw [hr] at this; exact this.elim
    | ok n w' =>
      rw [hr] at this hm
      cases n with
      | value z => rw [← (show z = u from hm), show z = v from this.2]; exact h2
      | skip => rw [← (show undef = u from hm), ← show v = undef from this.2]; exact h2
      | enter f args => exact absurd hr (plain_no_enter hp)
      | _ => exact this.elim

theorem wpRel_plain {Q : Act → Prop} {a : Act} {o : Oper} {rest : List Oper} (hw : Region.wanted o (yielded ops a.tmps) = true) (hp : plainOp o.op = true)
    (h : ∀ K : Act → Prop, (∀ a, wpRel P ops C Sp Q rest a → K a) → o.quiet P a C K) : wpRel P ops C Sp Q (o :: rest) a :=
  wpRel_want hw (rel_of_quiet hp (h _ fun _ h => h))
end

section
variable {P : Program} {ops : Array Oper} {Sp : FuncId → Array Value → Value → Prop} {w0 : World} {Q : Act → Prop} {a : Act} {rest : List Oper}

/-- an operation whose value is known up to a NaN's bits -/
theorem rel_of_run {o : Oper} {K : Act → Prop} (k : FloatKind) (S : Option Nat)
    (h : ∀ n, ∃ v m, (execOp a.eval o).run P (w0.drewN n) = .ok (.value (.float k v)) ((w0.drewN n).drewN m) ∧ canon k v = S ∧ v < 2 ^ k.format.width)
    (hk : ∀ v, canon k v = S → v < 2 ^ k.format.width → K (a.put o.dst (.float k v))) : relOp P (fun w' => ∃ n, w' = w0.drewN n) Sp o a K := by
  refine ⟨fun w hw => ?_, fun u hu => ?_⟩
  · obtain ⟨n, rfl⟩ := hw
    obtain ⟨v, m, hr, _⟩ := h n
    rw [hr]
    exact ⟨n + m, World.drewN_drewN ..⟩
  · obtain ⟨w, ⟨n, rfl⟩, hm⟩ := hu
    obtain ⟨v, m, hr, hc, hl⟩ := h n
    rw [hr] at hm
    rw [← (show Value.float k v = u from hm)]
    exact hk v hc hl

/-- the value is written as a constant would be -/
theorem put_of_quiet {dst : Option Tmp} {ty : TypeId} {pos : String} {after : Array Edge} {guard : Option (Nat × Bool)} {v : Value} {C : World → Prop} {Q' : Act → Prop} {w : World} (hw : C w)
    (h : ∀ K : Act → Prop, (∀ a, Q' a → K a) → Oper.quiet P { dst := dst, op := .assign (.const v), type := ty, pos := pos, after := after, guard := guard } a C K) : Q' (a.put dst v) := by
  obtain ⟨u, h1, h2⟩ := h Q' fun _ h => h
  have := h1 w hw
  unfold Oper.quietAt at this
  rw [← (show v = u from this.2)] at h2
  exact h2

theorem wpRel_arith {dst : Option Tmp} {ty : TypeId} {pos : String} {after : Array Edge} {guard : Option (Nat × Bool)} {op : BinOp} {t t2 : TypeId} {x y : Operand}
    (hw : Region.wanted { dst := dst, op := .binOp op t x y t2, type := ty, pos := pos, after := after, guard := guard } (yielded ops a.tmps) = true) (hop : isArith op = true) (k : FloatKind) (p q : Nat) (hx : a.eval x = .float k p) (hy : a.eval y = .float k q)
    (h : ∀ v, canon k v = fop op k (canon k p) (canon k q) → v < 2 ^ k.format.width → ∀ K : Act → Prop, (∀ a, wpRel P ops (fun w' => ∃ n, w' = w0.drewN n) Sp Q rest a → K a) →
      Oper.quiet P { dst := dst, op := .assign (.const (.float k v)), type := ty, pos := pos, after := after, guard := guard } a (fun w' => ∃ n, w' = w0.drewN n) K) :
    wpRel P ops (fun w' => ∃ n, w' = w0.drewN n) Sp Q ({ dst := dst, op := .binOp op t x y t2, type := ty, pos := pos, after := after, guard := guard } :: rest) a := by
  refine wpRel_want hw (rel_of_run k (fop op k (canon k p) (canon k q)) (fun n => ?_) fun v h1 h2 => put_of_quiet (w := w0) ⟨0, rfl⟩ (h v h1 h2))
  have hop' := isArith_or hop
  obtain ⟨v, m, hr, hc, hv⟩ := run_arith_any (P := P) (w0.drewN n) op hop' k p q
  refine ⟨v, m, ?_, hc, hv⟩
  unfold execOp
  have e : binOp op t (.float k p) (.float k q) = Op.floatArith op k p q := by rcases hop' with rfl | rfl | rfl | rfl <;> simp [binOp]
  have g : eqGuard op t x y (.float k p) (.float k q) = pure () := by rcases hop' with rfl | rfl | rfl | rfl <;> rfl
  simp only [hx, hy, g, e, Sem.run_bind, Sem.run_pure, Result.andThen_ok, hr]

theorem wpRel_conv {dst : Option Tmp} {ty : TypeId} {pos : String} {after : Array Edge} {guard : Option (Nat × Bool)} {t t2 : TypeId} {x : Operand}
    (hw : Region.wanted { dst := dst, op := .convert t t2 x, type := ty, pos := pos, after := after, guard := guard } (yielded ops a.tmps) = true) (src kd : FloatKind) (hne : src ≠ kd) (p : Nat) (hx : a.eval x = .float src p) (hs : P.underlying t = some (.float src)) (hd : P.underlying t2 = some (.float kd))
    (hb : p < 2 ^ src.format.width) (hf : fits src kd p)
    (h : ∀ v, canon kd v = fconv src kd (canon src p) → v < 2 ^ kd.format.width → ∀ K : Act → Prop, (∀ a, wpRel P ops (fun w' => ∃ n, w' = w0.drewN n) Sp Q rest a → K a) →
      Oper.quiet P { dst := dst, op := .assign (.const (.float kd v)), type := ty, pos := pos, after := after, guard := guard } a (fun w' => ∃ n, w' = w0.drewN n) K) :
    wpRel P ops (fun w' => ∃ n, w' = w0.drewN n) Sp Q ({ dst := dst, op := .convert t t2 x, type := ty, pos := pos, after := after, guard := guard } :: rest) a := by
  refine wpRel_want hw (rel_of_run kd (fconv src kd (canon src p)) (fun n => ?_) fun v h1 h2 => put_of_quiet (w := w0) ⟨0, rfl⟩ (h v h1 h2))
  obtain ⟨v, m, hr, hc, hv⟩ := run_conv_any (P := P) (w0.drewN n) src kd hne p hb hf
  refine ⟨v, m, ?_, hc, hv⟩
  unfold execOp
  have e : (convert t t2 (.float src p)).run P (w0.drewN n) = .ok (.float kd v) ((w0.drewN n).drewN m) := by
    simp [convert, run_underlying hs, run_underlying hd, hr]
  simp only [hx, Sem.run_bind, Sem.run_pure, Result.andThen_ok, e]

theorem run_call_func {o : Oper} {f : FuncId} {fn : Func} {w : World} {r : Operand → Value} {x : Operand} {xs : Array Operand} {ats : Array TypeId} (ho : o.op = .call { callee := .value x, args := xs, argTypes := ats }) (hx : r x = .func (.func f) #[] #[])
    (hf : P.funcs[f]? = some fn) (hn : (fn.name == "runtime.NumGoroutine") = false) (hb : fn.body.isNone = false) : (execOp r o).run P w = .ok (.enter f (xs.map r)) w := by
  unfold execOp
  have h1 : fn.name ≠ "runtime.NumGoroutine" := by simpa using hn
  have h2 : fn.body ≠ none := fun e => by rw [e] at hb; cases hb
  simp [ho, resolve, hx, Deferred.ofValue, invoke, callFunc, hf, h1, h2]

/-- a call: its contract in every world of the class gives what its specification lets -/
theorem wpRel_call {dst : Option Tmp} {ty : TypeId} {pos : String} {after : Array Edge} {guard : Option (Nat × Bool)} {x : Operand} {xs : Array Operand} {ats : Array TypeId}
    (hw : Region.wanted { dst := dst, op := .call { callee := .value x, args := xs, argTypes := ats }, type := ty, pos := pos, after := after, guard := guard } (yielded ops a.tmps) = true) (f : FuncId) (fn : Func) (hx : a.eval x = .func (.func f) #[] #[])
    (hf : P.funcs[f]? = some fn) (hn : (fn.name == "runtime.NumGoroutine") = false) (hb : fn.body.isNone = false) (al : List Value) (ha : xs.toList.map a.eval = al)
    (hc : ∀ n, Calls P f al.toArray (w0.drewN n) fun e w'' => ∃ v, e = .returned v ∧ Sp f al.toArray v ∧ ∃ m, w'' = w0.drewN m)
    (h : ∀ v, Sp f al.toArray v → ∀ K : Act → Prop, (∀ a, wpRel P ops (fun w' => ∃ n, w' = w0.drewN n) Sp Q rest a → K a) →
      Oper.quiet P { dst := dst, op := .assign (.const v), type := ty, pos := pos, after := after, guard := guard } a (fun w' => ∃ n, w' = w0.drewN n) K) :
    wpRel P ops (fun w' => ∃ n, w' = w0.drewN n) Sp Q ({ dst := dst, op := .call { callee := .value x, args := xs, argTypes := ats }, type := ty, pos := pos, after := after, guard := guard } :: rest) a := by
  have ha' : xs.map a.eval = al.toArray := by rw [← ha, ← Array.toList_map]
  rw [← ha'] at hc h
  refine wpRel_want hw ⟨fun w hw => ?_, fun u hu => ?_⟩
  · obtain ⟨n, rfl⟩ := hw
    rw [run_call_func rfl hx hf hn hb]
    exact hc n
  · obtain ⟨w, ⟨n, rfl⟩, hm⟩ := hu
    rw [run_call_func rfl hx hf hn hb] at hm
    exact put_of_quiet (w := w0) ⟨0, rfl⟩ (h u hm)
end

end Go.Proofs.Ytedfbaeajofmnaa

end

section

namespace Go.Proofs.Ytedfbaeajofmnaa
open Go Ieee Go.RowKit

/-- the numbers are the same, all NaNs being one -/
def SameF (xs ys : List Nat) : Prop := xs.length = ys.length ∧ (∀ x ∈ xs, x < 2 ^ 32) ∧ (∀ y ∈ ys, y < 2 ^ 32) ∧ ∀ i (h : i < xs.length) (h' : i < ys.length), canon .f32 xs[i] = canon .f32 ys[i]

theorem SameF.refl {xs : List Nat} (h : ∀ x ∈ xs, x < 2 ^ 32) : SameF xs xs := ⟨rfl, h, h, fun _ _ _ => rfl⟩

set_option maxHeartbeats 1000000 in
theorem eqF32s (a b : Option Addr) (ca cb : Nat) (xs ys : List Nat) (w : World) (ha : RowV w a (fvals xs)) (hb : RowV w b (fvals ys)) (h : SameF xs ys) (hn : xs.length ≤ maxLen) :
    Calls Try.prog 59 #[.slice a xs.length ca, .slice b ys.length cb] w fun e w' => e = .returned (.bool true) ∧ ∃ n, w' = w.drewN n := by
  obtain ⟨hl, hx, hy, hs⟩ := h
  have HY := Lib.hid hl
  rw [← hl]
  clear hl
  unfold maxLen at hn
  generalize hlen : xs.length = n at hn HY ⊢
  have HL := Lib.hid hlen
  clear hlen
  go_enter Try.func59, Try.ntmps59
  go_wp2
  go_loopw [5] (fun i wr => ∃ k : Nat, k ≤ n ∧ i = .int .i64 k ∧ ∃ m, wr = w.drewN m) (fun i _ => n - (intOf i).toNat)
  case atStart => exact ⟨0, Nat.zero_le _, rfl, 0, rfl⟩
  case round =>
    obtain ⟨k, hk, rfl, m, rfl⟩ := hrel
    by_cases hlt : k < n
    · have k1 : k < xs.length := by rw [HL.out]; exact hlt
      have k2 : k < ys.length := by rw [← HY.out]; exact hlt
      obtain ⟨ba, oa, rfl, c1⟩ := ha k _ (fvals_get k1)
      obtain ⟨bb, ob, rfl, c2⟩ := hb k _ (fvals_get k2)
      have hc := hs k k1 k2
      have b1 : xs[k] < 2 ^ FloatKind.f32.format.width := hx _ (List.getElem_mem _)
      have b2 : ys[k] < 2 ^ FloatKind.f32.format.width := hy _ (List.getElem_mem _)
      generalize xs[k] = x at *
      generalize ys[k] = y at *
      have HC := Lib.hid hc
      clear hc hs ha hb
      have hki : ((k : Nat) : Int) < (n : Int) := by omega
      go_wp2_with (refine wp_region_rel (Sp := fun _ _ v => v = .bool true) (by kernel_rfl) (by kernel_rfl) ?_; (repeat (first
        | (refine wpRel_conv rfl .f32 .f64 (by decide) _ rfl Try.underlying102 Try.underlying143 (by assumption) (fits_widen _) ?_; intro v hcv hv K hK; have HV := Lib.hid hcv; clear hcv; go_big_quiet_op; go_big_quiet_on)
        | (refine wpRel_call rfl 103 _ rfl Try.func103 (by kernel_rfl) (by kernel_rfl) [.float .f64 _, .float .f64 _] rfl (fun n => ?_) ?_; (refine (sameFloat_any _ _ _ (conv_same (by assumption) (by assumption) HC rfl)).mono ?_; rintro e w' ⟨rfl, q, rfl⟩; exact ⟨_, rfl, rfl, _, World.drewN_drewN ..⟩); intro v hv K hK; subst hv; go_big_quiet_op; go_big_quiet_on)
        | (refine wpRel_plain rfl rfl ?_; intro K hK; go_big_quiet_op; go_big_quiet_on))); (with_reducible refine wpRel_nil ?_); rintro w' ⟨nq, rfl⟩)
      go_wp2
      go_roundw
      case rel => exact ⟨k + 1, by omega, by go_num, _, rfl⟩
      case measure => simp [intOf]; omega
    · go_wp2
      go_ret
      exact ⟨rfl, _, rfl⟩
end Go.Proofs.Ytedfbaeajofmnaa

end

section

namespace Go.Proofs.Ytedfbaeajofmnaa
open Go Ieee Go.RowKit

/-- a float comes back, known up to a NaN's bits, and nothing but draws was done -/
def FRet (w : World) (f : Nat → Value) (S : Option Nat) (e : Ending) (w' : World) : Prop := ∃ r n, e = .returned (f r) ∧ w' = w.drewN n ∧ canon .f32 r = S ∧ r < 2 ^ 32

def fsum (xs : List Nat) : Option Nat := xs.foldl (fun s x => fop .add .f32 s (canon .f32 x)) (some 0)

def few (n : Nat) : Bool := decide (n ≤ 256)
def fsumAll (xs : List Nat) : Option Nat := if xs.length ≤ 256 then fsum xs else some 0
theorem few_yes {n : Nat} (h : n ≤ 256) : few n = true := decide_eq_true h
theorem few_no {n : Nat} (h : ¬ n ≤ 256) : few n = false := decide_eq_false h

theorem fsum_take {xs : List Nat} {k : Nat} (h : k < xs.length) : fsum (xs.take (k + 1)) = fop .add .f32 (fsum (xs.take k)) (canon .f32 xs[k]) := by
  unfold fsum; rw [List.take_succ_eq_append_getElem h, List.foldl_append]; rfl

/-- a slice of floats that came in -/
theorem open_rowF {H : Type} {enc : TypeId × Value → H} {W : World} {base : Nat} {spare : Nat → Bool} {held : Bool} {t e : TypeId} {a : Option Addr} {len cap : Nat} {d : DataW H} {ps : List MemPlace} (ht : Try.prog.underlying t = some (.slice e)) (he : Try.prog.underlying e = some (.float .f32)) (hc : Try.prog.cellsOf e = 1)
    (h : DataW.Trod enc Try.prog W base spare held t (.slice a len cap) d ps) : ∃ xs : List Nat, len = xs.length ∧ RowV W a (fvals xs) ∧ (∀ x ∈ xs, x < 2 ^ 32) ∧ len ≤ maxLen := by
  obtain ⟨fuel, hf⟩ := h
  rcases Deep.open_slice1 ht hc hf with ⟨hcs, _⟩ | ⟨x, l, c, m, n, V, D, Pl, hcs, _, hl, hm, hmm, _, hx⟩
  · simp [Value.cells] at hcs
    obtain ⟨rfl, rfl, rfl⟩ := hcs
    exact ⟨[], rfl, (fun i u hu => by simp [fvals] at hu), (fun x hx => by cases hx), (by unfold maxLen; omega)⟩
  · simp [Value.cells] at hcs
    obtain ⟨rfl, rfl, rfl⟩ := hcs
    have hlm : len ≤ m := by rw [hmm]; split <;> omega
    have each : ∀ i, i < len → ∃ b, V i = .float .f32 b ∧ b < 2 ^ 32 := fun i hi => by
      have := (hx i (by omega)).2
      cases n with
      | zero => simp [DataW.trod] at this
      | succ n =>
        simp only [DataW.trod, he] at this
        cases hv : V i with
        | float k b =>
          rw [hv] at this
          by_cases hk : k = .f32
          · subst hk
            by_cases hw : (Lit.float .f32 b).wf = true
            · exact ⟨b, rfl, wf_lt hw⟩
            · simp [hw] at this
          · cases k <;> simp_all
        | _ => rw [hv] at this; simp at this
    obtain ⟨f, hf'⟩ := Deep.choose_lt each
    refine ⟨(List.range len).map f, (by simp), ?_, ?_, (by omega)⟩
    · intro i u hu
      have hi : i < len := by
        have := (List.getElem?_eq_some_iff.1 hu).1
        simpa [fvals] using this
      have hu' : u = .float .f32 (f i) := by
        simp [fvals, hi] at hu
        exact hu.symm
      have hc' := (hx i (by omega)).1
      rw [(hf' i hi).1] at hc'
      obtain ⟨b, off, spot⟩ := x
      have hs : spot = none := by simpa [Addr.add] using World.cell?_spot (hx 0 (by omega)).1
      subst hs
      refine ⟨b, off, rfl, ?_⟩
      rw [hu', ← hc']
      by_cases h0 : i = 0
      · subst h0; rfl
      · simp [Addr.add, h0]
    · intro y hy
      obtain ⟨i, hi, rfl⟩ := List.mem_map.1 hy
      exact (hf' i (List.mem_range.1 hi)).2
end Go.Proofs.Ytedfbaeajofmnaa

end

section

namespace Go.Proofs.Ytedfbaeajofmnaa
open Go Ieee Go.RowKit

theorem RowV.drawn {w : World} {a : Option Addr} {vs : List Value} (h : RowV w a vs) (n : Nat) : RowV (w.drewN n) a vs := h

theorem Below.lower {B : Nat} {a b c : World} (h1 : Below B a b) (h2 : Below b.heap.size b c) (hB : B ≤ b.heap.size) : Below B a c := h1.trans (h2.mono hB)

end Go.Proofs.Ytedfbaeajofmnaa

end
