/- The sine of a number of turns, as a function on floats up to a NaN's bits, and how great it can be. Conditions: none beyond those of each theorem. -/
import Derived.Test.YtdcpkndkehdhiadFl6
namespace Go.Proofs.Ytdcpkndkehdhiad
open Go Ieee

def ltO (a b : Option Nat) : Bool := ford .f64 a b == some .lt
def gtO (a b : Option Nat) : Bool := ford .f64 a b == some .gt
def geO (a b : Option Nat) : Bool := ford .f64 a b == some .gt || ford .f64 a b == some .eq

/-- how many units of the least place 1 is -/
def U1 : Nat := magOf Ieee.double (1023 * 2 ^ 52)

/-- the integer that is left when the places behind the point are cut off -/
def wholeOf (t : Nat) : Int := if sgn Ieee.double t then -((magOf Ieee.double (rung Ieee.double t) / U1 : Nat) : Int) else (magOf Ieee.double (rung Ieee.double t) / U1 : Nat)

/-- 1, a half, a quarter, two pi -/
def c1 : Nat := 4607182418800017408
def cHalf : Nat := 4602678819172646912
def cQuarter : Nat := 4598175219545276416
def cTau : Nat := 4618760256179416344

def cutO (t : Nat) : Option Nat := fop .sub .f64 (canon .f64 t) (canon .f64 (floatOfInt .f64 (wholeOf t)))
def partO (t : Nat) : Option Nat := if ltO (cutO t) (some 0) then fop .add .f64 (cutO t) (some c1) else cutO t

/-- what stands below the line at the i-th round -/
def below (i : Nat) : Nat := floatOfInt .f64 (2 * (8 - (i : Int)) * (2 * (8 - (i : Int)) + 1))
def polyO (u : Option Nat) : Nat → Option Nat
  | 0 => some c1
  | i + 1 => fop .sub .f64 (some c1) (fop .quo .f64 (fop .mul .f64 u (polyO u i)) (some (below i)))
def shortO (f : Option Nat) : Option Nat :=
  fop .mul .f64 (fop .mul .f64 f (some cTau)) (polyO (fop .mul .f64 (fop .mul .f64 f (some cTau)) (fop .mul .f64 f (some cTau))) 8)

def halvedO (g : Option Nat) : Option Nat := if geO g (some cHalf) then fop .sub .f64 g (some cHalf) else g
def foldedO (g : Option Nat) : Option Nat := if gtO (halvedO g) (some cQuarter) then fop .sub .f64 (some cHalf) (halvedO g) else halvedO g
def sineOf (g : Option Nat) : Option Nat := if geO g (some cHalf) then (shortO (foldedO g)).map (Op.negFloat .f64) else shortO (foldedO g)
def sineO (t : Nat) : Option Nat := sineOf (partO t)

/-! ### Bounds -/

theorem Bd.sub {a b : Option Nat} {p : Nat} (ha : Bd p a) (hb : Bd p b) (hp : 1 ≤ p) (hp2 : p ≤ 2045) : Bd (p + 1) (fop .sub .f64 a b) := by
  cases a with
  | none => exact Bd.none _
  | some x =>
  cases b with
  | none => exact Bd.none _
  | some y =>
  intro v hv
  rw [sub_eq (ha.isFin' (by omega)) (hb.isFin' (by omega))] at hv
  injection hv with hv
  rw [← hv]
  have e0 : FloatKind.f64.format = Ieee.double := rfl
  rw [e0]
  by_cases h0 : sv Ieee.double x - sv Ieee.double y = 0
  · rw [if_pos h0, rung_word _ _ (by decide)]; exact Nat.zero_le _
  · rw [if_neg h0]
    have mono : ∀ r : Nat, r ≤ p * 2 ^ 52 → magOf Ieee.double r ≤ magOf Ieee.double (p * 2 ^ 52) := fun r hr => by
      rcases Nat.lt_or_eq_of_le hr with q | q
      · exact Nat.le_of_lt (magOf_lt _ q)
      · rw [q]; exact Nat.le_refl _
    have m1 := mono _ (ha x rfl)
    have m2 := mono _ (hb y rfl)
    obtain ⟨p', rfl⟩ : ∃ p', p = p' + 1 := ⟨p - 1, by omega⟩
    have e1 := magOf_pow p'
    have e2 := magOf_pow (p' + 1)
    rw [Nat.pow_succ 2 p', ← Nat.mul_assoc, ← e1] at e2
    have hT : (sv Ieee.double x - sv Ieee.double y).natAbs ≤ magOf Ieee.double ((p' + 1 + 1) * 2 ^ 52) := by
      rw [e2]
      clear e1 e2 mono hv
      unfold sv
      generalize magOf Ieee.double (rung Ieee.double x) = A at *
      generalize magOf Ieee.double (rung Ieee.double y) = B at *
      generalize magOf Ieee.double ((p' + 1) * 2 ^ 52) = M at *
      split <;> split <;> omega
    exact (round_units Ieee.double _ h0 (by rw [dinf]; omega) hT).1

theorem c1_fin : isFin .f64 c1 := by unfold isFin; decide
theorem below_fin' : ∀ i, i < 8 → rung FloatKind.f64.format (below i) < FloatKind.f64.format.infRung ∧ 1023 * 2 ^ 52 ≤ rung Ieee.double (below i) := by decide +kernel
theorem below_fin (i : Nat) (h : i < 8) : isFin .f64 (below i) ∧ 1023 * 2 ^ 52 ≤ rung Ieee.double (below i) := below_fin' i h

theorem Bd.c1 : Bd 1023 (some c1) := fun v h => by cases h; decide

theorem bd_poly {u : Option Nat} (hu : Bd 1031 u) : ∀ i, i ≤ 8 → Bd (1023 + 12 * i) (polyO u i)
  | 0, _ => Bd.c1
  | i + 1, hi => by
    have ih := bd_poly hu i (by omega)
    have h1 : Bd (1033 + 12 * i) (fop .mul .f64 u (polyO u i)) := Bd.mul hu ih (by omega) (by omega) (by omega) (by omega) (by omega) (by omega) (by omega)
    have h2 : Bd (1034 + 12 * i) (fop .quo .f64 (fop .mul .f64 u (polyO u i)) (some (below i))) := Bd.quo h1 (below_fin i (by omega)).1 (below_fin i (by omega)).2 (by omega) (by omega) (by omega) (by omega) (by omega) (by omega)
    have h3 := Bd.sub (Bd.c1.mono (q' := 1034 + 12 * i) (by omega)) h2 (by omega) (by omega)
    exact h3.mono (by omega)

theorem bd_short {f : Option Nat} (h : Bd 1021 f) : Bd 1124 (shortO f) := by
  have ht : Bd 1026 (some cTau) := fun v hv => by cases hv; decide
  have hz : Bd 1026 (fop .mul .f64 f (some cTau)) := Bd.mul h ht (by omega) (by omega) (by omega) (by omega) (by omega) (by omega) (by omega)
  have hu : Bd 1031 (fop .mul .f64 (fop .mul .f64 f (some cTau)) (fop .mul .f64 f (some cTau))) := Bd.mul hz hz (by omega) (by omega) (by omega) (by omega) (by omega) (by omega) (by omega)
  exact Bd.mul hz (bd_poly hu 8 (Nat.le_refl _)) (by omega) (by omega) (by omega) (by omega) (by omega) (by omega) (by omega)

/-- from 0 to a bound, or -0 -/
def Up (r : Nat) (o : Option Nat) : Prop := ∃ v, o = some v ∧ rung Ieee.double v ≤ r ∧ (sgn Ieee.double v = false ∨ rung Ieee.double v = 0)

theorem Up.isFin' {r v : Nat} (h : Up r (some v)) (hr : r < Ieee.double.infRung) : isFin .f64 v := by
  obtain ⟨_, e, h1, _⟩ := h
  cases e
  exact Nat.lt_of_le_of_lt h1 hr

theorem Up.sv {r v : Nat} (h : Up r (some v)) : sv Ieee.double v = magOf Ieee.double (rung Ieee.double v) ∧ magOf Ieee.double (rung Ieee.double v) ≤ magOf Ieee.double r := by
  obtain ⟨_, e, h1, h2⟩ := h
  cases e
  constructor
  · unfold Go.Proofs.Ytdcpkndkehdhiad.sv
    rcases h2 with h2 | h2
    · rw [h2]; rfl
    · rw [h2, magOf_zero]; split <;> rfl
  · rcases Nat.lt_or_eq_of_le h1 with q | q
    · exact Nat.le_of_lt (magOf_lt _ q)
    · rw [q]; exact Nat.le_refl _

/-- a difference of two such numbers, the first one not below the second -/
theorem Up.sub {a b : Nat} {r s : Nat} (ha : Up r (some a)) (hb : Up s (some b)) (hr : r < Ieee.double.infRung) (hs : s < Ieee.double.infRung) (h : rung Ieee.double b ≤ rung Ieee.double a) (q : Nat) (hq : q < Ieee.double.infRung)
    (hm : magOf Ieee.double (rung Ieee.double a) ≤ magOf Ieee.double q + magOf Ieee.double (rung Ieee.double b)) : Up q (fop .sub .f64 (some a) (some b)) := by
  rw [sub_eq (ha.isFin' hr) (hb.isFin' hs)]
  refine ⟨_, rfl, ?_⟩
  have e0 : FloatKind.f64.format = Ieee.double := rfl
  rw [e0, ha.sv.1, hb.sv.1]
  have hle : magOf Ieee.double (rung Ieee.double b) ≤ magOf Ieee.double (rung Ieee.double a) := by
    rcases Nat.lt_or_eq_of_le h with q | q
    · exact Nat.le_of_lt (magOf_lt _ q)
    · rw [q]; exact Nat.le_refl _
  generalize magOf Ieee.double (rung Ieee.double a) = A at *
  generalize magOf Ieee.double (rung Ieee.double b) = B at *
  by_cases h0 : (A : Int) - B = 0
  · rw [if_pos h0, rung_word _ _ (by decide)]
    exact ⟨Nat.zero_le _, .inr rfl⟩
  · rw [if_neg h0]
    have := round_units Ieee.double ((A : Int) - B) h0 hq (by omega)
    refine ⟨this.1, .inl ?_⟩
    rw [this.2, decide_eq_false]; omega

theorem key_up {r v : Nat} (h : Up r (some v)) : key Ieee.double v = rung Ieee.double v := by
  obtain ⟨_, e, _, h2⟩ := h
  cases e
  unfold key
  rcases h2 with h2 | h2
  · rw [h2]; rfl
  · rw [h2]; split <;> rfl

theorem isN_fin {k : FloatKind} {v : Nat} (h : isFin k v) : isN k v = false := isN_of_le (Nat.le_of_lt h)
theorem canon_fin {k : FloatKind} {v : Nat} (h : isFin k v) : canon k v = some v := canon_of_not (isN_fin h)

theorem ford_key {a b : Nat} (ha : isFin .f64 a) (hb : isFin .f64 b) : ford .f64 (some a) (some b) = some (compare (key Ieee.double a) (key Ieee.double b)) := by
  have := order_key .f64 (isN_fin ha) (isN_fin hb)
  rw [order_canon, canon_fin ha, canon_fin hb] at this
  exact this

theorem geO_key {a b : Nat} (ha : isFin .f64 a) (hb : isFin .f64 b) : geO (some a) (some b) = decide (key Ieee.double b ≤ key Ieee.double a) := by
  unfold geO
  rw [ford_key ha hb, Bool.eq_iff_iff]
  simp only [Bool.or_eq_true, beq_iff_eq, Option.some.injEq, decide_eq_true_eq, Int.compare_eq_gt, Int.compare_eq_eq]
  omega
theorem gtO_key {a b : Nat} (ha : isFin .f64 a) (hb : isFin .f64 b) : gtO (some a) (some b) = decide (key Ieee.double b < key Ieee.double a) := by
  unfold gtO
  rw [ford_key ha hb, Bool.eq_iff_iff]
  simp only [beq_iff_eq, Option.some.injEq, decide_eq_true_eq, Int.compare_eq_gt]
theorem ltO_key {a b : Nat} (ha : isFin .f64 a) (hb : isFin .f64 b) : ltO (some a) (some b) = decide (key Ieee.double a < key Ieee.double b) := by
  unfold ltO
  rw [ford_key ha hb, Bool.eq_iff_iff]
  simp only [beq_iff_eq, Option.some.injEq, decide_eq_true_eq, Int.compare_eq_lt]

theorem up_half : Up (1022 * 2 ^ 52) (some cHalf) := ⟨_, rfl, by decide, .inl (by decide)⟩

theorem mag_double (q a b : Nat) (ha : a = (q + 1 + 1) * 2 ^ 52) (hb : b = (q + 1) * 2 ^ 52) : magOf Ieee.double a = magOf Ieee.double b * 2 := by
  rw [ha, hb, magOf_pow, magOf_pow, Nat.pow_succ 2 q, Nat.mul_assoc]
theorem mag1H : magOf Ieee.double (1023 * 2 ^ 52) = magOf Ieee.double (1022 * 2 ^ 52) * 2 := mag_double 1021 _ _ rfl rfl
theorem magHQ : magOf Ieee.double (1022 * 2 ^ 52) = magOf Ieee.double (1021 * 2 ^ 52) * 2 := mag_double 1020 _ _ rfl rfl

theorem up_halved {g : Option Nat} (h : Up (1023 * 2 ^ 52) g) : Up (1022 * 2 ^ 52) (halvedO g) := by
  obtain ⟨v, rfl, h1, h2⟩ := h
  have hu : Up (1023 * 2 ^ 52) (some v) := ⟨v, rfl, h1, h2⟩
  have i1 : (1023 * 2 ^ 52 : Nat) < Ieee.double.infRung := by decide
  have i2 : (1022 * 2 ^ 52 : Nat) < Ieee.double.infRung := by decide
  have hr : rung Ieee.double cHalf = 1022 * 2 ^ 52 := by decide
  unfold halvedO
  rw [geO_key (hu.isFin' i1) (up_half.isFin' i2), key_up hu, key_up up_half, hr]
  by_cases hc : ((1022 * 2 ^ 52 : Nat) : Int) ≤ (rung Ieee.double v : Int)
  · rw [decide_eq_true hc, if_pos rfl]
    refine Up.sub hu up_half i1 i2 (by rw [hr]; omega) _ i2 ?_
    have := hu.sv.2
    rw [hr]
    rw [mag1H] at this
    omega
  · rw [decide_eq_false hc]
    exact ⟨v, rfl, by omega, h2⟩

theorem up_folded {g : Option Nat} (h : Up (1023 * 2 ^ 52) g) : Up (1021 * 2 ^ 52) (foldedO g) := by
  obtain ⟨v, hv, h1, h2⟩ := up_halved h
  unfold foldedO
  rw [hv]
  have hu : Up (1022 * 2 ^ 52) (some v) := ⟨v, rfl, h1, h2⟩
  have i1 : (1022 * 2 ^ 52 : Nat) < Ieee.double.infRung := by decide
  have i2 : (1021 * 2 ^ 52 : Nat) < Ieee.double.infRung := by decide
  have uq : Up (1021 * 2 ^ 52) (some cQuarter) := ⟨_, rfl, by decide, .inl (by decide)⟩
  have hr : rung Ieee.double cQuarter = 1021 * 2 ^ 52 := by decide
  have hh : rung Ieee.double cHalf = 1022 * 2 ^ 52 := by decide
  rw [gtO_key (hu.isFin' i1) (uq.isFin' i2), key_up hu, key_up uq, hr]
  by_cases hc : ((1021 * 2 ^ 52 : Nat) : Int) < (rung Ieee.double v : Int)
  · rw [decide_eq_true hc, if_pos rfl]
    refine Up.sub up_half hu i1 i1 (by rw [hh]; omega) _ i2 ?_
    have hm : magOf Ieee.double (1021 * 2 ^ 52) < magOf Ieee.double (rung Ieee.double v) := magOf_lt _ (by omega)
    rw [hh]
    rw [magHQ]
    omega
  · rw [decide_eq_false hc]
    exact ⟨v, rfl, by omega, h2⟩

theorem Up.bd {q : Nat} {o : Option Nat} (h : Up (q * 2 ^ 52) o) : Bd q o := fun v hv => by
  obtain ⟨u, e, h1, _⟩ := h
  rw [e] at hv; cases hv; exact h1

theorem bd_sine {g : Option Nat} (h : Up (1023 * 2 ^ 52) g) : Bd 1124 (shortO (foldedO g)) := bd_short (up_folded h).bd
end Go.Proofs.Ytdcpkndkehdhiad
