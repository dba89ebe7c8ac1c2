/- How two floats stand to each other is how their signed rungs do. Conditions: both are no NaNs. -/
import Derived.Test.YtabhjnpmmjmaiabFl2
namespace Go.Proofs.Ytabhjnpmmjmaiab
open Go Ieee

/-- the magnitude of a rung, in units of the least place -/
def magOf (f : Format) (r : Nat) : Nat := if r < f.binade then r else (f.binade + r % f.binade) * 2 ^ (r / f.binade - 1)

theorem magOf_step (f : Format) (r : Nat) : magOf f r < magOf f (r + 1) := by
  have hB : 0 < f.binade := Nat.two_pow_pos _
  generalize hb : f.binade = B at hB
  unfold magOf
  rw [hb]
  by_cases h1 : r + 1 < B
  · rw [if_pos (by omega), if_pos h1]; omega
  · by_cases h2 : r < B
    · have e : r + 1 = B := by omega
      rw [if_pos h2, if_neg h1, e, Nat.mod_self, Nat.div_self hB]; simp; omega
    · rw [if_neg h2, if_neg h1]
      have hq : 1 ≤ r / B := (Nat.le_div_iff_mul_le hB).2 (by omega)
      have hm := Nat.div_add_mod r B
      have hl : r % B < B := Nat.mod_lt _ hB
      by_cases h3 : r % B + 1 < B
      · have d : (r + 1) / B = r / B := by
          rw [Nat.div_eq_iff hB]
          constructor
          · rw [Nat.mul_comm]; omega
          · rw [Nat.mul_comm]; omega
        have m : (r + 1) % B = r % B + 1 := by
          have := Nat.div_add_mod (r + 1) B
          rw [d] at this; omega
        rw [d, m]
        apply Nat.mul_lt_mul_of_pos_right (by omega) (Nat.two_pow_pos _)
      · have d : (r + 1) / B = r / B + 1 := by
          rw [Nat.div_eq_iff hB]
          constructor
          · rw [Nat.add_mul, Nat.mul_comm]; omega
          · rw [Nat.add_mul, Nat.mul_comm]; omega
        have m : (r + 1) % B = 0 := by
          have := Nat.div_add_mod (r + 1) B
          rw [d, Nat.mul_add] at this; omega
        rw [d, m]
        have : 2 ^ (r / B + 1 - 1) = 2 * 2 ^ (r / B - 1) := by
          rw [show r / B + 1 - 1 = (r / B - 1) + 1 by omega, Nat.pow_succ]; omega
        rw [this, Nat.add_zero, ← Nat.mul_assoc]
        apply Nat.mul_lt_mul_of_pos_right (by omega) (Nat.two_pow_pos _)

theorem magOf_lt (f : Format) {r s : Nat} (h : r < s) : magOf f r < magOf f s := by
  induction s with
  | zero => omega
  | succ s ih =>
    rcases Nat.lt_or_ge r s with a | a
    · exact Nat.lt_trans (ih a) (magOf_step f s)
    · obtain rfl : r = s := by omega
      exact magOf_step f r

theorem magOf_lt_iff (f : Format) {r s : Nat} : magOf f r < magOf f s ↔ r < s := by
  constructor
  · intro h
    rcases Nat.lt_trichotomy r s with a | a | a
    · exact a
    · subst a; omega
    · have := magOf_lt f a; omega
  · exact magOf_lt f

theorem magOf_inj (f : Format) {r s : Nat} (h : magOf f r = magOf f s) : r = s := by
  rcases Nat.lt_trichotomy r s with a | a | a
  · have := magOf_lt f a; omega
  · exact a
  · have := magOf_lt f a; omega

def sgn (f : Format) (b : Nat) : Bool := b / f.signWeight % 2 == 1
def rung (f : Format) (b : Nat) : Nat := b % f.signWeight
/-- the signed rung -/
def key (f : Format) (b : Nat) : Int := if sgn f b then -(rung f b : Int) else rung f b

/-- what a word reads as, by its rung -/
theorem read_cases (f : Format) (b : Nat) :
    (rung f b < f.infRung ∧ ∃ m p, f.read b = .number (sgn f b) m (f.leastPlace + (p : Nat)) ∧ m * 2 ^ p = magOf f (rung f b)) ∨
    (rung f b = f.infRung ∧ f.binade ≤ f.infRung ∧ f.read b = .infinity (sgn f b)) ∨ (f.infRung < rung f b ∧ f.read b = .nan (sgn f b) (rung f b - f.infRung)) ∨ f.infRung < f.binade := by
  unfold Format.read sgn rung
  simp only
  by_cases hw : f.infRung < f.binade
  · exact .inr (.inr (.inr hw))
  · by_cases h1 : b % f.signWeight < f.binade
    · rw [if_pos h1]
      by_cases h2 : b % f.signWeight < f.infRung
      · exact .inl ⟨h2, b % f.signWeight, 0, by simp, by unfold magOf; rw [if_pos h1]; simp⟩
      · omega
    · rw [if_neg h1]
      by_cases h2 : b % f.signWeight < f.infRung
      · rw [if_pos h2]
        exact .inl ⟨h2, _, _, rfl, by unfold magOf; rw [if_neg h1]⟩
      · rw [if_neg h2]
        by_cases h3 : b % f.signWeight = f.infRung
        · rw [if_pos h3]; exact .inr (.inl ⟨h3, by omega, rfl⟩)
        · rw [if_neg h3]; exact .inr (.inr (.inl ⟨by omega, rfl⟩))

theorem isN_iff (k : FloatKind) (b : Nat) : isN k b = true ↔ k.format.infRung < rung k.format b := by
  have hw : ¬ k.format.infRung < k.format.binade := by cases k <;> decide
  unfold isN FloatKind.decode
  rcases read_cases k.format b with ⟨h, m, p, e, _⟩ | ⟨h, _, e⟩ | ⟨h, e⟩ | h
  · rw [e]; constructor
    · intro h'; cases h'
    · intro h'; omega
  · rw [e]; constructor
    · intro h'; cases h'
    · intro h'; omega
  · rw [e]; exact ⟨fun _ => h, fun _ => rfl⟩
  · exact absurd h hw

theorem compare_mul {a b : Int} {c : Nat} (hc : 0 < c) : compare (a * c) (b * c) = compare a b := by
  have hc' : (0 : Int) < c := by omega
  rcases Int.lt_trichotomy a b with h | h | h
  · rw [Int.compare_eq_lt.2 h, Int.compare_eq_lt.2 (Int.mul_lt_mul_of_pos_right h hc')]
  · subst h; simp
  · rw [Int.compare_eq_gt.2 h, Int.compare_eq_gt.2 (Int.mul_lt_mul_of_pos_right h hc')]

theorem signed_mul (s : Bool) (m u j : Nat) : signed s m u * (2 ^ j : Nat) = signed s (m * 2 ^ (u + j)) 0 := by
  unfold signed
  simp only [shl_eq, Nat.pow_zero, Nat.mul_one]
  have : ((m * 2 ^ u : Nat) : Int) * (2 ^ j : Nat) = ((m * 2 ^ (u + j) : Nat) : Int) := by
    rw [Nat.pow_add, ← Nat.mul_assoc, Int.natCast_mul (m * 2 ^ u)]
  cases s
  · simpa using this
  · simp only [if_true]
    rw [Int.neg_mul, this]

theorem compare_signed (f : Format) (s t : Bool) (r q : Nat) : compare (signed s (magOf f r) 0) (signed t (magOf f q) 0) = compare (if s then -(r : Int) else r) (if t then -(q : Int) else q) := by
  have z : magOf f 0 = 0 := by unfold magOf; rw [if_pos (show 0 < f.binade from Nat.two_pow_pos _)]
  have hr : r = 0 ∧ magOf f r = 0 ∨ 0 < r ∧ 0 < magOf f r := by
    rcases Nat.eq_zero_or_pos r with h | h
    · subst h; exact .inl ⟨rfl, z⟩
    · have := magOf_lt f h; exact .inr ⟨h, by omega⟩
  have hq : q = 0 ∧ magOf f q = 0 ∨ 0 < q ∧ 0 < magOf f q := by
    rcases Nat.eq_zero_or_pos q with h | h
    · subst h; exact .inl ⟨rfl, z⟩
    · have := magOf_lt f h; exact .inr ⟨h, by omega⟩
  have l1 := @magOf_lt_iff f r q
  have l2 := @magOf_lt_iff f q r
  generalize magOf f r = x at *
  generalize magOf f q = y at *
  have key : ∀ a b c d : Int, (a < b ↔ c < d) → (b < a ↔ d < c) → compare a b = compare c d := by
    intro a b c d h1 h2
    rcases Int.lt_trichotomy a b with h | h | h
    · rw [Int.compare_eq_lt.2 h, Int.compare_eq_lt.2 (h1.1 h)]
    · have : c = d := by
        rcases Int.lt_trichotomy c d with h' | h' | h'
        · have := h1.2 h'; omega
        · exact h'
        · have := h2.2 h'; omega
      rw [h, this]; simp
    · rw [Int.compare_eq_gt.2 h, Int.compare_eq_gt.2 (h2.1 h)]
  unfold signed
  simp only [shl_eq, Nat.pow_zero, Nat.mul_one]
  apply key <;> cases s <;> cases t <;> simp <;> omega

/-- HOW TWO STAND TO EACH OTHER IS HOW THEIR SIGNED RUNGS DO. -/
theorem order_key (k : FloatKind) {a b : Nat} (ha : isN k a = false) (hb : isN k b = false) : k.format.order a b = some (compare (key k.format a) (key k.format b)) := by
  have hw : ¬ k.format.infRung < k.format.binade := by cases k <;> decide
  have ha' : ¬ k.format.infRung < rung k.format a := fun h => by rw [(isN_iff k a).2 h] at ha; cases ha
  have hb' : ¬ k.format.infRung < rung k.format b := fun h => by rw [(isN_iff k b).2 h] at hb; cases hb
  unfold Format.order key
  rcases read_cases k.format a with ⟨h1, m, p, e1, v1⟩ | ⟨h1, _, e1⟩ | ⟨h1, _⟩ | h1
  · rcases read_cases k.format b with ⟨h2, n, q, e2, v2⟩ | ⟨h2, _, e2⟩ | ⟨h2, _⟩ | h2
    · rw [e1, e2]
      unfold Datum.order
      simp only
      congr 1
      rw [← compare_mul (c := 2 ^ (min (k.format.leastPlace + (p : Int)) (k.format.leastPlace + (q : Int)) - k.format.leastPlace).toNat) (Nat.two_pow_pos _), signed_mul, signed_mul]
      have w1 : (k.format.leastPlace + (p : Int) - min (k.format.leastPlace + (p : Int)) (k.format.leastPlace + (q : Int))).toNat + (min (k.format.leastPlace + (p : Int)) (k.format.leastPlace + (q : Int)) - k.format.leastPlace).toNat = p := by omega
      have w2 : (k.format.leastPlace + (q : Int) - min (k.format.leastPlace + (p : Int)) (k.format.leastPlace + (q : Int))).toNat + (min (k.format.leastPlace + (p : Int)) (k.format.leastPlace + (q : Int)) - k.format.leastPlace).toNat = q := by omega
      rw [w1, w2, v1, v2]
      exact compare_signed _ _ _ _ _
    · rw [e1, e2]
      unfold Datum.order
      simp only
      congr 1
      cases sgn k.format b
      · simp only [Bool.false_eq_true, if_false]
        symm; rw [Int.compare_eq_lt]; split <;> omega
      · simp only [if_true]
        symm; rw [Int.compare_eq_gt]; split <;> omega
    · exact absurd h2 hb'
    · exact absurd h2 hw
  · rcases read_cases k.format b with ⟨h2, n, q, e2, v2⟩ | ⟨h2, _, e2⟩ | ⟨h2, _⟩ | h2
    · rw [e1, e2]
      unfold Datum.order
      simp only
      congr 1
      cases sgn k.format a
      · simp only [Bool.false_eq_true, if_false]
        symm; rw [Int.compare_eq_gt]; split <;> omega
      · simp only [if_true]
        symm; rw [Int.compare_eq_lt]; split <;> omega
    · rw [e1, e2]
      unfold Datum.order
      simp only
      congr 1
      have hp : 0 < k.format.infRung := by cases k <;> decide
      cases sgn k.format a <;> cases sgn k.format b <;> simp only [Bool.false_eq_true, if_false, if_true, h1, h2]
      · simp
      · symm; show _ = Ordering.gt; rw [Int.compare_eq_gt]; omega
      · symm; show _ = Ordering.lt; rw [Int.compare_eq_lt]; omega
      · simp
    · exact absurd h2 hb'
    · exact absurd h2 hw
  · exact absurd h1 ha'
  · exact absurd h1 hw
end Go.Proofs.Ytabhjnpmmjmaiab
