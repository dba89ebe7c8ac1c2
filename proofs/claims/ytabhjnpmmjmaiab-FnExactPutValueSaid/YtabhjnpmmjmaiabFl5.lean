/- Which 64-bit numbers have a 32-bit one beside them; square roots. Conditions: none beyond those of each theorem. -/
import Derived.Test.YtabhjnpmmjmaiabFl4
namespace Go.Proofs.Ytabhjnpmmjmaiab
open Go Ieee

theorem magOf_pow (q : Nat) : magOf Ieee.double ((q + 1) * 2 ^ 52) = 2 ^ 52 * 2 ^ q := by
  have b : Ieee.double.binade = 2 ^ 52 := rfl
  have hp : 0 < 2 ^ 52 := Nat.two_pow_pos 52
  unfold magOf
  rw [b, if_neg (by omega), Nat.mul_mod_left, Nat.mul_div_cancel _ hp]
  rfl

theorem mag_bound (q : Nat) {r : Nat} (h : r < (q + 1) * 2 ^ 52) : magOf Ieee.double r < 2 ^ (52 + q) := by
  have := magOf_lt Ieee.double h
  rw [magOf_pow] at this
  rw [Nat.pow_add]; exact this

theorem log_bound {m p q : Nat} (h0 : m ≠ 0) (h : m * 2 ^ p < 2 ^ (52 + q)) : m.log2 + p < 52 + q := by
  have h2 : 2 ^ m.log2 ≤ m := Nat.log2_self_le h0
  have : 2 ^ (m.log2 + p) < 2 ^ (52 + q) := by
    rw [Nat.pow_add 2 m.log2]; exact Nat.lt_of_le_of_lt (Nat.mul_le_mul_right _ h2) h
  exact (Nat.pow_lt_pow_iff_right (by omega)).1 this

/-- A 64-bit number below 2 ^ 127 is not too great for 32 bits. -/
theorem fits_narrow {v : Nat} (h : rung Ieee.double v < 1150 * 2 ^ 52) : fits .f64 .f32 v := by
  have hi : (1150 * 2 ^ 52 : Nat) < Ieee.double.infRung := by decide
  refine .inr (.inr ?_)
  unfold floatToFloatBits
  rw [if_neg (by decide)]
  have : FloatKind.f64.decode v = Ieee.double.read v := rfl
  rw [this]
  rcases read_cases Ieee.double v with ⟨h1, m, p, e, v1⟩ | ⟨h1, _, e⟩ | ⟨h1, e⟩ | h1
  · rw [e]
    simp only
    by_cases h0 : m = 0
    · subst h0
      have z : FloatKind.f32.encode (.number (sgn Ieee.double v) 0 (Ieee.double.leastPlace + (p : Int))) = Ieee.single.word (sgn Ieee.double v) 0 := rfl
      rw [z]; cases sgn Ieee.double v <;> rfl
    · have hl := log_bound (q := 1149) h0 (by rw [v1]; exact mag_bound 1149 h)
      have lp : Ieee.double.leastPlace = -1074 := rfl
      have sp : Ieee.single.leastPlace = -149 := rfl
      have sf : (Ieee.single.fractionBits : Int) = 23 := rfl
      have hr := rungOf_le Ieee.single (m := m) (Ieee.double.leastPlace + (p : Int)) 127 (by omega) (by rw [sp, sf]; omega)
      have hlt : rungOf Ieee.single m (Ieee.double.leastPlace + (p : Int)) < Ieee.single.infRung := Nat.lt_of_le_of_lt hr (by decide)
      have z : FloatKind.f32.encode (.number (sgn Ieee.double v) m (Ieee.double.leastPlace + (p : Int))) = Ieee.single.word (sgn Ieee.double v) (rungOf Ieee.single m (Ieee.double.leastPlace + (p : Int))) := by
        show Ieee.single.nearest _ _ _ = _
        rw [nearest_rung _ _ h0, Nat.min_eq_left (Nat.le_of_lt hlt)]
      rw [z]
      have : (FloatKind.f32.decode (Ieee.single.word (sgn Ieee.double v) (rungOf Ieee.single m (Ieee.double.leastPlace + (p : Int))))).isInfinity = false := by
        show (Ieee.single.read _).isInfinity = false
        rw [read_word _ _ hlt]; split <;> rfl
      rw [this]; rfl
  · omega
  · omega
  · exact absurd h1 (by decide)

/-- what narrowing needs, whether the number is finite or not -/
def narrows (v : Nat) : Prop := rung Ieee.double v < 1150 * 2 ^ 52 ∨ Ieee.double.infRung ≤ rung Ieee.double v

theorem fits_narrows {v : Nat} (h : narrows v) : fits .f64 .f32 v := by
  rcases h with h | h
  · exact fits_narrow h
  · rcases Nat.eq_or_lt_of_le h with e | e
    · refine .inr (.inr ?_)
      unfold floatToFloatBits
      rw [if_neg (by decide)]
      have : FloatKind.f64.decode v = Ieee.double.read v := rfl
      rw [this]
      rcases read_cases Ieee.double v with ⟨h1, _⟩ | ⟨h1, _, e'⟩ | ⟨h1, _⟩ | h1
      · omega
      · rw [e']; rfl
      · omega
      · exact absurd h1 (by decide)
    · exact .inr (.inl ((isN_iff .f64 v).2 e))

theorem rootFrom_sq (n : Nat) : ∀ t r, r * r ≤ n → Datum.rootFrom n t r * Datum.rootFrom n t r ≤ n
  | 0, _, h => h
  | t + 1, r, h => by
    unfold Datum.rootFrom
    simp only
    split
    · rename_i g; exact rootFrom_sq n t _ g
    · exact rootFrom_sq n t _ h

def fsqrt : Option Nat → Option Nat
  | some b => FloatKind.f64.format.sqrt b
  | none => none

theorem sqrt_canon (b : Nat) : FloatKind.f64.format.sqrt b = fsqrt (canon .f64 b) := by
  by_cases h : (FloatKind.f64.decode b).isNaN = true
  · rw [canon_none.2 h]
    obtain ⟨s, t, e⟩ := isNaN_form _ h
    have e' : FloatKind.f64.format.read b = .nan s t := e
    simp [Format.sqrt, e', Datum.root, fsqrt]
  · rw [canon_of_not (by simpa using h)]; rfl

theorem sqrt_notNaN {b r : Nat} (h : FloatKind.f64.format.sqrt b = some r) : (FloatKind.f64.decode r).isNaN = false := by
  unfold Format.sqrt at h
  cases hd : (FloatKind.f64.format.read b).root (FloatKind.f64.format.fractionBits + 2) with
  | none => rw [hd] at h; cases h
  | some d => rw [hd] at h; cases h; exact write_notNaN .f64 (root_notNaN hd)

theorem rung_word (f : Format) (s : Bool) {r : Nat} (h : r < f.signWeight) : rung f (f.word s r) = r := (word_split f s h).1
theorem sgn_word (f : Format) (s : Bool) {r : Nat} (h : r < f.signWeight) : sgn f (f.word s r) = s := (word_split f s h).2

/-- The root of a number below 2 ^ 200 can be narrowed. -/
theorem sqrt_narrows {b r : Nat} (hb : rung Ieee.double b < 1223 * 2 ^ 52 ∨ Ieee.double.infRung ≤ rung Ieee.double b) (h : FloatKind.f64.format.sqrt b = some r) : narrows r := by
  have hi : (1223 * 2 ^ 52 : Nat) < Ieee.double.infRung := by decide
  have e0 : FloatKind.f64.format = Ieee.double := rfl
  unfold Format.sqrt at h
  rw [e0] at h
  rcases read_cases Ieee.double b with ⟨h1, m, p, e, v1⟩ | ⟨h1, _, e⟩ | ⟨h1, e⟩ | h1
  · rw [e] at h
    unfold Datum.root at h
    simp only at h
    by_cases h0 : m = 0
    · rw [if_pos h0] at h
      subst h0
      have h' : some (Ieee.double.word (sgn Ieee.double b) 0) = some r := h
      injection h' with h'
      rw [← h']
      refine .inl ?_
      rw [rung_word _ _ (by decide)]; decide
    · rw [if_neg h0] at h
      by_cases hs : sgn Ieee.double b = true
      · rw [hs] at h; cases h
      · have hs' : sgn Ieee.double b = false := by simpa using hs
        rw [hs'] at h
        simp only [Bool.false_eq_true, if_false] at h
        have hb' : rung Ieee.double b < 1223 * 2 ^ 52 := by omega
        have hl := log_bound (q := 1222) h0 (by rw [v1]; exact mag_bound 1222 hb')
        have lp : Ieee.double.leastPlace = -1074 := rfl
        have fb : (Ieee.double.fractionBits : Int) = 52 := rfl
        have fb' : Ieee.double.fractionBits = 52 := rfl
        generalize hmore : (2 * (Ieee.double.fractionBits + 2) - m.log2) + ((Ieee.double.leastPlace + (p : Int) - ((2 * (Ieee.double.fractionBits + 2) - m.log2 : Nat) : Int)) % 2).toNat = more at h
        generalize hn : m <<< more = n at h
        have hsq := rootFrom_sq n (n.log2 / 2 + 1) 0 (by omega)
        generalize Datum.rootFrom n (n.log2 / 2 + 1) 0 = whole at h hsq
        generalize hM : 2 * whole + (whole * whole != n).toNat = M at h
        have hML : M.log2 ≤ (m.log2 + more) / 2 + 1 := by
          by_cases hM0 : M = 0
          · subst hM0; simp
          · have hb1 : (whole * whole != n).toNat ≤ 1 := by cases (whole * whole != n) <;> simp
            have hn2 : n < 2 ^ (m.log2 + more + 1) := by
              rw [← hn, shl_eq, show m.log2 + more + 1 = (m.log2 + 1) + more by omega, Nat.pow_add]
              exact Nat.mul_lt_mul_of_pos_right Nat.lt_log2_self (Nat.two_pow_pos _)
            have hw : whole < 2 ^ ((m.log2 + more) / 2 + 1) := by
              rcases Nat.lt_or_ge whole (2 ^ ((m.log2 + more) / 2 + 1)) with q | q
              · exact q
              · exfalso
                have := Nat.mul_le_mul q q
                rw [← Nat.pow_add] at this
                have := Nat.pow_le_pow_right (n := 2) (by omega) (show m.log2 + more + 1 ≤ (m.log2 + more) / 2 + 1 + ((m.log2 + more) / 2 + 1) by omega)
                omega
            have : M < 2 ^ ((m.log2 + more) / 2 + 2) := by
              rw [show (m.log2 + more) / 2 + 2 = ((m.log2 + more) / 2 + 1) + 1 by omega, Nat.pow_succ]; omega
            have := (Nat.log2_lt hM0).2 this
            omega
        have hplace : (Ieee.double.leastPlace + (p : Int) - (more : Int)) / 2 - 1 + (M.log2 : Int) < 126 := by omega
        have h' : some (Ieee.double.nearest false M ((Ieee.double.leastPlace + (p : Int) - (more : Int)) / 2 - 1)) = some r := h
        injection h' with h'
        rw [← h']
        refine .inl ?_
        by_cases hM0 : M = 0
        · unfold Format.nearest; rw [if_pos hM0, rung_word _ _ (by decide)]; decide
        · have hr := rungOf_le Ieee.double (m := M) ((Ieee.double.leastPlace + (p : Int) - (more : Int)) / 2 - 1) 126 hplace (by rw [lp, fb]; omega)
          have hlt : rungOf Ieee.double M ((Ieee.double.leastPlace + (p : Int) - (more : Int)) / 2 - 1) < 1150 * 2 ^ 52 := Nat.lt_of_le_of_lt hr (by decide)
          rw [nearest_rung _ _ hM0, Nat.min_eq_left (by omega), rung_word _ _ (by have := Ieee.double.infRung_lt; omega)]
          exact hlt
  · rw [e] at h
    cases hs : sgn Ieee.double b
    · rw [hs] at h
      have h' : some (Ieee.double.word false Ieee.double.infRung) = some r := h
      injection h' with h'
      rw [← h']
      refine .inr ?_
      rw [rung_word _ _ Ieee.double.infRung_lt]; exact Nat.le_refl _
    · rw [hs] at h; cases h
  · rw [e] at h; cases h
  · exact absurd h1 (by decide)

theorem rung_of_mag (q : Nat) {r : Nat} (h : magOf Ieee.double r < 2 ^ (52 + q)) : r < (q + 1) * 2 ^ 52 := by
  rw [Nat.pow_add, ← magOf_pow] at h
  exact (magOf_lt_iff _).1 h

/-- a 32-bit number, as a 64-bit one, is below 2 ^ 200 -/
theorem widen_bound {b v : Nat} (h : canon .f64 v = fconv .f32 .f64 (canon .f32 b)) : rung Ieee.double v < 1223 * 2 ^ 52 ∨ Ieee.double.infRung ≤ rung Ieee.double v := by
  by_cases hn : (FloatKind.f32.decode b).isNaN = true
  · rw [canon_none.2 hn] at h
    have : isN .f64 v = true := canon_none.1 h
    exact .inr (Nat.le_of_lt ((isN_iff .f64 v).1 this))
  · have hn' : (FloatKind.f32.decode b).isNaN = false := by simpa using hn
    have hv := fits_widen b
    rw [canon_of_not hn'] at h
    have hs : (floatToFloatBits .f32 b .f64).isSome = true := by
      rcases hv with hv | hv | hv
      · cases hv
      · rw [hn'] at hv; cases hv
      · exact hv
    obtain ⟨r, hr⟩ := Option.isSome_iff_exists.1 hs
    have h' : canon .f64 v = some r := h.trans hr
    obtain ⟨rfl, hnv⟩ := canon_some h'
    unfold floatToFloatBits at hr
    rw [if_neg (by decide)] at hr
    have hd : FloatKind.f32.decode b = Ieee.single.read b := rfl
    rw [hd] at hr hn'
    rcases read_cases Ieee.single b with ⟨h1, m, p, e, v1⟩ | ⟨h1, _, e⟩ | ⟨h1, e⟩ | h1
    · rw [e] at hr
      simp only at hr
      split at hr
      · cases hr
      · cases hr
        refine .inl ?_
        have hb := read_bounds e
        have lp : Ieee.single.leastPlace = -149 := rfl
        have bn : Ieee.single.binade = 2 ^ 23 := rfl
        have ib : Ieee.single.infRung / Ieee.single.binade = 255 := rfl
        by_cases h0 : m = 0
        · subst h0
          have z : FloatKind.f64.encode (.number (sgn Ieee.single b) 0 (Ieee.single.leastPlace + (p : Int))) = Ieee.double.word (sgn Ieee.single b) 0 := rfl
          rw [z, rung_word _ _ (by decide)]; decide
        · have hw := widen_read (sgn Ieee.single b) h0 (e := Ieee.single.leastPlace + (p : Int)) (by omega) (by omega) (by omega)
          have hl : m.log2 < 24 := (Nat.log2_lt h0).2 (by omega)
          have z : FloatKind.f64.encode (.number (sgn Ieee.single b) m (Ieee.single.leastPlace + (p : Int))) = Ieee.double.nearest (sgn Ieee.single b) m (Ieee.single.leastPlace + (p : Int)) := rfl
          rw [z]
          generalize Ieee.double.nearest (sgn Ieee.single b) m (Ieee.single.leastPlace + (p : Int)) = r at *
          rcases read_cases Ieee.double r with ⟨g1, m', p', e', v'⟩ | ⟨g1, _, e'⟩ | ⟨g1, e'⟩ | g1
          · rw [e'] at hw
            injection hw with w1 w2 w3
            have dl : Ieee.double.leastPlace = -1074 := rfl
            have key : ∀ q, q = 1222 → rung Ieee.double r < (q + 1) * 2 ^ 52 := by
             intro q hq
             apply rung_of_mag q
             rw [← v', w2]
             have a1 : m * 2 ^ (52 - m.log2) < 2 ^ 53 := by
               have : m < 2 ^ (m.log2 + 1) := Nat.lt_log2_self
               calc m * 2 ^ (52 - m.log2) < 2 ^ (m.log2 + 1) * 2 ^ (52 - m.log2) := Nat.mul_lt_mul_of_pos_right this (Nat.two_pow_pos _)
                 _ = 2 ^ 53 := by rw [← Nat.pow_add]; congr 1; omega
             calc m * 2 ^ (52 - m.log2) * 2 ^ p' < 2 ^ 53 * 2 ^ p' := Nat.mul_lt_mul_of_pos_right a1 (Nat.two_pow_pos _)
               _ ≤ 2 ^ (52 + q) := by rw [← Nat.pow_add]; exact Nat.pow_le_pow_right (by omega) (by omega)
            exact key 1222 rfl
          · rw [e'] at hw; cases hw
          · rw [e'] at hw; cases hw
          · exact absurd g1 (by decide)
    · rw [e] at hr
      cases hr
      have z : FloatKind.f64.encode (.infinity (sgn Ieee.single b)) = Ieee.double.word (sgn Ieee.single b) Ieee.double.infRung := rfl
      rw [z, rung_word _ _ Ieee.double.infRung_lt]
      exact .inr (Nat.le_refl _)
    · rw [e] at hn'; cases hn'
    · exact absurd h1 (by decide)

theorem root_fits {b v r : Nat} (h : canon .f64 v = fconv .f32 .f64 (canon .f32 b)) (hr : canon .f64 r = fsqrt (canon .f64 v)) : fits .f64 .f32 r := by
  rw [← sqrt_canon] at hr
  cases hs : FloatKind.f64.format.sqrt v with
  | none =>
    rw [hs] at hr
    exact .inr (.inl (canon_none.1 hr))
  | some q =>
    rw [hs] at hr
    obtain ⟨rfl, _⟩ := canon_some hr
    exact fits_narrows (sqrt_narrows (widen_bound h) hs)

theorem conv_same {x y a b : Nat} {X : Option Nat} (h1 : RowKit.Hid (canon .f64 a = fconv .f32 .f64 (canon .f32 x))) (h2 : RowKit.Hid (canon .f64 b = fconv .f32 .f64 (canon .f32 y))) (h3 : RowKit.Hid (canon .f32 x = X)) (h4 : RowKit.Hid (canon .f32 y = X)) : canon .f64 a = canon .f64 b := by
  rw [h1.out, h2.out, h3.out, h4.out]

end Go.Proofs.Ytabhjnpmmjmaiab
