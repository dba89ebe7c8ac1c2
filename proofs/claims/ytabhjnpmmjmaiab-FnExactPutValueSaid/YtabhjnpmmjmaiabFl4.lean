/- Facts on single words: zeros, subnormal numbers, signs, infinities, and a 32-bit number as a 64-bit one. Conditions: none beyond those of each theorem. -/
import Derived.Test.YtabhjnpmmjmaiabFl3
namespace Go.Proofs.Ytabhjnpmmjmaiab
open Go Ieee

theorem isN_false {k : FloatKind} {b : Nat} (h : isN k b = false) : rung k.format b ≤ k.format.infRung := by
  rcases Nat.lt_or_ge k.format.infRung (rung k.format b) with a | a
  · rw [(isN_iff k b).2 a] at h; cases h
  · exact a

theorem isN_of_le {k : FloatKind} {b : Nat} (h : rung k.format b ≤ k.format.infRung) : isN k b = false := by
  cases hb : isN k b
  · rfl
  · have := (isN_iff k b).1 hb; omega

theorem order_nan_left {k : FloatKind} {a b : Nat} (h : isN k a = true) : k.format.order a b = none := by
  rw [order_canon, canon_none.2 h]; rfl
theorem order_nan_right {k : FloatKind} {a b : Nat} (h : isN k b = true) : k.format.order a b = none := by
  rw [order_canon, canon_none.2 h]; cases canon k a <;> rfl

theorem cmp_lt (k : FloatKind) {a b : Nat} (ha : isN k a = false) (hb : isN k b = false) : (k.format.order a b == some .lt) = decide (key k.format a < key k.format b) := by
  rw [order_key k ha hb, Bool.eq_iff_iff]
  simp only [beq_iff_eq, Option.some.injEq, decide_eq_true_eq, Int.compare_eq_lt]
theorem cmp_gt (k : FloatKind) {a b : Nat} (ha : isN k a = false) (hb : isN k b = false) : (k.format.order a b == some .gt) = decide (key k.format b < key k.format a) := by
  rw [order_key k ha hb, Bool.eq_iff_iff]
  simp only [beq_iff_eq, Option.some.injEq, decide_eq_true_eq, Int.compare_eq_gt]
theorem cmp_eq (k : FloatKind) {a b : Nat} (ha : isN k a = false) (hb : isN k b = false) : (k.format.order a b == some .eq) = decide (key k.format a = key k.format b) := by
  rw [order_key k ha hb, Bool.eq_iff_iff]
  simp only [beq_iff_eq, Option.some.injEq, decide_eq_true_eq, Int.compare_eq_eq]
theorem cmp_ne (k : FloatKind) {a b : Nat} (ha : isN k a = false) (hb : isN k b = false) : (k.format.order a b != some .eq) = decide (key k.format a ≠ key k.format b) := by
  rw [order_key k ha hb, Bool.eq_iff_iff]
  simp only [bne_iff_ne, ne_eq, Option.some.injEq, decide_eq_true_eq, Int.compare_eq_eq]

/-- x - x is +0 where x is finite, and a NaN elsewhere. -/
theorem sub_self_canon (k : FloatKind) (b : Nat) : fop .sub k (canon k b) (canon k b) = if rung k.format b < k.format.infRung then some 0 else none := by
  rw [← floatBits_canon]
  have hw : ¬ k.format.infRung < k.format.binade := by cases k <;> decide
  unfold floatBits Format.sub
  simp only
  rcases read_cases k.format b with ⟨h, m, p, e, _⟩ | ⟨h, _, e⟩ | ⟨h, e⟩ | h
  · rw [e, if_pos h]
    simp only [Datum.opposite, Datum.sum, Option.map_some, Option.some.injEq]
    rw [show min (k.format.leastPlace + (p : Int)) (k.format.leastPlace + (p : Int)) = k.format.leastPlace + (p : Int) by omega]
    have z : signed (sgn k.format b) m (k.format.leastPlace + (p : Int) - (k.format.leastPlace + (p : Int))).toNat + signed (!sgn k.format b) m (k.format.leastPlace + (p : Int) - (k.format.leastPlace + (p : Int))).toNat = 0 := by
      unfold signed; cases sgn k.format b <;> simp <;> omega
    rw [z]
    simp only [if_true, Int.natAbs_zero]
    have : (sgn k.format b && !sgn k.format b) = false := by cases sgn k.format b <;> rfl
    rw [this]
    show k.format.nearest false 0 _ = 0
    unfold Format.nearest; rw [if_pos rfl]; rfl
  · rw [e, if_neg (by omega)]
    cases sgn k.format b <;> rfl
  · rw [e, if_neg (by omega)]; rfl
  · exact absurd h hw

theorem canon_zero (k : FloatKind) : canon k 0 = some 0 := by cases k <;> rfl

/-- what 'x - x == 0' answers -/
theorem finite_test (k : FloatKind) {b v : Nat} (h : canon k v = fop .sub k (canon k b) (canon k b)) : (k.format.order v 0 == some .eq) = decide (rung k.format b < k.format.infRung) := by
  rw [sub_self_canon] at h
  rw [order_canon, h, canon_zero]
  by_cases hf : rung k.format b < k.format.infRung
  · rw [if_pos hf, decide_eq_true hf]; cases k <;> rfl
  · rw [if_neg hf, decide_eq_false hf]; rfl

/-! ### A 32-bit number as a 64-bit one: its sign and its kind are kept -/

theorem widen_facts {b v : Nat} (h : canon .f64 v = fconv .f32 .f64 (canon .f32 b)) (hn : isN .f32 b = false) :
    isN .f64 v = false ∧ sgn Ieee.double v = sgn Ieee.single b ∧ (rung Ieee.double v < Ieee.double.infRung ↔ rung Ieee.single b < Ieee.single.infRung) ∧ (rung Ieee.double v = 0 ↔ rung Ieee.single b = 0) := by
  have hn' : (FloatKind.f32.decode b).isNaN = false := hn
  have hv := fits_widen b
  rw [canon_of_not hn'] at h
  have hs : (floatToFloatBits .f32 b .f64).isSome = true := by
    rcases hv with hv | hv | hv
    · cases hv
    · rw [hn'] at hv; cases hv
    · exact hv
  obtain ⟨r, hr⟩ := Option.isSome_iff_exists.1 hs
  have h' : canon .f64 v = some r := h.trans hr
  obtain ⟨rfl, hnv⟩ := canon_some h'
  refine ⟨hnv, ?_⟩
  unfold floatToFloatBits at hr
  rw [if_neg (by decide)] at hr
  have hd : FloatKind.f32.decode b = Ieee.single.read b := rfl
  rw [hd] at hr hn'
  rcases read_cases Ieee.single b with ⟨h1, m, p, e, v1⟩ | ⟨h1, _, e⟩ | ⟨h1, e⟩ | h1
  · rw [e] at hr
    simp only at hr
    split at hr
    · cases hr
    · cases hr
      have hb := read_bounds e
      by_cases h0 : m = 0
      · subst h0
        have z : FloatKind.f64.encode (.number (sgn Ieee.single b) 0 (Ieee.single.leastPlace + (p : Int))) = Ieee.double.word (sgn Ieee.single b) 0 := rfl
        have r0 : rung Ieee.single b = 0 := by
          rw [Nat.zero_mul] at v1
          rcases Nat.eq_zero_or_pos (rung Ieee.single b) with q | q
          · exact q
          · have := magOf_lt Ieee.single q; omega
        obtain ⟨g1, g2⟩ := word_split Ieee.double (sgn Ieee.single b) (r := 0) (by decide)
        rw [z]
        exact ⟨g2, ⟨fun _ => h1, fun _ => by rw [show rung Ieee.double (Ieee.double.word (sgn Ieee.single b) 0) = 0 from g1]; decide⟩, ⟨fun _ => r0, fun _ => g1⟩⟩
      · have hw := widen_read (sgn Ieee.single b) h0 (e := Ieee.single.leastPlace + (p : Int)) (by have : Ieee.single.binade = 2 ^ 23 := rfl; omega) (by have : Ieee.single.leastPlace = -149 := rfl; omega) (by have : Ieee.single.leastPlace = -149 := rfl; have : Ieee.single.infRung / Ieee.single.binade = 255 := rfl; omega)
        have z : FloatKind.f64.encode (.number (sgn Ieee.single b) m (Ieee.single.leastPlace + (p : Int))) = Ieee.double.nearest (sgn Ieee.single b) m (Ieee.single.leastPlace + (p : Int)) := rfl
        rw [z]
        generalize Ieee.double.nearest (sgn Ieee.single b) m (Ieee.single.leastPlace + (p : Int)) = r at *
        have r0 : rung Ieee.single b ≠ 0 := by
          intro q
          have : magOf Ieee.single 0 = 0 := rfl
          rw [q, this] at v1
          have := Nat.two_pow_pos p
          rcases Nat.mul_eq_zero.1 v1 with q' | q' <;> omega
        rcases read_cases Ieee.double r with ⟨g1, m', p', e', v'⟩ | ⟨g1, _, e'⟩ | ⟨g1, e'⟩ | g1
        · rw [e'] at hw
          injection hw with w1 w2 w3
          refine ⟨w1, ⟨fun _ => h1, fun _ => g1⟩, ⟨fun q => ?_, fun q => absurd q r0⟩⟩
          exfalso
          have : magOf Ieee.double 0 = 0 := rfl
          rw [q, this, w2] at v'
          have := Nat.two_pow_pos p'
          have := Nat.two_pow_pos (52 - m.log2)
          rcases Nat.mul_eq_zero.1 v' with q' | q'
          · rcases Nat.mul_eq_zero.1 q' with q'' | q'' <;> omega
          · omega
        · rw [e'] at hw; cases hw
        · rw [e'] at hw; cases hw
        · exact absurd g1 (by decide)
  · rw [e] at hr
    cases hr
    have z : FloatKind.f64.encode (.infinity (sgn Ieee.single b)) = Ieee.double.word (sgn Ieee.single b) Ieee.double.infRung := rfl
    obtain ⟨g1, g2⟩ := word_split Ieee.double (sgn Ieee.single b) Ieee.double.infRung_lt
    rw [z]
    have hi : (0 : Nat) < Ieee.double.infRung := by decide
    have hj : (0 : Nat) < Ieee.single.infRung := by decide
    have g1' : rung Ieee.double (Ieee.double.word (sgn Ieee.single b) Ieee.double.infRung) = Ieee.double.infRung := g1
    rw [g1']
    exact ⟨g2, ⟨fun q => by omega, fun q => by omega⟩, ⟨fun q => by omega, fun q => by omega⟩⟩
  · rw [e] at hn'; cases hn'
  · exact absurd h1 (by decide)

/-! ### Bits of a word -/

theorem i64_and_nat (a b : Nat) (ha : a < 9223372036854775808) : bits .and .i64 (a : Int) (b : Int) = ((a &&& b % 18446744073709551616 : Nat) : Int) := by
  have hx : a &&& b % 18446744073709551616 ≤ a := Nat.and_le_left
  show IntKind.i64.wrap ((BitVec.ofInt 64 (a : Int) &&& BitVec.ofInt 64 (b : Int)).toNat : Int) = _
  rw [BitVec.toNat_and, ofInt_u64 a (by omega)]
  have : (BitVec.ofInt 64 (b : Int)).toNat = b % 18446744073709551616 := by rw [BitVec.ofInt_natCast, BitVec.toNat_ofNat]
  rw [this, IntWalk.i64_in]
  omega

theorem and_exponent (b : Nat) : b &&& 2139095040 = b / 8388608 % 256 * 8388608 := by
  have e : (2139095040 : Nat) = 255 <<< 23 := by decide
  rw [e]
  have h : b &&& 255 <<< 23 = (b >>> 23 &&& 255) <<< 23 := by
    apply Nat.eq_of_testBit_eq
    intro i
    simp only [Nat.testBit_and, Nat.testBit_shiftLeft, Nat.testBit_shiftRight]
    by_cases hi : 23 ≤ i
    · simp [hi]
    · simp [hi]
  rw [h, nat_mask8, Nat.shiftRight_eq_div_pow, Nat.shiftLeft_eq]
end Go.Proofs.Ytabhjnpmmjmaiab
