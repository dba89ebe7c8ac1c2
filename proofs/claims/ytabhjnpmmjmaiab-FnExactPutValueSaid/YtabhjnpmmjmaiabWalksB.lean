/- The walks of the laws on finite, subnormal and flushed numbers and on roots. Conditions: none beyond those of each theorem. -/
import Derived.Test.YtabhjnpmmjmaiabWalksA
import Derived.Test.YtabhjnpmmjmaiabFl4
namespace Go.Proofs.Ytabhjnpmmjmaiab
open Go Ieee Go.RowKit

def finB (k : FloatKind) (b : Nat) : Bool := decide (rung k.format b < k.format.infRung)
def infB (k : FloatKind) (b : Nat) : Bool := decide (rung k.format b = k.format.infRung)

theorem andNot_sign (v : Nat) (hv : v < 2 ^ 64) : bits .andNot .u64 (v : Int) 9223372036854775808 = ((rung Ieee.double v : Nat) : Int) := by
  have := u64_andNot_nat v 9223372036854775808 hv (by omega)
  rw [show ((9223372036854775808 : Nat) : Int) = 9223372036854775808 from rfl] at this
  rw [this, show (18446744073709551615 - 9223372036854775808 : Nat) = 2 ^ 63 - 1 from rfl, Nat.and_two_pow_sub_one_eq_mod]; rfl

theorem rung_rung (f : Format) (v : Nat) : rung f (rung f v) = rung f v := Nat.mod_mod _ _
theorem sgn_rung (f : Format) (v : Nat) : sgn f (rung f v) = false := by
  unfold sgn rung; rw [Nat.div_eq_of_lt (Nat.mod_lt _ (signWeight_pos f))]; rfl
theorem key_rung (f : Format) (v : Nat) : key f (rung f v) = rung f v := by
  unfold key; rw [sgn_rung, rung_rung]; rfl

theorem inf_test (v : Nat) : (FloatKind.f64.format.order (rung Ieee.double v) 9218868437227405311 == some .gt) = infB .f64 v := by
  by_cases h : Ieee.double.infRung < rung Ieee.double v
  · have hn : isN .f64 (rung Ieee.double v) = true := (isN_iff .f64 _).2 (by show _ < rung Ieee.double (rung Ieee.double v); rw [rung_rung]; exact h)
    rw [order_nan_left hn]
    have : ¬ rung Ieee.double v = Ieee.double.infRung := by omega
    exact (decide_eq_false this).symm
  · have hn : isN .f64 (rung Ieee.double v) = false := isN_of_le (by show rung Ieee.double (rung Ieee.double v) ≤ _; rw [rung_rung]; exact Nat.le_of_not_lt h)
    have hm : isN .f64 9218868437227405311 = false := by decide
    have e : (FloatKind.f64.format.order (rung Ieee.double v) 9218868437227405311 == some .gt) = decide (key Ieee.double 9218868437227405311 < key Ieee.double (rung Ieee.double v)) := cmp_gt .f64 hn hm
    rw [e, key_rung]
    have k : key Ieee.double 9218868437227405311 = 9218868437227405311 := by decide
    have i : Ieee.double.infRung = 9218868437227405312 := by decide
    rw [k]
    show _ = decide (rung Ieee.double v = Ieee.double.infRung)
    rw [decide_eq_decide]
    omega

theorem finB_of (k : FloatKind) (v : Nat) : (!isN k v && !infB k v) = finB k v := by
  have := isN_iff k v
  unfold infB finB
  cases h : isN k v
  · have := isN_false h
    rw [Bool.eq_iff_iff]; simp; omega
  · have := (isN_iff k v).1 h
    rw [Bool.eq_iff_iff]; simp; omega

theorem finB_conv {b v : Nat} (h : canon .f64 v = fconv .f32 .f64 (canon .f32 b)) : finB .f64 v = finB .f32 b := by
  cases hn : isN .f32 b
  · obtain ⟨_, _, h3, _⟩ := widen_facts h hn
    unfold finB
    rw [decide_eq_decide]; exact h3
  · have hv : isN .f64 v = true := (isN_conv h (fits_widen _) (by decide)).trans hn
    have a1 := (isN_iff _ _).1 hn
    have a2 := (isN_iff _ _).1 hv
    unfold finB
    rw [decide_eq_false (by omega), decide_eq_false (by omega)]

end Go.Proofs.Ytabhjnpmmjmaiab
