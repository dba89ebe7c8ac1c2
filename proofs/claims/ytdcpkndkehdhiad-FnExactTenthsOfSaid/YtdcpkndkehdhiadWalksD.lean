/- The walks of the laws on subnormal and flushed numbers and on roots. Conditions: none beyond those of each theorem. -/
import Derived.Test.YtdcpkndkehdhiadWalksC
namespace Go.Proofs.Ytdcpkndkehdhiad
open Go Ieee Go.RowKit

def subB (b : Nat) : Bool := decide (0 < rung Ieee.single b ∧ rung Ieee.single b < 8388608)

theorem infS : Ieee.single.infRung = 2139095040 := by decide

theorem sub_nan {b : Nat} (h : isN .f32 b = true) : subB b = false := by
  have := (isN_iff .f32 b).1 h
  have e : FloatKind.f32.format.infRung = 2139095040 := infS
  have e2 : FloatKind.f32.format = Ieee.single := rfl
  rw [e2] at this; rw [e2] at e
  unfold subB; rw [decide_eq_false]; omega

theorem key_zero_iff (f : Format) (b : Nat) : key f b = 0 ↔ rung f b = 0 := by
  unfold key; split <;> omega

/-- the exponent's bits are none just where the rung is small -/
theorem mask_test (b : Nat) (hb : b < 2 ^ 32) : (bits .and .i64 (bitsOf b) 2139095040 == 0) = decide (rung Ieee.single b < 8388608) := by
  have hr : rung Ieee.single b = b % 2147483648 := rfl
  unfold bitsOf
  by_cases hn : isN .f32 b = true
  · rw [if_pos hn]
    have := (isN_iff .f32 b).1 hn
    have e2 : FloatKind.f32.format = Ieee.single := rfl
    rw [e2, infS] at this
    rw [decide_eq_false (by omega)]
    decide
  · rw [if_neg hn]
    have hn' : isN .f32 b = false := by simpa using hn
    have := isN_false hn'
    have e2 : FloatKind.f32.format = Ieee.single := rfl
    rw [e2, infS] at this
    have e := i64_and_nat b 2139095040 (by omega)
    rw [show ((2139095040 : Nat) : Int) = 2139095040 from rfl, show (2139095040 % 18446744073709551616 : Nat) = 2139095040 from rfl, and_exponent] at e
    rw [e, Bool.eq_iff_iff]
    simp only [beq_iff_eq, decide_eq_true_eq]
    omega

/-! ### Flushed numbers -/

/-- the zero with a word's sign -/
def zeroLike (b : Nat) : Nat := if sgn Ieee.single b then 2147483648 else 0
def flushed (b : Nat) : Nat := if subB b then zeroLike b else b

theorem implCopy (v : Nat) (w : World) (hv : v < 2 ^ 64) : Calls Try.prog 69 #[.float .f64 0, .float .f64 v] w fun e w' => e = .returned (.float .f64 (if sgn Ieee.double v then 9223372036854775808 else 0)) ∧ w = w' := by
  have h1 : bits .andNot .u64 0 9223372036854775808 = 0 := by decide
  have h2 : bits .and .u64 (v : Int) 9223372036854775808 = ((if sgn Ieee.double v then 9223372036854775808 else 0 : Nat) : Int) := by
    have e := u64_and_nat v 9223372036854775808 hv (by omega)
    rw [show ((9223372036854775808 : Nat) : Int) = 9223372036854775808 from rfl] at e
    rw [e, show (9223372036854775808 : Nat) = 2 ^ 63 from rfl, nat_bit]
    have hs : sgn Ieee.double v = (v / 2 ^ 63 % 2 == 1) := rfl
    rw [hs]
    have : v / 2 ^ 63 % 2 = 0 ∨ v / 2 ^ 63 % 2 = 1 := by omega
    rcases this with q | q <;> rw [q] <;> rfl
  generalize hz : (if sgn Ieee.double v then 9223372036854775808 else 0 : Nat) = z at *
  have hz2 : z = 0 ∨ z = 9223372036854775808 := by
    rw [← hz]; split
    · exact .inr rfl
    · exact .inl rfl
  clear hz
  have h3 : bits .or .u64 0 (z : Int) = (z : Int) := by
    rcases hz2 with rfl | rfl <;> decide
  clear hz2
  go_enter Try.func69, Try.ntmps69
  go_wp2
  go_ret
  exact ⟨rfl, rfl⟩

theorem narrow_zero (s : Bool) (v : Nat) (h : canon .f32 v = fconv .f64 .f32 (canon .f64 (if s then 9223372036854775808 else 0))) : v = if s then 2147483648 else 0 := by
  cases s
  · have e : fconv .f64 .f32 (canon .f64 0) = some 0 := by rfl
    have h' : canon .f32 v = some 0 := h.trans e
    exact (canon_some h').1.symm
  · have e : fconv .f64 .f32 (canon .f64 9223372036854775808) = some 2147483648 := by rfl
    have h' : canon .f32 v = some 2147483648 := h.trans e
    exact (canon_some h').1.symm

theorem fits_zero (s : Bool) : fits .f64 .f32 (if s then 9223372036854775808 else 0) := by
  cases s <;> exact fits_narrow (by decide)

/-! ### Roots -/

theorem sqrt_eq (v : Nat) : Extern.MathSqrt.sqrt #[.float .f64 v] = (match FloatKind.f64.format.sqrt v with
    | some r => pure (.float .f64 r)
    | none => do pure (.float .f64 (← choose (.nanBits .f64 v v)))) := rfl

theorem upon_sqrt {o : Oper} {a : Act} {K : Act → World → Prop} {Q : Exit → Act → World → Prop} {w : World} (v : Nat)
    (h : ∀ r n, canon .f64 r = fsqrt (canon .f64 v) → r < 2 ^ 64 → K (a.put o.dst (.float .f64 r)) (w.drewN n)) : Oper.upon Try.prog o a K Q ((callFunc 70 #[.float .f64 v]).run Try.prog w) := by
  rw [run_callFunc_extern (e := Extern.MathSqrt.sqrt) Try.func70 (by kernel_rfl) (by kernel_rfl) (by kernel_rfl) (by kernel_rfl)]
  cases hs : FloatKind.f64.format.sqrt v with
  | some r =>
    have : (Extern.MathSqrt.sqrt #[.float .f64 v]).run Try.prog w = .ok (.float .f64 r) w := by
      rw [sqrt_eq, hs]; rfl
    rw [this]
    exact h r 0 (by rw [← sqrt_canon, hs]; exact canon_of_not (sqrt_notNaN hs)) (Ieee.double.sqrt_lt hs)
  | none =>
    have hq := nanCut .f64 (.nanBits .f64 v v) (w.tape w.drawn (.nanBits .f64 v v)) (.inl ⟨_, _, rfl⟩)
    have hf : (Question.nanBits .f64 v v).forced = false := hq.2.2
    have : (Extern.MathSqrt.sqrt #[.float .f64 v]).run Try.prog w = .ok (.float .f64 ((Question.nanBits .f64 v v).cut (w.tape w.drawn (.nanBits .f64 v v)))) (w.drewN 1) := by
      rw [sqrt_eq, hs]; simp [hf, World.drewN]
    rw [this]
    exact h _ 1 (by rw [← sqrt_canon, hs]; exact canon_none.2 hq.1) hq.2.1

theorem sqrtAny (v : Nat) (w : World) : Calls Try.prog 66 #[.float .f64 v] w fun e w' => ∃ r n, e = .returned (.float .f64 r) ∧ w' = w.drewN n ∧ canon .f64 r = fsqrt (canon .f64 v) ∧ r < 2 ^ 64 := by
  go_enter Try.func66, Try.ntmps66
  go_wp2_with (with_reducible refine upon_sqrt _ ?_; intro r n hc hr; have HC := Lib.hid hc; clear hc)
  go_ret
  exact ⟨_, _, rfl, rfl, HC.out, hr⟩

theorem specNarrow (v : Nat) (w : World) (hv : v < 2 ^ 64) (hf : fits .f64 .f32 v) : Calls Try.prog 49 #[.float .f64 v] w fun e w' => ∃ r n, e = .returned (.float .f32 r) ∧ w' = w.drewN n ∧ canon .f32 r = fconv .f64 .f32 (canon .f64 v) ∧ r < 2 ^ 32 := by
  go_enter Try.func49, Try.ntmps49
  go_wp2_with (refine wpList_conv rfl _ _ _ rfl .f64 .f32 (by decide) _ rfl Try.underlying22 Try.underlying28 hv hf ?_; intro r n hc hr; have HC := Lib.hid hc; clear hc)
  go_ret
  exact ⟨_, _, rfl, rfl, HC.out, hr⟩

theorem implNarrow (v : Nat) (w : World) (hv : v < 2 ^ 64) (hf : fits .f64 .f32 v) : Calls Try.prog 40 #[.float .f64 v] w fun e w' => ∃ r n, e = .returned (.float .f32 r) ∧ w' = w.drewN n ∧ canon .f32 r = fconv .f64 .f32 (canon .f64 v) ∧ r < 2 ^ 32 := by
  go_enter Try.func40, Try.ntmps40
  go_wp2_with (refine wpList_conv rfl _ _ _ rfl .f64 .f32 (by decide) _ rfl Try.underlying22 Try.underlying28 hv hf ?_; intro r n hc hr; have HC := Lib.hid hc; clear hc)
  go_ret
  exact ⟨_, _, rfl, rfl, HC.out, hr⟩
end Go.Proofs.Ytdcpkndkehdhiad
