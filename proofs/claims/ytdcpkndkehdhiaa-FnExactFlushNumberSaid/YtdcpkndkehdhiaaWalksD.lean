/- The walks of the laws on subnormal and flushed numbers and on roots. Conditions: none beyond those of each theorem. -/
import Derived.Test.YtdcpkndkehdhiaaWalksC
namespace Go.Proofs.Ytdcpkndkehdhiaa
open Go Ieee Go.RowKit

def subB (b : Nat) : Bool := decide (0 < rung Ieee.single b ∧ rung Ieee.single b < 8388608)

theorem infS : Ieee.single.infRung = 2139095040 := by decide

theorem sub_nan {b : Nat} (h : isN .f32 b = true) : subB b = false := by
  have := (isN_iff .f32 b).1 h
  have e : FloatKind.f32.format.infRung = 2139095040 := infS
  have e2 : FloatKind.f32.format = Ieee.single := rfl
  rw [e2] at this; rw [e2] at e
  unfold subB; rw [decide_eq_false]; omega

theorem key_zero_iff (f : Format) (b : Nat) : key f b = 0 ↔ rung f b = 0 := by
  unfold key; split <;> omega

theorem implSub (b : Nat) (w : World) : Calls Try.prog 23 #[.float .f32 b] w fun e w' => e = .returned (.bool (subB b)) ∧ w = w' := by
  by_cases hn : isN .f32 b = true
  · have t1 : (FloatKind.f32.format.order b 0 != some .eq) = true := by rw [order_nan_left hn]; rfl
    have t2 : (FloatKind.f32.format.order 2155872256 b == some .lt) = false := by rw [order_nan_right hn]; rfl
    have hs := sub_nan hn
    have HS := Lib.hid hs; clear hs
    go_enter Try.func23, Try.ntmps23
    go_wp2
    go_ret
    exact ⟨by rw [HS.out]; rfl, rfl⟩
  · have hn' : isN .f32 b = false := by simpa using hn
    have z0 : isN .f32 0 = false := by decide
    have z1 : isN .f32 2155872256 = false := by decide
    have z2 : isN .f32 8388608 = false := by decide
    have k0 : key FloatKind.f32.format 0 = 0 := by decide
    have k1 : key FloatKind.f32.format 2155872256 = -8388608 := by decide
    have k2 : key FloatKind.f32.format 8388608 = 8388608 := by decide
    have t1 := cmp_ne .f32 hn' z0
    have t2 := cmp_lt .f32 z1 hn'
    have t3 := cmp_lt .f32 hn' z2
    rw [k0] at t1
    rw [k1] at t2
    rw [k2] at t3
    clear z0 z1 z2 k0 k1 k2 hn
    have hk : key FloatKind.f32.format b = -(rung Ieee.single b : Int) ∨ key FloatKind.f32.format b = rung Ieee.single b := by
      show key Ieee.single b = _ ∨ key Ieee.single b = _
      unfold key; split
      · exact .inl rfl
      · exact .inr rfl
    by_cases c1 : rung Ieee.single b = 0
    · rw [decide_eq_false (by rcases hk with q | q <;> rw [q] <;> omega)] at t1
      have hs : subB b = false := by unfold subB; rw [decide_eq_false]; omega
      have HS := Lib.hid hs; clear hs hk t2 t3
      go_enter Try.func23, Try.ntmps23
      go_wp2
      go_ret
      exact ⟨by rw [HS.out]; rfl, rfl⟩
    · rw [decide_eq_true (by rcases hk with q | q <;> rw [q] <;> omega)] at t1
      by_cases c2 : -8388608 < key FloatKind.f32.format b
      · rw [decide_eq_true c2] at t2
        by_cases c3 : key FloatKind.f32.format b < 8388608
        · rw [decide_eq_true c3] at t3
          have hs : subB b = true := by unfold subB; rw [decide_eq_true]; rcases hk with q | q <;> rw [q] at c2 c3 <;> omega
          have HS := Lib.hid hs; clear hs hk c2 c3
          go_enter Try.func23, Try.ntmps23
          go_wp2
          go_ret
          exact ⟨by rw [HS.out]; rfl, rfl⟩
        · rw [decide_eq_false c3] at t3
          have hs : subB b = false := by unfold subB; rw [decide_eq_false]; rcases hk with q | q <;> rw [q] at c2 c3 <;> omega
          have HS := Lib.hid hs; clear hs hk c2 c3
          go_enter Try.func23, Try.ntmps23
          go_wp2
          go_ret
          exact ⟨by rw [HS.out]; rfl, rfl⟩
      · rw [decide_eq_false c2] at t2
        have hs : subB b = false := by unfold subB; rw [decide_eq_false]; rcases hk with q | q <;> rw [q] at c2 <;> omega
        have HS := Lib.hid hs; clear hs hk c2 t3
        go_enter Try.func23, Try.ntmps23
        go_wp2
        go_ret
        exact ⟨by rw [HS.out]; rfl, rfl⟩

/-- the exponent's bits are none just where the rung is small -/
theorem mask_test (b : Nat) (hb : b < 2 ^ 32) : (bits .and .i64 (bitsOf b) 2139095040 == 0) = decide (rung Ieee.single b < 8388608) := by
  have hr : rung Ieee.single b = b % 2147483648 := rfl
  unfold bitsOf
  by_cases hn : isN .f32 b = true
  · rw [if_pos hn]
    have := (isN_iff .f32 b).1 hn
    have e2 : FloatKind.f32.format = Ieee.single := rfl
    rw [e2, infS] at this
    rw [decide_eq_false (by omega)]
    decide
  · rw [if_neg hn]
    have hn' : isN .f32 b = false := by simpa using hn
    have := isN_false hn'
    have e2 : FloatKind.f32.format = Ieee.single := rfl
    rw [e2, infS] at this
    have e := i64_and_nat b 2139095040 (by omega)
    rw [show ((2139095040 : Nat) : Int) = 2139095040 from rfl, show (2139095040 % 18446744073709551616 : Nat) = 2139095040 from rfl, and_exponent] at e
    rw [e, Bool.eq_iff_iff]
    simp only [beq_iff_eq, decide_eq_true_eq]
    omega

theorem specSub (b : Nat) (w : World) (hb : b < 2 ^ 32) : Calls Try.prog 22 #[.float .f32 b] w fun e w' => e = .returned (.bool (subB b)) ∧ w = w' := by
  have tm := mask_test b hb
  by_cases hz : isN .f32 b = false ∧ rung Ieee.single b = 0
  · have t1 : (FloatKind.f32.format.order b 0 != some .eq) = false := by
      rw [cmp_ne .f32 hz.1 (show isN .f32 0 = false by decide), decide_eq_false]
      rw [show key FloatKind.f32.format 0 = 0 by decide, show FloatKind.f32.format = Ieee.single from rfl]; intro h; exact h ((key_zero_iff _ _).2 hz.2)
    have hs : subB b = false := by unfold subB; rw [decide_eq_false]; omega
    have HS := Lib.hid hs; clear hs hz tm
    go_enter Try.func22, Try.ntmps22
    go_wp2
    go_ret
    exact ⟨by rw [HS.out]; rfl, rfl⟩
  · have t1 : (FloatKind.f32.format.order b 0 != some .eq) = true := by
      cases hn : isN .f32 b
      · rw [cmp_ne .f32 hn (show isN .f32 0 = false by decide), decide_eq_true]
        rw [show key FloatKind.f32.format 0 = 0 by decide, show FloatKind.f32.format = Ieee.single from rfl]
        intro hk; exact hz ⟨hn, (key_zero_iff _ _).1 hk⟩
      · rw [order_nan_left hn]; rfl
    have hs : subB b = decide (rung Ieee.single b < 8388608) := by
      unfold subB
      rw [decide_eq_decide]
      cases hn : isN .f32 b
      · have : rung Ieee.single b ≠ 0 := fun h => hz ⟨hn, h⟩
        omega
      · have := (isN_iff .f32 b).1 hn
        rw [show FloatKind.f32.format = Ieee.single from rfl, infS] at this
        omega
    rw [← hs] at tm
    have HS := Lib.hid hs; clear hs hz
    go_enter Try.func22, Try.ntmps22
    go_wp2_with (go_at_call 31; refine (specBits _ _ hb).mono ?_; rintro e w' ⟨rfl, rfl⟩)
    go_ret
    exact ⟨rfl, rfl⟩

theorem fnExactIsSubnormal_walk (b : Nat) (w : World) (hb : b < 2 ^ 32) :
    Calls Try.prog 8 #[.float .f32 b] w fun e w' => e = .returned (.bool true) ∧ Below w.heap.size w w' := by
  go_enter Try.func8, Try.ntmps8
  go_wp2_with (first | (go_at_call 22; refine (specSub _ _ hb).mono ?_; rintro e w' ⟨rfl, rfl⟩) | (go_at_call 23; refine (implSub _ _).mono ?_; rintro e w' ⟨rfl, rfl⟩))
  go_ret
  exact ⟨rfl, Below.refl _ _⟩

/-! ### Flushed numbers -/

/-- the zero with a word's sign -/
def zeroLike (b : Nat) : Nat := if sgn Ieee.single b then 2147483648 else 0
def flushed (b : Nat) : Nat := if subB b then zeroLike b else b

theorem implCopy (v : Nat) (w : World) (hv : v < 2 ^ 64) : Calls Try.prog 39 #[.float .f64 0, .float .f64 v] w fun e w' => e = .returned (.float .f64 (if sgn Ieee.double v then 9223372036854775808 else 0)) ∧ w = w' := by
  have h1 : bits .andNot .u64 0 9223372036854775808 = 0 := by decide
  have h2 : bits .and .u64 (v : Int) 9223372036854775808 = ((if sgn Ieee.double v then 9223372036854775808 else 0 : Nat) : Int) := by
    have e := u64_and_nat v 9223372036854775808 hv (by omega)
    rw [show ((9223372036854775808 : Nat) : Int) = 9223372036854775808 from rfl] at e
    rw [e, show (9223372036854775808 : Nat) = 2 ^ 63 from rfl, nat_bit]
    have hs : sgn Ieee.double v = (v / 2 ^ 63 % 2 == 1) := rfl
    rw [hs]
    have : v / 2 ^ 63 % 2 = 0 ∨ v / 2 ^ 63 % 2 = 1 := by omega
    rcases this with q | q <;> rw [q] <;> rfl
  generalize hz : (if sgn Ieee.double v then 9223372036854775808 else 0 : Nat) = z at *
  have hz2 : z = 0 ∨ z = 9223372036854775808 := by
    rw [← hz]; split
    · exact .inr rfl
    · exact .inl rfl
  clear hz
  have h3 : bits .or .u64 0 (z : Int) = (z : Int) := by
    rcases hz2 with rfl | rfl <;> decide
  clear hz2
  go_enter Try.func39, Try.ntmps39
  go_wp2
  go_ret
  exact ⟨rfl, rfl⟩

theorem narrow_zero (s : Bool) (v : Nat) (h : canon .f32 v = fconv .f64 .f32 (canon .f64 (if s then 9223372036854775808 else 0))) : v = if s then 2147483648 else 0 := by
  cases s
  · have e : fconv .f64 .f32 (canon .f64 0) = some 0 := by rfl
    have h' : canon .f32 v = some 0 := h.trans e
    exact (canon_some h').1.symm
  · have e : fconv .f64 .f32 (canon .f64 9223372036854775808) = some 2147483648 := by rfl
    have h' : canon .f32 v = some 2147483648 := h.trans e
    exact (canon_some h').1.symm

theorem fits_zero (s : Bool) : fits .f64 .f32 (if s then 9223372036854775808 else 0) := by
  cases s <;> exact fits_narrow (by decide)

theorem implFlush (b : Nat) (w : World) (hb : b < 2 ^ 32) : Calls Try.prog 25 #[.float .f32 b] w fun e w' => e = .returned (.float .f32 (flushed b)) ∧ ∃ n, w' = w.drewN n := by
  by_cases hs : subB b = true
  · have hn : isN .f32 b = false := by
      cases hn : isN .f32 b
      · rfl
      · rw [sub_nan hn] at hs; cases hs
    go_enter Try.func25, Try.ntmps25
    go_wp2_with (first | (go_at_call 23; refine (implSub _ _).mono ?_; rintro e w' ⟨rfl, rfl⟩) | (refine wpList_conv rfl _ _ _ rfl .f32 .f64 (by decide) _ rfl Try.underlying22 Try.underlying29 hb (fits_widen _) ?_; intro v n hc hv; replace hv : v < 2 ^ 64 := hv; have hsg := (widen_facts hc hn).2.1; have HC := Lib.hid hsg; clear hc hsg))
    refine (implCopy _ _ (by assumption)).mono ?_
    rintro e w' ⟨rfl, rfl⟩
    rw [HC.out]
    have hft := fits_zero (sgn Ieee.single b)
    have hres : flushed b = if sgn Ieee.single b then 2147483648 else 0 := by unfold flushed zeroLike; rw [if_pos hs]
    have HR := Lib.hid hres
    have hlt : (if sgn Ieee.single b then 9223372036854775808 else 0) < 2 ^ 64 := by split <;> omega
    clear hres
    have nz := narrow_zero (sgn Ieee.single b)
    generalize (if sgn Ieee.single b then 9223372036854775808 else 0) = z at *
    have NZ := Lib.hid nz; clear nz
    go_wp2_with (refine wpList_conv rfl _ _ _ rfl .f64 .f32 (by decide) _ rfl Try.underlying29 Try.underlying22 hlt hft ?_; intro u m hcu hu; have HU := Lib.hid (NZ.out _ hcu); clear hcu)
    go_ret
    exact ⟨by rw [HR.out, ← HU.out]; rfl, _, rfl⟩
  · have hs' : subB b = false := by simpa using hs
    go_enter Try.func25, Try.ntmps25
    go_wp2_with (go_at_call 23; refine (implSub _ _).mono ?_; rintro e w' ⟨rfl, rfl⟩)
    go_ret
    exact ⟨by unfold flushed; rw [if_neg hs]; rfl, 0, rfl⟩

theorem specFlush (b : Nat) (w : World) (hb : b < 2 ^ 32) : Calls Try.prog 38 #[.float .f32 b] w fun e w' => e = .returned (.float .f32 (flushed b)) ∧ w = w' := by
  have tm := mask_test b hb
  have hr : rung Ieee.single b = b % 2147483648 := rfl
  by_cases hc : rung Ieee.single b < 8388608
  · rw [decide_eq_true hc] at tm
    have hn : ¬ isN .f32 b = true := by
      intro h
      have := (isN_iff .f32 b).1 h
      rw [show FloatKind.f32.format = Ieee.single from rfl, infS] at this
      omega
    have hs : sgn Ieee.single b = (b / 2147483648 % 2 == 1) := rfl
    have ht : bits .and .i64 (bitsOf b) 2147483648 = ((flushed b : Nat) : Int) := by
      have e := i64_and_nat b 2147483648 (by omega)
      rw [show ((2147483648 : Nat) : Int) = 2147483648 from rfl, show (2147483648 % 18446744073709551616 : Nat) = 2 ^ 31 from rfl, nat_bit] at e
      unfold bitsOf
      rw [if_neg hn, e]
      unfold flushed zeroLike subB
      rw [hs]
      have h2 : b / 2147483648 = 0 ∨ b / 2147483648 = 1 := by omega
      by_cases h0 : rung Ieee.single b = 0
      · rw [if_neg (by simp [h0])]
        rcases h2 with q | q <;> rw [show (2 : Nat) ^ 31 = 2147483648 from rfl, q] <;> simp <;> omega
      · rw [if_pos (by simp; omega)]
        rcases h2 with q | q <;> rw [show (2 : Nat) ^ 31 = 2147483648 from rfl, q] <;> simp
    have hl : flushed b < 2 ^ 32 := by
      unfold flushed zeroLike; split
      · split <;> omega
      · exact hb
    have HR := Lib.hid hr
    clear hr hc hn hs
    generalize flushed b = z at *
    go_enter Try.func38, Try.ntmps38
    go_wp2_with (first | (go_at_call 31; refine (specBits _ _ hb).mono ?_; rintro e w' ⟨rfl, rfl⟩) | (go_at_call 35; refine (specFrom _ _ hl).mono ?_; rintro e w' ⟨rfl, rfl⟩))
    go_ret
    exact ⟨rfl, rfl⟩
  · rw [decide_eq_false hc] at tm
    have hf : flushed b = b := by unfold flushed subB; rw [if_neg (by simp; omega)]
    have HF := Lib.hid hf
    clear hr hf
    go_enter Try.func38, Try.ntmps38
    go_wp2_with (first | (go_at_call 31; refine (specBits _ _ hb).mono ?_; rintro e w' ⟨rfl, rfl⟩))
    go_ret
    exact ⟨by rw [HF.out]; rfl, rfl⟩

theorem fnExactFlushNumber_walk (b : Nat) (w : World) (hb : b < 2 ^ 32) :
    Calls Try.prog 9 #[.float .f32 b] w fun e w' => e = .returned (.bool true) ∧ Below w.heap.size w w' := by
  have hl : flushed b < 2 ^ 32 := by
    unfold flushed zeroLike; split
    · split <;> omega
    · exact hb
  go_enter Try.func9, Try.ntmps9
  go_wp2_with (first | (go_at_call 38; refine (specFlush _ _ hb).mono ?_; rintro e w' ⟨rfl, rfl⟩) | (go_at_call 25; refine (implFlush _ _ hb).mono ?_; rintro e w' ⟨rfl, n, rfl⟩) | (refine wpList_conv rfl _ _ _ rfl .f32 .f64 (by decide) _ rfl Try.underlying22 Try.underlying29 hl (fits_widen _) ?_; intro v n hc hv; have HC := Lib.hid hc; clear hc) | (go_at_call 19; refine (sameFloat_any _ _ _ (hid2 (by assumption) (by assumption))).mono ?_; rintro e w' ⟨rfl, n, rfl⟩) | go_in)
  go_ret
  exact ⟨rfl, below_drawn _ _⟩

/-! ### Roots -/

theorem sqrt_eq (v : Nat) : Extern.MathSqrt.sqrt #[.float .f64 v] = (match FloatKind.f64.format.sqrt v with
    | some r => pure (.float .f64 r)
    | none => do pure (.float .f64 (← choose (.nanBits .f64 v v)))) := rfl

theorem upon_sqrt {o : Oper} {a : Act} {K : Act → World → Prop} {Q : Exit → Act → World → Prop} {w : World} (v : Nat)
    (h : ∀ r n, canon .f64 r = fsqrt (canon .f64 v) → r < 2 ^ 64 → K (a.put o.dst (.float .f64 r)) (w.drewN n)) : Oper.upon Try.prog o a K Q ((callFunc 45 #[.float .f64 v]).run Try.prog w) := by
  rw [run_callFunc_extern (e := Extern.MathSqrt.sqrt) Try.func45 (by kernel_rfl) (by kernel_rfl) (by kernel_rfl) (by kernel_rfl)]
  cases hs : FloatKind.f64.format.sqrt v with
  | some r =>
    have : (Extern.MathSqrt.sqrt #[.float .f64 v]).run Try.prog w = .ok (.float .f64 r) w := by
      rw [sqrt_eq, hs]; rfl
    rw [this]
    exact h r 0 (by rw [← sqrt_canon, hs]; exact canon_of_not (sqrt_notNaN hs)) (Ieee.double.sqrt_lt hs)
  | none =>
    have hq := nanCut .f64 (.nanBits .f64 v v) (w.tape w.drawn (.nanBits .f64 v v)) (.inl ⟨_, _, rfl⟩)
    have hf : (Question.nanBits .f64 v v).forced = false := hq.2.2
    have : (Extern.MathSqrt.sqrt #[.float .f64 v]).run Try.prog w = .ok (.float .f64 ((Question.nanBits .f64 v v).cut (w.tape w.drawn (.nanBits .f64 v v)))) (w.drewN 1) := by
      rw [sqrt_eq, hs]; simp [hf, World.drewN]
    rw [this]
    exact h _ 1 (by rw [← sqrt_canon, hs]; exact canon_none.2 hq.1) hq.2.1

theorem sqrtAny (v : Nat) (w : World) : Calls Try.prog 41 #[.float .f64 v] w fun e w' => ∃ r n, e = .returned (.float .f64 r) ∧ w' = w.drewN n ∧ canon .f64 r = fsqrt (canon .f64 v) ∧ r < 2 ^ 64 := by
  go_enter Try.func41, Try.ntmps41
  go_wp2_with (with_reducible refine upon_sqrt _ ?_; intro r n hc hr; have HC := Lib.hid hc; clear hc)
  go_ret
  exact ⟨_, _, rfl, rfl, HC.out, hr⟩

theorem specNarrow (v : Nat) (w : World) (hv : v < 2 ^ 64) (hf : fits .f64 .f32 v) : Calls Try.prog 37 #[.float .f64 v] w fun e w' => ∃ r n, e = .returned (.float .f32 r) ∧ w' = w.drewN n ∧ canon .f32 r = fconv .f64 .f32 (canon .f64 v) ∧ r < 2 ^ 32 := by
  go_enter Try.func37, Try.ntmps37
  go_wp2_with (refine wpList_conv rfl _ _ _ rfl .f64 .f32 (by decide) _ rfl Try.underlying29 Try.underlying22 hv hf ?_; intro r n hc hr; have HC := Lib.hid hc; clear hc)
  go_ret
  exact ⟨_, _, rfl, rfl, HC.out, hr⟩

theorem implNarrow (v : Nat) (w : World) (hv : v < 2 ^ 64) (hf : fits .f64 .f32 v) : Calls Try.prog 21 #[.float .f64 v] w fun e w' => ∃ r n, e = .returned (.float .f32 r) ∧ w' = w.drewN n ∧ canon .f32 r = fconv .f64 .f32 (canon .f64 v) ∧ r < 2 ^ 32 := by
  go_enter Try.func21, Try.ntmps21
  go_wp2_with (refine wpList_conv rfl _ _ _ rfl .f64 .f32 (by decide) _ rfl Try.underlying29 Try.underlying22 hv hf ?_; intro r n hc hr; have HC := Lib.hid hc; clear hc)
  go_ret
  exact ⟨_, _, rfl, rfl, HC.out, hr⟩
end Go.Proofs.Ytdcpkndkehdhiaa
