/- What the functions on the bits of a number return, the program's and the model's. Conditions: none beyond those of each theorem. -/
import Derived.Test.YtabhjnpmmjmaiabChecked
import Derived.Test.YtabhjnpmmjmaiabFl3
namespace Go.Proofs.Ytabhjnpmmjmaiab
open Go Ieee Go.RowKit

def bitsOf (b : Nat) : Int := if isN .f32 b = true then 2143289344 else b

theorem neq_self (k : FloatKind) (b : Nat) : (k.format.order b b != some .eq) = isN k b := by
  rw [order_self]; unfold isN; split <;> simp_all

@[go_sem] theorem run_f32bits (b : Nat) (w : World) : (callFunc 108 #[.float .f32 b]).run Try.prog w = .ok (.value (.int .u32 b)) w := by
  rw [run_callFunc_extern (e := Extern.MathFloatBits.float32bits) Try.func108 (by kernel_rfl) (by kernel_rfl) (by kernel_rfl) (by kernel_rfl)]; rfl

theorem isNaN_any (b : Nat) (w : World) : Calls Try.prog 109 #[.float .f64 b] w fun e w' => e = .returned (.bool (isN .f64 b)) ∧ w = w' := by
  have h := neq_self .f64 b
  go_enter Try.func109, Try.ntmps109
  go_wp2
  go_ret
  exact ⟨rfl, rfl⟩

theorem specBits (b : Nat) (w : World) (hb : b < 2 ^ 32) : Calls Try.prog 103 #[.float .f32 b] w fun e w' => e = .returned (.int .i64 (bitsOf b)) ∧ w = w' := by
  have h := neq_self .f32 b
  by_cases hn : isN .f32 b = true
  · go_enter Try.func103, Try.ntmps103
    go_wp2
    go_ret
    exact ⟨by unfold bitsOf; rw [if_pos hn]; rfl, rfl⟩
  · have hn' : isN .f32 b = false := by simpa using hn
    go_enter Try.func103, Try.ntmps103
    go_wp2
    go_ret
    exact ⟨by unfold bitsOf; rw [if_neg hn]; rfl, rfl⟩

theorem isN_conv {src dst : FloatKind} {b v : Nat} (h : canon dst v = fconv src dst (canon src b)) (hf : fits src dst b) (hne : src ≠ dst) : isN dst v = isN src b := by
  unfold isN
  by_cases hn : (src.decode b).isNaN = true
  · rw [canon_none.2 hn] at h
    rw [hn]; exact canon_none.1 h
  · have hn' : (src.decode b).isNaN = false := by simpa using hn
    rw [canon_of_not hn'] at h
    rcases hf with hf | hf | hf
    · exact absurd hf hne
    · exact absurd hf hn
    · obtain ⟨r, hr⟩ := Option.isSome_iff_exists.1 hf
      have h' : canon dst v = some r := h.trans hr
      rw [hn']; exact (canon_some h').2

theorem implBits (b : Nat) (w : World) (hb : b < 2 ^ 32) : Calls Try.prog 104 #[.float .f32 b] w fun e w' => e = .returned (.int .i64 (bitsOf b)) ∧ ∃ n, w' = w.drewN n := by
  by_cases hn : isN .f32 b = true
  · go_enter Try.func104, Try.ntmps104
    go_wp2_with (first | (go_at_call 109; refine (isNaN_any _ _).mono ?_; rintro e w' ⟨rfl, rfl⟩) | (refine wpList_conv rfl 32 52 _ rfl .f32 .f64 (by decide) _ rfl Try.underlying32 Try.underlying52 hb (fits_widen _) ?_; intro v n hc hv; have hi : isN .f64 v = true := (isN_conv hc (fits_widen _) (by decide)).trans hn; have HC := Lib.hid hc; clear hc))
    go_ret
    exact ⟨by unfold bitsOf; rw [if_pos hn]; rfl, _, rfl⟩
  · have hn' : isN .f32 b = false := by simpa using hn
    go_enter Try.func104, Try.ntmps104
    go_wp2_with (first | (go_at_call 109; refine (isNaN_any _ _).mono ?_; rintro e w' ⟨rfl, rfl⟩) | (refine wpList_conv rfl 32 52 _ rfl .f32 .f64 (by decide) _ rfl Try.underlying32 Try.underlying52 hb (fits_widen _) ?_; intro v n hc hv; have hi : isN .f64 v = false := (isN_conv hc (fits_widen _) (by decide)).trans hn'; have HC := Lib.hid hc; clear hc))
    go_ret
    exact ⟨by unfold bitsOf; rw [if_neg hn]; rfl, _, rfl⟩
end Go.Proofs.Ytabhjnpmmjmaiab
