/- The walk of the law on roots. Conditions: none beyond those of each theorem. -/
import Derived.Test.YtdcpkndkehdhiaaWalksD
namespace Go.Proofs.Ytdcpkndkehdhiaa
open Go Ieee Go.RowKit

/-- what a root's narrowed number is -/
def oroot (b : Option Nat) : Option Nat := fconv .f64 .f32 (fsqrt (fconv .f32 .f64 b))

theorem specRoot (b : Nat) (w : World) (hb : b < 2 ^ 32) : Calls Try.prog 40 #[.float .f32 b] w fun e w' => ∃ r n, e = .returned (.float .f32 r) ∧ w' = w.drewN n ∧ canon .f32 r = oroot (canon .f32 b) ∧ r < 2 ^ 32 := by
  go_enter Try.func40, Try.ntmps40
  go_wp2_with (refine wpList_conv rfl _ _ _ rfl .f32 .f64 (by decide) _ rfl Try.underlying22 Try.underlying29 hb (fits_widen _) ?_; intro v n hc hv; replace hv : v < 2 ^ 64 := hv; have HC := Lib.hid hc; clear hc)
  refine (sqrtAny _ _).mono ?_
  rintro e w' ⟨r, m, rfl, rfl, hr, hlt⟩
  have hf := root_fits HC.out hr
  have HR := Lib.hid hr
  clear hr
  go_wp2_with fail
  refine (specNarrow _ _ hlt hf).mono ?_
  rintro e w' ⟨z, k, rfl, rfl, hz, hzl⟩
  have HZ := Lib.hid hz
  clear hz
  go_wp2
  go_ret
  refine ⟨z, _, rfl, rfl, ?_, hzl⟩
  rw [HZ.out, HR.out, HC.out]; rfl

theorem implRoot (b : Nat) (w : World) (hb : b < 2 ^ 32) : Calls Try.prog 27 #[.float .f32 b] w fun e w' => ∃ r n, e = .returned (.float .f32 r) ∧ w' = w.drewN n ∧ canon .f32 r = oroot (canon .f32 b) ∧ r < 2 ^ 32 := by
  go_enter Try.func27, Try.ntmps27
  go_wp2_with (refine wpList_conv rfl _ _ _ rfl .f32 .f64 (by decide) _ rfl Try.underlying22 Try.underlying29 hb (fits_widen _) ?_; intro v n hc hv; replace hv : v < 2 ^ 64 := hv; have HC := Lib.hid hc; clear hc)
  refine (sqrtAny _ _).mono ?_
  rintro e w' ⟨r, m, rfl, rfl, hr, hlt⟩
  have hf := root_fits HC.out hr
  have HR := Lib.hid hr
  clear hr
  go_wp2_with fail
  refine (implNarrow _ _ hlt hf).mono ?_
  rintro e w' ⟨z, k, rfl, rfl, hz, hzl⟩
  have HZ := Lib.hid hz
  clear hz
  go_wp2
  go_ret
  refine ⟨z, _, rfl, rfl, ?_, hzl⟩
  rw [HZ.out, HR.out, HC.out]; rfl

theorem conv_same {x y a b : Nat} {X : Option Nat} (h1 : Hid (canon .f64 a = fconv .f32 .f64 (canon .f32 x))) (h2 : Hid (canon .f64 b = fconv .f32 .f64 (canon .f32 y))) (h3 : Hid (canon .f32 x = X)) (h4 : Hid (canon .f32 y = X)) : canon .f64 a = canon .f64 b := by
  rw [h1.out, h2.out, h3.out, h4.out]

theorem fnExactRootNumber_walk (b : Nat) (w : World) (hb : b < 2 ^ 32) :
    Calls Try.prog 10 #[.float .f32 b] w fun e w' => e = .returned (.bool true) ∧ Below w.heap.size w w' := by
  go_enter Try.func10, Try.ntmps10
  go_wp2_with (first | (go_at_call 40; refine (specRoot _ _ hb).mono ?_; rintro e w' ⟨r, n, rfl, rfl, hr, hrl⟩; replace hrl : r < 2 ^ FloatKind.f32.format.width := hrl; have HR := Lib.hid hr; clear hr) | (go_at_call 27; refine (implRoot _ _ hb).mono ?_; rintro e w' ⟨r, n, rfl, rfl, hr, hrl⟩; replace hrl : r < 2 ^ FloatKind.f32.format.width := hrl; have HR := Lib.hid hr; clear hr) | (refine wpList_conv rfl _ _ _ rfl .f32 .f64 (by decide) _ rfl Try.underlying22 Try.underlying29 (by assumption) (fits_widen _) ?_; intro v n hc hv; have HC := Lib.hid hc; clear hc) | (go_at_call 19; refine (sameFloat_any _ _ _ (conv_same (by assumption) (by assumption) (by assumption) (by assumption))).mono ?_; rintro e w' ⟨rfl, n, rfl⟩) | go_in)
  go_ret
  exact ⟨rfl, below_drawn _ _⟩
end Go.Proofs.Ytdcpkndkehdhiaa
