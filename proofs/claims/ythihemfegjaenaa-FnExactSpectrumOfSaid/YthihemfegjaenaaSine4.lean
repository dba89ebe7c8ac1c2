/- The walks of the sine law. Conditions: none beyond those of each theorem. -/
import Derived.Test.YthihemfegjaenaaSine3
namespace Go.Proofs.Ythihemfegjaenaa
open Go Ieee Go.RowKit

theorem wide_none {t : Nat} (h : finB .f64 t = false) : wideS (canon .f64 t) = none := by
  have h' : ¬ rung Ieee.double t < Ieee.double.infRung := of_decide_eq_false h
  cases hc : canon .f64 t with
  | none => rfl
  | some c =>
    obtain ⟨rfl, _⟩ := canon_some hc
    show (if Ieee.double.infRung ≤ rung Ieee.double c then none else _) = none
    rw [if_pos (Nat.le_of_not_lt h')]

theorem wide_fin {t : Nat} (h : finB .f64 t = true) : wideS (canon .f64 t) = if 1075 * 2 ^ 52 ≤ rung Ieee.double t then some 0 else sineO t := by
  have h' : rung Ieee.double t < Ieee.double.infRung := of_decide_eq_true h
  rw [farFin h']
  show (if Ieee.double.infRung ≤ rung Ieee.double t then none else _) = _
  rw [if_neg (Nat.not_le_of_lt h')]

theorem specWide (t : Nat) (w : World) : Calls Try.prog 126 #[.float .f64 t] w (DRet w (wideS (canon .f64 t))) := by
  cases h : finB .f64 t
  · rw [wide_none h]; exact specWideNan t w h
  · rw [wide_fin h]
    by_cases hf : 1075 * 2 ^ 52 ≤ rung Ieee.double t
    · rw [if_pos hf]; exact specWideFar t w h hf
    · rw [if_neg hf]; exact specWideNear t w (Nat.lt_of_not_le hf)

/-- the sine of a 32-bit number -/
def sineN (b : Nat) : Option Nat := fconv .f64 .f32 (wideS (fconv .f32 .f64 (canon .f32 b)))

theorem specSine (b : Nat) (w : World) (hb : b < 2 ^ 32) : Calls Try.prog 89 #[.float .f32 b] w (NRet w (sineN b)) := by
  go_enter Try.func89, Try.ntmps89
  go_wp2_with (first | (refine wpList_conv rfl 36 114 _ rfl .f32 .f64 (by decide) _ rfl Try.underlying36 Try.underlying114 hb (fits_widen _) ?_; intro v n hc hv; replace hv : v < 2 ^ 64 := hv; have HC := Lib.hid hc; clear hc) | (go_at_call 126; refine (specWide _ _).mono ?_; rintro e w' ⟨s, m, rfl, rfl, hc, hs⟩; have hfit := (bd_wide _).narrows hc; have HS := Lib.hid hc; clear hc) | (go_at_call 125; refine (specNarrow _ _ hs hfit).mono ?_; rintro e w' ⟨z, k, rfl, rfl, hz, hzl⟩; have HZ := Lib.hid hz; clear hz))
  go_ret
  exact ⟨z, _, rfl, rfl, by rw [HZ.out, HS.out, HC.out]; rfl, hzl⟩

theorem implSine (b : Nat) (w : World) (hb : b < 2 ^ 32) : Calls Try.prog 127 #[.float .f32 b] w (NRet w (sineN b)) := by
  have key : ∀ v, canon .f64 v = fconv .f32 .f64 (canon .f32 b) → sineN b = fconv .f64 .f32 (wideS (canon .f64 v)) := fun v h => by unfold sineN; rw [h]
  have hfin : ∀ v, canon .f64 v = fconv .f32 .f64 (canon .f32 b) → finB .f64 v = finB .f32 b := fun v h => finB_conv h
  have HKEY := Lib.hid key
  have HFIN := Lib.hid hfin
  clear key hfin
  cases hf : finB .f32 b
  · go_enter Try.func127, Try.ntmps127
    go_wp2_with (first | (refine wpList_conv rfl 36 114 _ rfl .f32 .f64 (by decide) _ rfl Try.underlying36 Try.underlying114 hb (fits_widen _) ?_; intro v n hc hv; replace hv : v < 2 ^ 64 := hv; have hfv := (HFIN.out v hc).trans hf; have HC := Lib.hid hc; clear hc) | (go_at_call 141; refine (implFiniteLong _ _ hv).mono ?_; rintro e w' ⟨he, rfl⟩; rw [hfv] at he; subst he) | (go_at_call 142; refine (implNan _).mono ?_; rintro e w' ⟨z, k, rfl, rfl, hz, hzl⟩; have HZ := Lib.hid hz; clear hz))
    go_ret
    exact ⟨z, _, rfl, rfl, by rw [HZ.out, HKEY.out v HC.out, wide_none hfv]; rfl, hzl⟩
  · by_cases hfar : ∃ x, canon .f64 x = fconv .f32 .f64 (canon .f32 b) ∧ 1075 * 2 ^ 52 ≤ rung Ieee.double x
    · have hall : ∀ v, canon .f64 v = fconv .f32 .f64 (canon .f32 b) → decide (1075 * 2 ^ 52 ≤ rung Ieee.double v) = true := fun v hv => by
        obtain ⟨x, hx, hr⟩ := hfar
        have hvf : finB .f64 v = true := (finB_conv hv).trans hf
        have : canon .f64 x = some v := by rw [hx, ← hv]; exact farFin (of_decide_eq_true hvf)
        obtain ⟨rfl, _⟩ := canon_some this
        exact decide_eq_true hr
      have HA := Lib.hid hall
      clear hall hfar
      go_enter Try.func127, Try.ntmps127
      go_wp2_with (first | (refine wpList_conv rfl 36 114 _ rfl .f32 .f64 (by decide) _ rfl Try.underlying36 Try.underlying114 hb (fits_widen _) ?_; intro v n hc hv; replace hv : v < 2 ^ 64 := hv; have hfv := (HFIN.out v hc).trans hf; have hff := Lib.hid (HA.out v hc); have HC := Lib.hid hc; clear hc) | (go_at_call 141; refine (implFiniteLong _ _ hv).mono ?_; rintro e w' ⟨he, rfl⟩; rw [hfv] at he; subst he) | (go_at_call 143; refine (implFar _ _ hv (of_decide_eq_true hfv)).mono ?_; rintro e w' ⟨he, rfl⟩; rw [hff.out] at he; subst he))
      go_ret
      exact ⟨0, _, rfl, rfl, by rw [HKEY.out v HC.out, wide_fin hfv, if_pos (of_decide_eq_true hff.out)]; decide +kernel, by decide⟩
    · have hall : ∀ v, canon .f64 v = fconv .f32 .f64 (canon .f32 b) → decide (1075 * 2 ^ 52 ≤ rung Ieee.double v) = false := fun v hv => decide_eq_false fun h => hfar ⟨v, hv, h⟩
      have HA := Lib.hid hall
      clear hall hfar
      go_enter Try.func127, Try.ntmps127
      go_wp2_with (first | (refine wpList_conv rfl 36 114 _ rfl .f32 .f64 (by decide) _ rfl Try.underlying36 Try.underlying114 hb (fits_widen _) ?_; intro v n hc hv; replace hv : v < 2 ^ 64 := hv; have hfv := (HFIN.out v hc).trans hf; have hff := Lib.hid (HA.out v hc); have HC := Lib.hid hc; clear hc) | (go_at_call 141; refine (implFiniteLong _ _ hv).mono ?_; rintro e w' ⟨he, rfl⟩; rw [hfv] at he; subst he) | (go_at_call 143; refine (implFar _ _ hv (of_decide_eq_true hfv)).mono ?_; rintro e w' ⟨he, rfl⟩; rw [hff.out] at he; subst he) | (go_at_call 145; refine (implLong _ _ (Nat.lt_of_not_le (of_decide_eq_false hff.out))).mono ?_; rintro e w' ⟨s, m, rfl, rfl, hc, hs⟩; have hc2 := hc.trans ((wide_fin hfv).trans (if_neg (of_decide_eq_false hff.out))).symm; have hfit := (bd_wide _).narrows hc2; have HS := Lib.hid hc2; clear hc hc2) | (go_at_call 144; refine (implNarrow _ _ hs hfit).mono ?_; rintro e w' ⟨z, k, rfl, rfl, hz, hzl⟩; have HZ := Lib.hid hz; clear hz))
      go_ret
      exact ⟨z, _, rfl, rfl, by rw [HZ.out, HKEY.out v HC.out, HS.out], hzl⟩

end Go.Proofs.Ythihemfegjaenaa
