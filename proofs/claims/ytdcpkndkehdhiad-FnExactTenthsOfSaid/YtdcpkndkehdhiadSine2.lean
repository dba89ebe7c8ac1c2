/- The walks of the sines of any turns, and their law. Conditions: none beyond those of each theorem. -/
import Derived.Test.YtdcpkndkehdhiadSine
namespace Go.Proofs.Ytdcpkndkehdhiad
open Go Ieee Go.RowKit

/-- a 32-bit float comes back, known up to a NaN's bits -/
def NRet (w : World) (S : Option Nat) (e : Ending) (w' : World) : Prop := ∃ r n, e = .returned (.float .f32 r) ∧ w' = w.drewN n ∧ canon .f32 r = S ∧ r < 2 ^ 32

@[go_sem] theorem run_nan (w : World) : (callFunc 60 #[.int .u64 9221120237041090561]).run Try.prog w = .ok (.value (.float .f64 9221120237041090561)) w := run_f64from 9221120237041090561 w

theorem nanAny (w : World) : Calls Try.prog 52 #[] w fun e w' => e = .returned (.float .f64 9221120237041090561) ∧ w = w' := by
  go_enter Try.func52, Try.ntmps52
  go_wp2
  go_ret
  exact ⟨rfl, rfl⟩

@[go_sem] theorem run_negF (P : Program) (k : FloatKind) (s : Nat) (w : World) : (Op.unary .neg (.float k s)).run P w = .ok (.float k (Op.negFloat k s)) w := rfl

theorem nan_canon : canon .f64 9221120237041090561 = none := by decide +kernel
theorem nan_fits : fits .f64 .f32 9221120237041090561 := .inr (.inl (canon_none.1 nan_canon))

theorem implNan (w : World) : Calls Try.prog 28 #[] w (NRet w none) := by
  go_enter Try.func28, Try.ntmps28
  go_wp2_with (first | (go_at_call 52; refine (nanAny _).mono ?_; rintro e w' ⟨rfl, rfl⟩) | (refine wpList_conv rfl _ _ _ rfl .f64 .f32 (by decide) _ rfl Try.underlying22 Try.underlying28 (by decide) nan_fits ?_; intro v n hc hv; replace hv : v < 2 ^ 32 := hv; have HC := Lib.hid hc; clear hc))
  go_ret
  exact ⟨v, _, rfl, rfl, by rw [HC.out, nan_canon]; rfl, hv⟩

/-! ### The program's sine -/

theorem implLong (t : Nat) (w : World) (h : rung Ieee.double t < 1075 * 2 ^ 52) :
    Calls Try.prog 33 #[.float .f64 t] w (DRet w (sineO t)) := by
  cases hge : geO (partO t) (some cHalf) <;> cases hgt : gtO (halvedO (partO t)) (some cQuarter)
  · have hh : halvedO (partO t) = partO t := by unfold halvedO; rw [hge]; rfl
    have hf : foldedO (partO t) = partO t := by unfold foldedO; rw [hgt, hh]; rfl
    have hs : sineO t = shortO (partO t) := by unfold sineO sineOf; rw [hge, hf]; rfl
    rw [hh] at hgt
    rw [hs]
    have HG := Lib.hid hge
    have HL := Lib.hid hgt
    clear hge hgt hh hf hs
    go_enter Try.func33, Try.ntmps33
    go_wp2_with (first | (go_at_call 30; refine (implPart _ _ h).mono ?_; rintro e w' ⟨v, n, rfl, rfl, hc, hv⟩; have HV := Lib.hid hc; clear hc; have ht1 : (FloatKind.f64.format.order v 4602678819172646912 == some .gt || FloatKind.f64.format.order v 4602678819172646912 == some .eq) = false := tGe HV.out rfl HG.out; have ht2 : (FloatKind.f64.format.order v 4598175219545276416 == some .gt) = false := tGt HV.out rfl HL.out) | (go_at_call 53; refine (implShort _ _).mono ?_; rintro e w' ⟨s, m, rfl, rfl, hc, hs⟩; have HS := Lib.hid hc; clear hc))
    go_ret
    exact ⟨_, _, rfl, rfl, by rw [HS.out, HV.out], hs⟩
  · have hh : halvedO (partO t) = partO t := by unfold halvedO; rw [hge]; rfl
    have hf : foldedO (partO t) = fop .sub .f64 (some cHalf) (partO t) := by unfold foldedO; rw [hgt, hh]; rfl
    have hs : sineO t = shortO (fop .sub .f64 (some cHalf) (partO t)) := by unfold sineO sineOf; rw [hge, hf]; rfl
    rw [hh] at hgt
    rw [hs]
    have HG := Lib.hid hge
    have HL := Lib.hid hgt
    clear hge hgt hh hf hs
    have tokb : True := trivial
    go_enter Try.func33, Try.ntmps33
    go_wp2_with (first | (go_at_call 30; refine (implPart _ _ h).mono ?_; rintro e w' ⟨v, n, rfl, rfl, hc, hv⟩; have HV := Lib.hid hc; clear hc; have ht1 : (FloatKind.f64.format.order v 4602678819172646912 == some .gt || FloatKind.f64.format.order v 4602678819172646912 == some .eq) = false := tGe HV.out rfl HG.out; have ht2 : (FloatKind.f64.format.order v 4598175219545276416 == some .gt) = true := tGt HV.out rfl HL.out) | (go_at_call 53; refine (implShort _ _).mono ?_; rintro e w' ⟨s, m, rfl, rfl, hc, hs⟩; have HS := Lib.hid hc; clear hc) | (first | (have _t := tokb; refine wpList_arith rfl _ _ _ _ _ rfl rfl .f64 _ _ rfl rfl ?_; intro vb nb hc hb; have Hb := Lib.hid hc; clear hc _t tokb)))
    go_ret
    exact ⟨_, _, rfl, rfl, by rw [HS.out, Hb.out, HV.out]; rfl, hs⟩
  · have hh : halvedO (partO t) = fop .sub .f64 (partO t) (some cHalf) := by unfold halvedO; rw [hge]; rfl
    have hf : foldedO (partO t) = fop .sub .f64 (partO t) (some cHalf) := by unfold foldedO; rw [hgt, hh]; rfl
    have hs : sineO t = (shortO (fop .sub .f64 (partO t) (some cHalf))).map (Op.negFloat .f64) := by unfold sineO sineOf; rw [hge, hf]; rfl
    rw [hh] at hgt
    rw [hs]
    have HG := Lib.hid hge
    have HL := Lib.hid hgt
    clear hge hgt hh hf hs
    have toka : True := trivial
    go_enter Try.func33, Try.ntmps33
    go_wp2_with (first | (go_at_call 30; refine (implPart _ _ h).mono ?_; rintro e w' ⟨v, n, rfl, rfl, hc, hv⟩; have HV := Lib.hid hc; clear hc; have ht1 : (FloatKind.f64.format.order v 4602678819172646912 == some .gt || FloatKind.f64.format.order v 4602678819172646912 == some .eq) = true := tGe HV.out rfl HG.out) | (go_at_call 53; refine (implShort _ _).mono ?_; rintro e w' ⟨s, m, rfl, rfl, hc, hs⟩; have HS := Lib.hid hc; clear hc) | (first | (have _t := toka; refine wpList_arith rfl _ _ _ _ _ rfl rfl .f64 _ _ rfl rfl ?_; intro va na hc ha; have Ha := Lib.hid hc; clear hc _t toka; have ht2 : (FloatKind.f64.format.order va 4598175219545276416 == some .gt) = false := tGt (show canon .f64 va = fop .sub .f64 (partO t) (some cHalf) by rw [Ha.out, HV.out]; rfl) rfl HL.out)))
    go_ret
    have hn := neg_canon s hs
    exact ⟨_, _, rfl, rfl, by rw [hn.1, HS.out, Ha.out, HV.out]; rfl, hn.2⟩
  · have hh : halvedO (partO t) = fop .sub .f64 (partO t) (some cHalf) := by unfold halvedO; rw [hge]; rfl
    have hf : foldedO (partO t) = fop .sub .f64 (some cHalf) (fop .sub .f64 (partO t) (some cHalf)) := by unfold foldedO; rw [hgt, hh]; rfl
    have hs : sineO t = (shortO (fop .sub .f64 (some cHalf) (fop .sub .f64 (partO t) (some cHalf)))).map (Op.negFloat .f64) := by unfold sineO sineOf; rw [hge, hf]; rfl
    rw [hh] at hgt
    rw [hs]
    have HG := Lib.hid hge
    have HL := Lib.hid hgt
    clear hge hgt hh hf hs
    have toka : True := trivial; have tokb : True := trivial
    go_enter Try.func33, Try.ntmps33
    go_wp2_with (first | (go_at_call 30; refine (implPart _ _ h).mono ?_; rintro e w' ⟨v, n, rfl, rfl, hc, hv⟩; have HV := Lib.hid hc; clear hc; have ht1 : (FloatKind.f64.format.order v 4602678819172646912 == some .gt || FloatKind.f64.format.order v 4602678819172646912 == some .eq) = true := tGe HV.out rfl HG.out) | (go_at_call 53; refine (implShort _ _).mono ?_; rintro e w' ⟨s, m, rfl, rfl, hc, hs⟩; have HS := Lib.hid hc; clear hc) | (first | (have _t := toka; refine wpList_arith rfl _ _ _ _ _ rfl rfl .f64 _ _ rfl rfl ?_; intro va na hc ha; have Ha := Lib.hid hc; clear hc _t toka; have ht2 : (FloatKind.f64.format.order va 4598175219545276416 == some .gt) = true := tGt (show canon .f64 va = fop .sub .f64 (partO t) (some cHalf) by rw [Ha.out, HV.out]; rfl) rfl HL.out) | (have _t := tokb; refine wpList_arith rfl _ _ _ _ _ rfl rfl .f64 _ _ rfl rfl ?_; intro vb nb hc hb; have Hb := Lib.hid hc; clear hc _t tokb)))
    go_ret
    have hn := neg_canon s hs
    exact ⟨_, _, rfl, rfl, by rw [hn.1, HS.out, Hb.out, Ha.out, HV.out]; rfl, hn.2⟩

/-! ### Any turns -/

/-- the sine of any number, at its full width -/
def wideS : Option Nat → Option Nat
  | none => none
  | some v => if Ieee.double.infRung ≤ rung Ieee.double v then none else if 1075 * 2 ^ 52 ≤ rung Ieee.double v then some 0 else sineO v

theorem bd_wide (o : Option Nat) : Bd 1149 (wideS o) := by
  cases o with
  | none => exact Bd.none _
  | some v =>
    show Bd 1149 (if Ieee.double.infRung ≤ rung Ieee.double v then none else if 1075 * 2 ^ 52 ≤ rung Ieee.double v then some 0 else sineO v)
    by_cases h1 : Ieee.double.infRung ≤ rung Ieee.double v
    · rw [if_pos h1]; exact Bd.none _
    · rw [if_neg h1]
      by_cases h2 : 1075 * 2 ^ 52 ≤ rung Ieee.double v
      · rw [if_pos h2]; intro x hx; cases hx; decide
      · rw [if_neg h2]; exact (bd_sineOf (up_part (Nat.lt_of_not_le h2))).mono (by decide)

theorem farFin {v : Nat} (h : rung Ieee.double v < Ieee.double.infRung) : canon .f64 v = some v := canon_fin h

theorem implFar (v : Nat) (w : World) (hv : v < 2 ^ 64) (h : rung Ieee.double v < Ieee.double.infRung) : Calls Try.prog 29 #[.float .f64 v] w fun e w' => e = .returned (.bool (decide (1075 * 2 ^ 52 ≤ rung Ieee.double v))) ∧ w = w' := by
  have hN : isN .f64 (rung Ieee.double v) = false := isN_of_le (by show rung Ieee.double (rung Ieee.double v) ≤ _; rw [rung_rung]; exact Nat.le_of_lt h)
  have ht : (FloatKind.f64.format.order (rung Ieee.double v) 4841369599423283200 == some .gt || FloatKind.f64.format.order (rung Ieee.double v) 4841369599423283200 == some .eq) = decide (1075 * 2 ^ 52 ≤ rung Ieee.double v) := by
    rw [order_key .f64 hN (by decide), Bool.eq_iff_iff]
    have e1 : key FloatKind.f64.format (rung Ieee.double v) = rung Ieee.double v := key_rung _ _
    have e2 : key FloatKind.f64.format 4841369599423283200 = ((1075 * 2 ^ 52 : Nat) : Int) := by decide
    rw [e1, e2]
    simp only [Bool.or_eq_true, beq_iff_eq, Option.some.injEq, decide_eq_true_eq, Int.compare_eq_gt, Int.compare_eq_eq]
    omega
  go_enter Try.func29, Try.ntmps29
  go_wp2_with (go_at_call 43; refine (absAny _ _ hv).mono ?_; rintro e w' ⟨rfl, rfl⟩)
  go_ret
  exact ⟨rfl, rfl⟩

end Go.Proofs.Ytdcpkndkehdhiad
