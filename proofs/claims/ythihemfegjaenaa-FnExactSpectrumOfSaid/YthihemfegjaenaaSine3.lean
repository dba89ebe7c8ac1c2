/- The walk of the model's sine of any turns. Conditions: none beyond those of each theorem. -/
import Derived.Test.YthihemfegjaenaaBu1
namespace Go.Proofs.Ythihemfegjaenaa
open Go Ieee Go.RowKit

theorem far_facts (t : Nat) (h : rung Ieee.double t < Ieee.double.infRung) :
    (FloatKind.f64.format.order t 4841369599423283200 == some .gt || FloatKind.f64.format.order t 4841369599423283200 == some .eq) = decide (sgn Ieee.double t = false ∧ 1075 * 2 ^ 52 ≤ rung Ieee.double t) ∧
    (FloatKind.f64.format.order t 14064741636278059008 == some .lt || FloatKind.f64.format.order t 14064741636278059008 == some .eq) = decide (sgn Ieee.double t = true ∧ 1075 * 2 ^ 52 ≤ rung Ieee.double t) := by
  have hN : isN .f64 t = false := isN_fin h
  have e0 : FloatKind.f64.format = Ieee.double := rfl
  have k1 : key Ieee.double 4841369599423283200 = ((1075 * 2 ^ 52 : Nat) : Int) := by decide
  have k2 : key Ieee.double 14064741636278059008 = -((1075 * 2 ^ 52 : Nat) : Int) := by decide
  have kt : key Ieee.double t = if sgn Ieee.double t then -(rung Ieee.double t : Int) else rung Ieee.double t := rfl
  constructor
  · rw [order_key .f64 hN (by decide), Bool.eq_iff_iff, e0, k1, kt]
    simp only [Bool.or_eq_true, beq_iff_eq, Option.some.injEq, decide_eq_true_eq, Int.compare_eq_gt, Int.compare_eq_eq]
    cases sgn Ieee.double t <;> simp <;> omega
  · rw [order_key .f64 hN (by decide), Bool.eq_iff_iff, e0, k2, kt]
    simp only [Bool.or_eq_true, beq_iff_eq, Option.some.injEq, decide_eq_true_eq, Int.compare_eq_lt, Int.compare_eq_eq]
    cases sgn Ieee.double t <;> simp <;> omega

theorem specWideNan (t : Nat) (w : World) (h : finB .f64 t = false) : Calls Try.prog 126 #[.float .f64 t] w (DRet w none) := by
  go_enter Try.func126, Try.ntmps126
  go_wp2_with (first | (go_at_call 140; refine (nanAny _).mono ?_; rintro e w' ⟨rfl, rfl⟩) | (refine wpList_arith rfl _ _ _ _ _ rfl rfl .f64 _ _ rfl rfl ?_; intro v n hc hv; have ht : (FloatKind.f64.format.order v 0 != some .eq) = true := congrArg not ((finite_test .f64 hc).trans h); clear hc))
  go_ret
  exact ⟨_, _, rfl, rfl, nan_canon, by decide⟩

theorem specWideFar (t : Nat) (w : World) (h : finB .f64 t = true) (hf : 1075 * 2 ^ 52 ≤ rung Ieee.double t) : Calls Try.prog 126 #[.float .f64 t] w (DRet w (some 0)) := by
  obtain ⟨f1, f2⟩ := far_facts t (of_decide_eq_true h)
  cases hs : sgn Ieee.double t
  · have g1 := f1.trans (decide_eq_true ⟨hs, hf⟩)
    clear f1 f2
    go_enter Try.func126, Try.ntmps126
    go_wp2_with (refine wpList_arith rfl _ _ _ _ _ rfl rfl .f64 _ _ rfl rfl ?_; intro v n hc hv; have ht : (FloatKind.f64.format.order v 0 != some .eq) = false := congrArg not ((finite_test .f64 hc).trans h); clear hc)
    go_ret
    exact ⟨_, _, rfl, rfl, rfl, by decide⟩
  · have g1 := f1.trans (decide_eq_false (fun q => by rw [hs] at q; cases q.1))
    have g2 := f2.trans (decide_eq_true ⟨hs, hf⟩)
    clear f1 f2
    go_enter Try.func126, Try.ntmps126
    go_wp2_with (refine wpList_arith rfl _ _ _ _ _ rfl rfl .f64 _ _ rfl rfl ?_; intro v n hc hv; have ht : (FloatKind.f64.format.order v 0 != some .eq) = false := congrArg not ((finite_test .f64 hc).trans h); clear hc)
    go_ret
    exact ⟨_, _, rfl, rfl, rfl, by decide⟩

theorem wrapK : ∀ i : Nat, i < 8 → wrap64 (2 * (8 - (i : Int)) * (2 * (8 - (i : Int)) + 1)) = 2 * (8 - (i : Int)) * (2 * (8 - (i : Int)) + 1) := by decide +kernel

set_option maxHeartbeats 4000000 in
theorem specWideNear (t : Nat) (w : World) (hr : rung Ieee.double t < 1075 * 2 ^ 52) : Calls Try.prog 126 #[.float .f64 t] w (DRet w (sineO t)) := by
  have h : finB .f64 t = true := decide_eq_true (Nat.lt_trans hr r52)
  obtain ⟨f1, f2⟩ := far_facts t (of_decide_eq_true h)
  have g1 := f1.trans (decide_eq_false (fun q => absurd q.2 (Nat.not_le_of_lt hr)))
  have g2 := f2.trans (decide_eq_false (fun q => absurd q.2 (Nat.not_le_of_lt hr)))
  have hcv := fun w' => run_convert_float_int (P := Try.prog) w' 114 2 .f64 .i64 t (wholeOf t) (by rw [Try.underlying114]; rfl) Try.underlying2 (whole_conv hr)
  clear f1 f2
  cases hlt : ltO (cutO t) (some 0) <;> cases hge : geO (partO t) (some cHalf) <;> cases hgt : gtO (halvedO (partO t)) (some cQuarter)
  · have hp : partO t = cutO t := by unfold partO; rw [hlt]; rfl
    have hh : halvedO (partO t) = partO t := by unfold halvedO; rw [hge]; rfl
    have hf : foldedO (partO t) = halvedO (partO t) := by unfold foldedO; rw [hgt]; rfl
    have hs : sineO t = shortO (foldedO (partO t)) := by unfold sineO sineOf; rw [hge]; rfl
    have hsh : shortO (foldedO (partO t)) = fop .mul .f64 (fop .mul .f64 (foldedO (partO t)) (some cTau)) (polyO (fop .mul .f64 (fop .mul .f64 (foldedO (partO t)) (some cTau)) (fop .mul .f64 (foldedO (partO t)) (some cTau))) 8) := rfl
    have HP := Lib.hid hp
    have HH := Lib.hid hh
    have HF := Lib.hid hf
    have HSI := Lib.hid hs
    have HSH := Lib.hid hsh
    have HT := Lib.hid hlt
    have HG := Lib.hid hge
    have HL := Lib.hid hgt
    clear hp hh hf hs hsh hlt hge hgt
    have toky : True := trivial; have toka : True := trivial; have tokg : True := trivial; have tokk : True := trivial
    go_enter Try.func126, Try.ntmps126
    go_wp2_with (first | (have _t := toky; refine wpList_arith rfl _ _ _ _ _ rfl rfl .f64 _ _ rfl rfl ?_; intro vy ny hc hy; have Hy := Lib.hid hc; clear hc _t toky; have ht : (FloatKind.f64.format.order vy 0 != some .eq) = false := congrArg not ((finite_test .f64 Hy.out).trans h)) | (have _t := toka; refine wpList_arith rfl _ _ _ _ _ rfl rfl .f64 _ _ rfl rfl ?_; intro va na hc ha; have Ha := Lib.hid hc; clear hc _t toka; have t0 : (FloatKind.f64.format.order va 0 == some .lt) = false := tLt (o := cutO t) Ha.out rfl HT.out; have q1 : canon .f64 va = partO t := (by rw [Ha.out, HP.out]; rfl); have Q1 := Lib.hid q1; clear q1; have t1 : (FloatKind.f64.format.order va 4602678819172646912 == some .gt || FloatKind.f64.format.order va 4602678819172646912 == some .eq) = false := tGe Q1.out rfl HG.out; have q2 : canon .f64 va = halvedO (partO t) := Q1.out.trans HH.out.symm; have Q2 := Lib.hid q2; clear q2; have t2 : (FloatKind.f64.format.order va 4598175219545276416 == some .gt) = false := tGt Q2.out rfl HL.out) | (have _t := tokg; refine wpList_arith rfl _ _ _ _ _ rfl rfl .f64 _ _ rfl rfl ?_; intro vg ng hc hg; have Hg := Lib.hid hc; clear hc _t tokg) | (have _t := tokk; refine wpList_arith rfl _ _ _ _ _ rfl rfl .f64 _ _ rfl rfl ?_; intro vk nk hc hk; have Hk := Lib.hid hc; clear hc _t tokk))
    have q3 : canon .f64 va = foldedO (partO t) := by rw [HF.out, Q2.out]
    have hz : canon .f64 vg = fop .mul .f64 (foldedO (partO t)) (some cTau) := by rw [Hg.out, q3]; rfl
    have hu : canon .f64 vk = fop .mul .f64 (fop .mul .f64 (foldedO (partO t)) (some cTau)) (fop .mul .f64 (foldedO (partO t)) (some cTau)) := by rw [Hk.out, hz]
    have HU := Lib.hid hu
    have HZ := Lib.hid hz
    clear hu hz q3
    generalize fop .mul .f64 (foldedO (partO t)) (some cTau) = Z at *
    go_loopw [7, 8] (fun p k wr => ∃ (i r : Nat) (K : Int), i ≤ 8 ∧ K = 8 - (i : Int) ∧ k = .int .i64 K ∧ p = .float .f64 r ∧ canon .f64 r = polyO (fop .mul .f64 Z Z) i ∧ ∃ m, wr = w.drewN m) (fun _ k _ => (intOf k).toNat)
    case atStart => exact ⟨0, _, 8, by omega, rfl, rfl, rfl, rfl, _, rfl⟩
    case round =>
      obtain ⟨i, r, K, hi, hK, rfl, rfl, hr2, m, rfl⟩ := hrel
      have HR := Lib.hid hr2
      have HK := Lib.hid hK
      clear hr2
      by_cases h8 : i < 8
      · have hb : canon .f64 (floatOfInt .f64 (2 * (8 - (i : Int)) * (2 * (8 - (i : Int)) + 1))) = some (below i) := canon_fin (below_fin i h8).1
        have HB := Lib.hid hb
        clear hb
        have hk1 : (1 : Int) ≤ K := by omega
        have hk8 : K ≤ 8 := by omega
        clear hK
        have tokp : True := trivial; have tokq : True := trivial; have toks : True := trivial
        go_wp2_with (first | (have _t := tokp; refine wpList_arith rfl _ _ _ _ _ rfl rfl .f64 _ _ rfl rfl ?_; intro vp np hc hp; have Hp := Lib.hid hc; clear hc _t tokp) | (have _t := tokq; refine wpList_arith rfl _ _ _ _ _ rfl rfl .f64 _ _ rfl rfl ?_; intro vq nq hc hq; have Hq := Lib.hid hc; clear hc _t tokq) | (have _t := toks; refine wpList_arith rfl _ _ _ _ _ rfl rfl .f64 _ _ rfl rfl ?_; intro vs ns hc hs; have Hs := Lib.hid hc; clear hc _t toks))
        have hw := wrapK i h8
        rw [← HK.out] at hw
        have g5 : canon .f64 vs = polyO (fop .mul .f64 Z Z) (i + 1) := by
          rw [Hs.out, Hq.out, Hp.out, hw, HK.out, HB.out, HU.out, HR.out]; rfl
        go_roundw
        case rel => exact ⟨i + 1, vs, _, by omega, by have := HK.out; omega, rfl, rfl, g5, _, rfl⟩
        case measure => show (K - 1).toNat < K.toNat; omega
      · obtain rfl : i = 8 := by omega
        obtain rfl : K = 0 := by omega
        clear hK HK
        have tokx : True := trivial
        go_wp2_with (have _t := tokx; refine wpList_arith rfl _ _ _ _ _ rfl rfl .f64 _ _ rfl rfl ?_; intro vx nx hc hx; have Hx := Lib.hid hc; clear hc _t tokx)
        go_ret
        exact ⟨vx, _, rfl, rfl, by rw [HSI.out, HSH.out, Hx.out, HZ.out, HR.out], hx⟩
  · have hp : partO t = cutO t := by unfold partO; rw [hlt]; rfl
    have hh : halvedO (partO t) = partO t := by unfold halvedO; rw [hge]; rfl
    have hf : foldedO (partO t) = fop .sub .f64 (some cHalf) (halvedO (partO t)) := by unfold foldedO; rw [hgt]; rfl
    have hs : sineO t = shortO (foldedO (partO t)) := by unfold sineO sineOf; rw [hge]; rfl
    have hsh : shortO (foldedO (partO t)) = fop .mul .f64 (fop .mul .f64 (foldedO (partO t)) (some cTau)) (polyO (fop .mul .f64 (fop .mul .f64 (foldedO (partO t)) (some cTau)) (fop .mul .f64 (foldedO (partO t)) (some cTau))) 8) := rfl
    have HP := Lib.hid hp
    have HH := Lib.hid hh
    have HF := Lib.hid hf
    have HSI := Lib.hid hs
    have HSH := Lib.hid hsh
    have HT := Lib.hid hlt
    have HG := Lib.hid hge
    have HL := Lib.hid hgt
    clear hp hh hf hs hsh hlt hge hgt
    have toky : True := trivial; have toka : True := trivial; have toke : True := trivial; have tokg : True := trivial; have tokk : True := trivial
    go_enter Try.func126, Try.ntmps126
    go_wp2_with (first | (have _t := toky; refine wpList_arith rfl _ _ _ _ _ rfl rfl .f64 _ _ rfl rfl ?_; intro vy ny hc hy; have Hy := Lib.hid hc; clear hc _t toky; have ht : (FloatKind.f64.format.order vy 0 != some .eq) = false := congrArg not ((finite_test .f64 Hy.out).trans h)) | (have _t := toka; refine wpList_arith rfl _ _ _ _ _ rfl rfl .f64 _ _ rfl rfl ?_; intro va na hc ha; have Ha := Lib.hid hc; clear hc _t toka; have t0 : (FloatKind.f64.format.order va 0 == some .lt) = false := tLt (o := cutO t) Ha.out rfl HT.out; have q1 : canon .f64 va = partO t := (by rw [Ha.out, HP.out]; rfl); have Q1 := Lib.hid q1; clear q1; have t1 : (FloatKind.f64.format.order va 4602678819172646912 == some .gt || FloatKind.f64.format.order va 4602678819172646912 == some .eq) = false := tGe Q1.out rfl HG.out; have q2 : canon .f64 va = halvedO (partO t) := Q1.out.trans HH.out.symm; have Q2 := Lib.hid q2; clear q2; have t2 : (FloatKind.f64.format.order va 4598175219545276416 == some .gt) = true := tGt Q2.out rfl HL.out) | (have _t := toke; refine wpList_arith rfl _ _ _ _ _ rfl rfl .f64 _ _ rfl rfl ?_; intro ve ne hc he; have He := Lib.hid hc; clear hc _t toke) | (have _t := tokg; refine wpList_arith rfl _ _ _ _ _ rfl rfl .f64 _ _ rfl rfl ?_; intro vg ng hc hg; have Hg := Lib.hid hc; clear hc _t tokg) | (have _t := tokk; refine wpList_arith rfl _ _ _ _ _ rfl rfl .f64 _ _ rfl rfl ?_; intro vk nk hc hk; have Hk := Lib.hid hc; clear hc _t tokk))
    have q3 : canon .f64 ve = foldedO (partO t) := by rw [He.out, HF.out, Q2.out]; rfl
    have hz : canon .f64 vg = fop .mul .f64 (foldedO (partO t)) (some cTau) := by rw [Hg.out, q3]; rfl
    have hu : canon .f64 vk = fop .mul .f64 (fop .mul .f64 (foldedO (partO t)) (some cTau)) (fop .mul .f64 (foldedO (partO t)) (some cTau)) := by rw [Hk.out, hz]
    have HU := Lib.hid hu
    have HZ := Lib.hid hz
    clear hu hz q3
    generalize fop .mul .f64 (foldedO (partO t)) (some cTau) = Z at *
    go_loopw [7, 8] (fun p k wr => ∃ (i r : Nat) (K : Int), i ≤ 8 ∧ K = 8 - (i : Int) ∧ k = .int .i64 K ∧ p = .float .f64 r ∧ canon .f64 r = polyO (fop .mul .f64 Z Z) i ∧ ∃ m, wr = w.drewN m) (fun _ k _ => (intOf k).toNat)
    case atStart => exact ⟨0, _, 8, by omega, rfl, rfl, rfl, rfl, _, rfl⟩
    case round =>
      obtain ⟨i, r, K, hi, hK, rfl, rfl, hr2, m, rfl⟩ := hrel
      have HR := Lib.hid hr2
      have HK := Lib.hid hK
      clear hr2
      by_cases h8 : i < 8
      · have hb : canon .f64 (floatOfInt .f64 (2 * (8 - (i : Int)) * (2 * (8 - (i : Int)) + 1))) = some (below i) := canon_fin (below_fin i h8).1
        have HB := Lib.hid hb
        clear hb
        have hk1 : (1 : Int) ≤ K := by omega
        have hk8 : K ≤ 8 := by omega
        clear hK
        have tokp : True := trivial; have tokq : True := trivial; have toks : True := trivial
        go_wp2_with (first | (have _t := tokp; refine wpList_arith rfl _ _ _ _ _ rfl rfl .f64 _ _ rfl rfl ?_; intro vp np hc hp; have Hp := Lib.hid hc; clear hc _t tokp) | (have _t := tokq; refine wpList_arith rfl _ _ _ _ _ rfl rfl .f64 _ _ rfl rfl ?_; intro vq nq hc hq; have Hq := Lib.hid hc; clear hc _t tokq) | (have _t := toks; refine wpList_arith rfl _ _ _ _ _ rfl rfl .f64 _ _ rfl rfl ?_; intro vs ns hc hs; have Hs := Lib.hid hc; clear hc _t toks))
        have hw := wrapK i h8
        rw [← HK.out] at hw
        have g5 : canon .f64 vs = polyO (fop .mul .f64 Z Z) (i + 1) := by
          rw [Hs.out, Hq.out, Hp.out, hw, HK.out, HB.out, HU.out, HR.out]; rfl
        go_roundw
        case rel => exact ⟨i + 1, vs, _, by omega, by have := HK.out; omega, rfl, rfl, g5, _, rfl⟩
        case measure => show (K - 1).toNat < K.toNat; omega
      · obtain rfl : i = 8 := by omega
        obtain rfl : K = 0 := by omega
        clear hK HK
        have tokx : True := trivial
        go_wp2_with (have _t := tokx; refine wpList_arith rfl _ _ _ _ _ rfl rfl .f64 _ _ rfl rfl ?_; intro vx nx hc hx; have Hx := Lib.hid hc; clear hc _t tokx)
        go_ret
        exact ⟨vx, _, rfl, rfl, by rw [HSI.out, HSH.out, Hx.out, HZ.out, HR.out], hx⟩
  · have hp : partO t = cutO t := by unfold partO; rw [hlt]; rfl
    have hh : halvedO (partO t) = fop .sub .f64 (partO t) (some cHalf) := by unfold halvedO; rw [hge]; rfl
    have hf : foldedO (partO t) = halvedO (partO t) := by unfold foldedO; rw [hgt]; rfl
    have hs : sineO t = (shortO (foldedO (partO t))).map (Op.negFloat .f64) := by unfold sineO sineOf; rw [hge]; rfl
    have hsh : shortO (foldedO (partO t)) = fop .mul .f64 (fop .mul .f64 (foldedO (partO t)) (some cTau)) (polyO (fop .mul .f64 (fop .mul .f64 (foldedO (partO t)) (some cTau)) (fop .mul .f64 (foldedO (partO t)) (some cTau))) 8) := rfl
    have HP := Lib.hid hp
    have HH := Lib.hid hh
    have HF := Lib.hid hf
    have HSI := Lib.hid hs
    have HSH := Lib.hid hsh
    have HT := Lib.hid hlt
    have HG := Lib.hid hge
    have HL := Lib.hid hgt
    clear hp hh hf hs hsh hlt hge hgt
    have toky : True := trivial; have toka : True := trivial; have tokd : True := trivial; have tokg : True := trivial; have tokk : True := trivial
    go_enter Try.func126, Try.ntmps126
    go_wp2_with (first | (have _t := toky; refine wpList_arith rfl _ _ _ _ _ rfl rfl .f64 _ _ rfl rfl ?_; intro vy ny hc hy; have Hy := Lib.hid hc; clear hc _t toky; have ht : (FloatKind.f64.format.order vy 0 != some .eq) = false := congrArg not ((finite_test .f64 Hy.out).trans h)) | (have _t := toka; refine wpList_arith rfl _ _ _ _ _ rfl rfl .f64 _ _ rfl rfl ?_; intro va na hc ha; have Ha := Lib.hid hc; clear hc _t toka; have t0 : (FloatKind.f64.format.order va 0 == some .lt) = false := tLt (o := cutO t) Ha.out rfl HT.out; have q1 : canon .f64 va = partO t := (by rw [Ha.out, HP.out]; rfl); have Q1 := Lib.hid q1; clear q1; have t1 : (FloatKind.f64.format.order va 4602678819172646912 == some .gt || FloatKind.f64.format.order va 4602678819172646912 == some .eq) = true := tGe Q1.out rfl HG.out) | (have _t := tokd; refine wpList_arith rfl _ _ _ _ _ rfl rfl .f64 _ _ rfl rfl ?_; intro vd nd hc hd; have Hd := Lib.hid hc; clear hc _t tokd; have q2 : canon .f64 vd = halvedO (partO t) := (by rw [Hd.out, Q1.out, HH.out]; rfl); have Q2 := Lib.hid q2; clear q2; have t2 : (FloatKind.f64.format.order vd 4598175219545276416 == some .gt) = false := tGt Q2.out rfl HL.out) | (have _t := tokg; refine wpList_arith rfl _ _ _ _ _ rfl rfl .f64 _ _ rfl rfl ?_; intro vg ng hc hg; have Hg := Lib.hid hc; clear hc _t tokg) | (have _t := tokk; refine wpList_arith rfl _ _ _ _ _ rfl rfl .f64 _ _ rfl rfl ?_; intro vk nk hc hk; have Hk := Lib.hid hc; clear hc _t tokk))
    have q3 : canon .f64 vd = foldedO (partO t) := by rw [HF.out, Q2.out]
    have hz : canon .f64 vg = fop .mul .f64 (foldedO (partO t)) (some cTau) := by rw [Hg.out, q3]; rfl
    have hu : canon .f64 vk = fop .mul .f64 (fop .mul .f64 (foldedO (partO t)) (some cTau)) (fop .mul .f64 (foldedO (partO t)) (some cTau)) := by rw [Hk.out, hz]
    have HU := Lib.hid hu
    have HZ := Lib.hid hz
    clear hu hz q3
    generalize fop .mul .f64 (foldedO (partO t)) (some cTau) = Z at *
    go_loopw [7, 8] (fun p k wr => ∃ (i r : Nat) (K : Int), i ≤ 8 ∧ K = 8 - (i : Int) ∧ k = .int .i64 K ∧ p = .float .f64 r ∧ canon .f64 r = polyO (fop .mul .f64 Z Z) i ∧ ∃ m, wr = w.drewN m) (fun _ k _ => (intOf k).toNat)
    case atStart => exact ⟨0, _, 8, by omega, rfl, rfl, rfl, rfl, _, rfl⟩
    case round =>
      obtain ⟨i, r, K, hi, hK, rfl, rfl, hr2, m, rfl⟩ := hrel
      have HR := Lib.hid hr2
      have HK := Lib.hid hK
      clear hr2
      by_cases h8 : i < 8
      · have hb : canon .f64 (floatOfInt .f64 (2 * (8 - (i : Int)) * (2 * (8 - (i : Int)) + 1))) = some (below i) := canon_fin (below_fin i h8).1
        have HB := Lib.hid hb
        clear hb
        have hk1 : (1 : Int) ≤ K := by omega
        have hk8 : K ≤ 8 := by omega
        clear hK
        have tokp : True := trivial; have tokq : True := trivial; have toks : True := trivial
        go_wp2_with (first | (have _t := tokp; refine wpList_arith rfl _ _ _ _ _ rfl rfl .f64 _ _ rfl rfl ?_; intro vp np hc hp; have Hp := Lib.hid hc; clear hc _t tokp) | (have _t := tokq; refine wpList_arith rfl _ _ _ _ _ rfl rfl .f64 _ _ rfl rfl ?_; intro vq nq hc hq; have Hq := Lib.hid hc; clear hc _t tokq) | (have _t := toks; refine wpList_arith rfl _ _ _ _ _ rfl rfl .f64 _ _ rfl rfl ?_; intro vs ns hc hs; have Hs := Lib.hid hc; clear hc _t toks))
        have hw := wrapK i h8
        rw [← HK.out] at hw
        have g5 : canon .f64 vs = polyO (fop .mul .f64 Z Z) (i + 1) := by
          rw [Hs.out, Hq.out, Hp.out, hw, HK.out, HB.out, HU.out, HR.out]; rfl
        go_roundw
        case rel => exact ⟨i + 1, vs, _, by omega, by have := HK.out; omega, rfl, rfl, g5, _, rfl⟩
        case measure => show (K - 1).toNat < K.toNat; omega
      · obtain rfl : i = 8 := by omega
        obtain rfl : K = 0 := by omega
        clear hK HK
        have tokx : True := trivial
        go_wp2_with (have _t := tokx; refine wpList_arith rfl _ _ _ _ _ rfl rfl .f64 _ _ rfl rfl ?_; intro vx nx hc hx; have Hx := Lib.hid hc; clear hc _t tokx)
        go_ret
        have hn := neg_canon vx hx; exact ⟨_, _, rfl, rfl, by rw [HSI.out, HSH.out, hn.1, Hx.out, HZ.out, HR.out], hn.2⟩
  · have hp : partO t = cutO t := by unfold partO; rw [hlt]; rfl
    have hh : halvedO (partO t) = fop .sub .f64 (partO t) (some cHalf) := by unfold halvedO; rw [hge]; rfl
    have hf : foldedO (partO t) = fop .sub .f64 (some cHalf) (halvedO (partO t)) := by unfold foldedO; rw [hgt]; rfl
    have hs : sineO t = (shortO (foldedO (partO t))).map (Op.negFloat .f64) := by unfold sineO sineOf; rw [hge]; rfl
    have hsh : shortO (foldedO (partO t)) = fop .mul .f64 (fop .mul .f64 (foldedO (partO t)) (some cTau)) (polyO (fop .mul .f64 (fop .mul .f64 (foldedO (partO t)) (some cTau)) (fop .mul .f64 (foldedO (partO t)) (some cTau))) 8) := rfl
    have HP := Lib.hid hp
    have HH := Lib.hid hh
    have HF := Lib.hid hf
    have HSI := Lib.hid hs
    have HSH := Lib.hid hsh
    have HT := Lib.hid hlt
    have HG := Lib.hid hge
    have HL := Lib.hid hgt
    clear hp hh hf hs hsh hlt hge hgt
    have toky : True := trivial; have toka : True := trivial; have tokd : True := trivial; have toke : True := trivial; have tokg : True := trivial; have tokk : True := trivial
    go_enter Try.func126, Try.ntmps126
    go_wp2_with (first | (have _t := toky; refine wpList_arith rfl _ _ _ _ _ rfl rfl .f64 _ _ rfl rfl ?_; intro vy ny hc hy; have Hy := Lib.hid hc; clear hc _t toky; have ht : (FloatKind.f64.format.order vy 0 != some .eq) = false := congrArg not ((finite_test .f64 Hy.out).trans h)) | (have _t := toka; refine wpList_arith rfl _ _ _ _ _ rfl rfl .f64 _ _ rfl rfl ?_; intro va na hc ha; have Ha := Lib.hid hc; clear hc _t toka; have t0 : (FloatKind.f64.format.order va 0 == some .lt) = false := tLt (o := cutO t) Ha.out rfl HT.out; have q1 : canon .f64 va = partO t := (by rw [Ha.out, HP.out]; rfl); have Q1 := Lib.hid q1; clear q1; have t1 : (FloatKind.f64.format.order va 4602678819172646912 == some .gt || FloatKind.f64.format.order va 4602678819172646912 == some .eq) = true := tGe Q1.out rfl HG.out) | (have _t := tokd; refine wpList_arith rfl _ _ _ _ _ rfl rfl .f64 _ _ rfl rfl ?_; intro vd nd hc hd; have Hd := Lib.hid hc; clear hc _t tokd; have q2 : canon .f64 vd = halvedO (partO t) := (by rw [Hd.out, Q1.out, HH.out]; rfl); have Q2 := Lib.hid q2; clear q2; have t2 : (FloatKind.f64.format.order vd 4598175219545276416 == some .gt) = true := tGt Q2.out rfl HL.out) | (have _t := toke; refine wpList_arith rfl _ _ _ _ _ rfl rfl .f64 _ _ rfl rfl ?_; intro ve ne hc he; have He := Lib.hid hc; clear hc _t toke) | (have _t := tokg; refine wpList_arith rfl _ _ _ _ _ rfl rfl .f64 _ _ rfl rfl ?_; intro vg ng hc hg; have Hg := Lib.hid hc; clear hc _t tokg) | (have _t := tokk; refine wpList_arith rfl _ _ _ _ _ rfl rfl .f64 _ _ rfl rfl ?_; intro vk nk hc hk; have Hk := Lib.hid hc; clear hc _t tokk))
    have q3 : canon .f64 ve = foldedO (partO t) := by rw [He.out, HF.out, Q2.out]; rfl
    have hz : canon .f64 vg = fop .mul .f64 (foldedO (partO t)) (some cTau) := by rw [Hg.out, q3]; rfl
    have hu : canon .f64 vk = fop .mul .f64 (fop .mul .f64 (foldedO (partO t)) (some cTau)) (fop .mul .f64 (foldedO (partO t)) (some cTau)) := by rw [Hk.out, hz]
    have HU := Lib.hid hu
    have HZ := Lib.hid hz
    clear hu hz q3
    generalize fop .mul .f64 (foldedO (partO t)) (some cTau) = Z at *
    go_loopw [7, 8] (fun p k wr => ∃ (i r : Nat) (K : Int), i ≤ 8 ∧ K = 8 - (i : Int) ∧ k = .int .i64 K ∧ p = .float .f64 r ∧ canon .f64 r = polyO (fop .mul .f64 Z Z) i ∧ ∃ m, wr = w.drewN m) (fun _ k _ => (intOf k).toNat)
    case atStart => exact ⟨0, _, 8, by omega, rfl, rfl, rfl, rfl, _, rfl⟩
    case round =>
      obtain ⟨i, r, K, hi, hK, rfl, rfl, hr2, m, rfl⟩ := hrel
      have HR := Lib.hid hr2
      have HK := Lib.hid hK
      clear hr2
      by_cases h8 : i < 8
      · have hb : canon .f64 (floatOfInt .f64 (2 * (8 - (i : Int)) * (2 * (8 - (i : Int)) + 1))) = some (below i) := canon_fin (below_fin i h8).1
        have HB := Lib.hid hb
        clear hb
        have hk1 : (1 : Int) ≤ K := by omega
        have hk8 : K ≤ 8 := by omega
        clear hK
        have tokp : True := trivial; have tokq : True := trivial; have toks : True := trivial
        go_wp2_with (first | (have _t := tokp; refine wpList_arith rfl _ _ _ _ _ rfl rfl .f64 _ _ rfl rfl ?_; intro vp np hc hp; have Hp := Lib.hid hc; clear hc _t tokp) | (have _t := tokq; refine wpList_arith rfl _ _ _ _ _ rfl rfl .f64 _ _ rfl rfl ?_; intro vq nq hc hq; have Hq := Lib.hid hc; clear hc _t tokq) | (have _t := toks; refine wpList_arith rfl _ _ _ _ _ rfl rfl .f64 _ _ rfl rfl ?_; intro vs ns hc hs; have Hs := Lib.hid hc; clear hc _t toks))
        have hw := wrapK i h8
        rw [← HK.out] at hw
        have g5 : canon .f64 vs = polyO (fop .mul .f64 Z Z) (i + 1) := by
          rw [Hs.out, Hq.out, Hp.out, hw, HK.out, HB.out, HU.out, HR.out]; rfl
        go_roundw
        case rel => exact ⟨i + 1, vs, _, by omega, by have := HK.out; omega, rfl, rfl, g5, _, rfl⟩
        case measure => show (K - 1).toNat < K.toNat; omega
      · obtain rfl : i = 8 := by omega
        obtain rfl : K = 0 := by omega
        clear hK HK
        have tokx : True := trivial
        go_wp2_with (have _t := tokx; refine wpList_arith rfl _ _ _ _ _ rfl rfl .f64 _ _ rfl rfl ?_; intro vx nx hc hx; have Hx := Lib.hid hc; clear hc _t tokx)
        go_ret
        have hn := neg_canon vx hx; exact ⟨_, _, rfl, rfl, by rw [HSI.out, HSH.out, hn.1, Hx.out, HZ.out, HR.out], hn.2⟩
  · have hp : partO t = fop .add .f64 (cutO t) (some c1) := by unfold partO; rw [hlt]; rfl
    have hh : halvedO (partO t) = partO t := by unfold halvedO; rw [hge]; rfl
    have hf : foldedO (partO t) = halvedO (partO t) := by unfold foldedO; rw [hgt]; rfl
    have hs : sineO t = shortO (foldedO (partO t)) := by unfold sineO sineOf; rw [hge]; rfl
    have hsh : shortO (foldedO (partO t)) = fop .mul .f64 (fop .mul .f64 (foldedO (partO t)) (some cTau)) (polyO (fop .mul .f64 (fop .mul .f64 (foldedO (partO t)) (some cTau)) (fop .mul .f64 (foldedO (partO t)) (some cTau))) 8) := rfl
    have HP := Lib.hid hp
    have HH := Lib.hid hh
    have HF := Lib.hid hf
    have HSI := Lib.hid hs
    have HSH := Lib.hid hsh
    have HT := Lib.hid hlt
    have HG := Lib.hid hge
    have HL := Lib.hid hgt
    clear hp hh hf hs hsh hlt hge hgt
    have toky : True := trivial; have toka : True := trivial; have tokb : True := trivial; have tokg : True := trivial; have tokk : True := trivial
    go_enter Try.func126, Try.ntmps126
    go_wp2_with (first | (have _t := toky; refine wpList_arith rfl _ _ _ _ _ rfl rfl .f64 _ _ rfl rfl ?_; intro vy ny hc hy; have Hy := Lib.hid hc; clear hc _t toky; have ht : (FloatKind.f64.format.order vy 0 != some .eq) = false := congrArg not ((finite_test .f64 Hy.out).trans h)) | (have _t := toka; refine wpList_arith rfl _ _ _ _ _ rfl rfl .f64 _ _ rfl rfl ?_; intro va na hc ha; have Ha := Lib.hid hc; clear hc _t toka; have t0 : (FloatKind.f64.format.order va 0 == some .lt) = true := tLt (o := cutO t) Ha.out rfl HT.out) | (have _t := tokb; refine wpList_arith rfl _ _ _ _ _ rfl rfl .f64 _ _ rfl rfl ?_; intro vb nb hc hb; have Hb := Lib.hid hc; clear hc _t tokb; have q1 : canon .f64 vb = partO t := (by rw [Hb.out, Ha.out, HP.out]; rfl); have Q1 := Lib.hid q1; clear q1; have t1 : (FloatKind.f64.format.order vb 4602678819172646912 == some .gt || FloatKind.f64.format.order vb 4602678819172646912 == some .eq) = false := tGe Q1.out rfl HG.out; have q2 : canon .f64 vb = halvedO (partO t) := Q1.out.trans HH.out.symm; have Q2 := Lib.hid q2; clear q2; have t2 : (FloatKind.f64.format.order vb 4598175219545276416 == some .gt) = false := tGt Q2.out rfl HL.out) | (have _t := tokg; refine wpList_arith rfl _ _ _ _ _ rfl rfl .f64 _ _ rfl rfl ?_; intro vg ng hc hg; have Hg := Lib.hid hc; clear hc _t tokg) | (have _t := tokk; refine wpList_arith rfl _ _ _ _ _ rfl rfl .f64 _ _ rfl rfl ?_; intro vk nk hc hk; have Hk := Lib.hid hc; clear hc _t tokk))
    have q3 : canon .f64 vb = foldedO (partO t) := by rw [HF.out, Q2.out]
    have hz : canon .f64 vg = fop .mul .f64 (foldedO (partO t)) (some cTau) := by rw [Hg.out, q3]; rfl
    have hu : canon .f64 vk = fop .mul .f64 (fop .mul .f64 (foldedO (partO t)) (some cTau)) (fop .mul .f64 (foldedO (partO t)) (some cTau)) := by rw [Hk.out, hz]
    have HU := Lib.hid hu
    have HZ := Lib.hid hz
    clear hu hz q3
    generalize fop .mul .f64 (foldedO (partO t)) (some cTau) = Z at *
    go_loopw [7, 8] (fun p k wr => ∃ (i r : Nat) (K : Int), i ≤ 8 ∧ K = 8 - (i : Int) ∧ k = .int .i64 K ∧ p = .float .f64 r ∧ canon .f64 r = polyO (fop .mul .f64 Z Z) i ∧ ∃ m, wr = w.drewN m) (fun _ k _ => (intOf k).toNat)
    case atStart => exact ⟨0, _, 8, by omega, rfl, rfl, rfl, rfl, _, rfl⟩
    case round =>
      obtain ⟨i, r, K, hi, hK, rfl, rfl, hr2, m, rfl⟩ := hrel
      have HR := Lib.hid hr2
      have HK := Lib.hid hK
      clear hr2
      by_cases h8 : i < 8
      · have hb : canon .f64 (floatOfInt .f64 (2 * (8 - (i : Int)) * (2 * (8 - (i : Int)) + 1))) = some (below i) := canon_fin (below_fin i h8).1
        have HB := Lib.hid hb
        clear hb
        have hk1 : (1 : Int) ≤ K := by omega
        have hk8 : K ≤ 8 := by omega
        clear hK
        have tokp : True := trivial; have tokq : True := trivial; have toks : True := trivial
        go_wp2_with (first | (have _t := tokp; refine wpList_arith rfl _ _ _ _ _ rfl rfl .f64 _ _ rfl rfl ?_; intro vp np hc hp; have Hp := Lib.hid hc; clear hc _t tokp) | (have _t := tokq; refine wpList_arith rfl _ _ _ _ _ rfl rfl .f64 _ _ rfl rfl ?_; intro vq nq hc hq; have Hq := Lib.hid hc; clear hc _t tokq) | (have _t := toks; refine wpList_arith rfl _ _ _ _ _ rfl rfl .f64 _ _ rfl rfl ?_; intro vs ns hc hs; have Hs := Lib.hid hc; clear hc _t toks))
        have hw := wrapK i h8
        rw [← HK.out] at hw
        have g5 : canon .f64 vs = polyO (fop .mul .f64 Z Z) (i + 1) := by
          rw [Hs.out, Hq.out, Hp.out, hw, HK.out, HB.out, HU.out, HR.out]; rfl
        go_roundw
        case rel => exact ⟨i + 1, vs, _, by omega, by have := HK.out; omega, rfl, rfl, g5, _, rfl⟩
        case measure => show (K - 1).toNat < K.toNat; omega
      · obtain rfl : i = 8 := by omega
        obtain rfl : K = 0 := by omega
        clear hK HK
        have tokx : True := trivial
        go_wp2_with (have _t := tokx; refine wpList_arith rfl _ _ _ _ _ rfl rfl .f64 _ _ rfl rfl ?_; intro vx nx hc hx; have Hx := Lib.hid hc; clear hc _t tokx)
        go_ret
        exact ⟨vx, _, rfl, rfl, by rw [HSI.out, HSH.out, Hx.out, HZ.out, HR.out], hx⟩
  · have hp : partO t = fop .add .f64 (cutO t) (some c1) := by unfold partO; rw [hlt]; rfl
    have hh : halvedO (partO t) = partO t := by unfold halvedO; rw [hge]; rfl
    have hf : foldedO (partO t) = fop .sub .f64 (some cHalf) (halvedO (partO t)) := by unfold foldedO; rw [hgt]; rfl
    have hs : sineO t = shortO (foldedO (partO t)) := by unfold sineO sineOf; rw [hge]; rfl
    have hsh : shortO (foldedO (partO t)) = fop .mul .f64 (fop .mul .f64 (foldedO (partO t)) (some cTau)) (polyO (fop .mul .f64 (fop .mul .f64 (foldedO (partO t)) (some cTau)) (fop .mul .f64 (foldedO (partO t)) (some cTau))) 8) := rfl
    have HP := Lib.hid hp
    have HH := Lib.hid hh
    have HF := Lib.hid hf
    have HSI := Lib.hid hs
    have HSH := Lib.hid hsh
    have HT := Lib.hid hlt
    have HG := Lib.hid hge
    have HL := Lib.hid hgt
    clear hp hh hf hs hsh hlt hge hgt
    have toky : True := trivial; have toka : True := trivial; have tokb : True := trivial; have toke : True := trivial; have tokg : True := trivial; have tokk : True := trivial
    go_enter Try.func126, Try.ntmps126
    go_wp2_with (first | (have _t := toky; refine wpList_arith rfl _ _ _ _ _ rfl rfl .f64 _ _ rfl rfl ?_; intro vy ny hc hy; have Hy := Lib.hid hc; clear hc _t toky; have ht : (FloatKind.f64.format.order vy 0 != some .eq) = false := congrArg not ((finite_test .f64 Hy.out).trans h)) | (have _t := toka; refine wpList_arith rfl _ _ _ _ _ rfl rfl .f64 _ _ rfl rfl ?_; intro va na hc ha; have Ha := Lib.hid hc; clear hc _t toka; have t0 : (FloatKind.f64.format.order va 0 == some .lt) = true := tLt (o := cutO t) Ha.out rfl HT.out) | (have _t := tokb; refine wpList_arith rfl _ _ _ _ _ rfl rfl .f64 _ _ rfl rfl ?_; intro vb nb hc hb; have Hb := Lib.hid hc; clear hc _t tokb; have q1 : canon .f64 vb = partO t := (by rw [Hb.out, Ha.out, HP.out]; rfl); have Q1 := Lib.hid q1; clear q1; have t1 : (FloatKind.f64.format.order vb 4602678819172646912 == some .gt || FloatKind.f64.format.order vb 4602678819172646912 == some .eq) = false := tGe Q1.out rfl HG.out; have q2 : canon .f64 vb = halvedO (partO t) := Q1.out.trans HH.out.symm; have Q2 := Lib.hid q2; clear q2; have t2 : (FloatKind.f64.format.order vb 4598175219545276416 == some .gt) = true := tGt Q2.out rfl HL.out) | (have _t := toke; refine wpList_arith rfl _ _ _ _ _ rfl rfl .f64 _ _ rfl rfl ?_; intro ve ne hc he; have He := Lib.hid hc; clear hc _t toke) | (have _t := tokg; refine wpList_arith rfl _ _ _ _ _ rfl rfl .f64 _ _ rfl rfl ?_; intro vg ng hc hg; have Hg := Lib.hid hc; clear hc _t tokg) | (have _t := tokk; refine wpList_arith rfl _ _ _ _ _ rfl rfl .f64 _ _ rfl rfl ?_; intro vk nk hc hk; have Hk := Lib.hid hc; clear hc _t tokk))
    have q3 : canon .f64 ve = foldedO (partO t) := by rw [He.out, HF.out, Q2.out]; rfl
    have hz : canon .f64 vg = fop .mul .f64 (foldedO (partO t)) (some cTau) := by rw [Hg.out, q3]; rfl
    have hu : canon .f64 vk = fop .mul .f64 (fop .mul .f64 (foldedO (partO t)) (some cTau)) (fop .mul .f64 (foldedO (partO t)) (some cTau)) := by rw [Hk.out, hz]
    have HU := Lib.hid hu
    have HZ := Lib.hid hz
    clear hu hz q3
    generalize fop .mul .f64 (foldedO (partO t)) (some cTau) = Z at *
    go_loopw [7, 8] (fun p k wr => ∃ (i r : Nat) (K : Int), i ≤ 8 ∧ K = 8 - (i : Int) ∧ k = .int .i64 K ∧ p = .float .f64 r ∧ canon .f64 r = polyO (fop .mul .f64 Z Z) i ∧ ∃ m, wr = w.drewN m) (fun _ k _ => (intOf k).toNat)
    case atStart => exact ⟨0, _, 8, by omega, rfl, rfl, rfl, rfl, _, rfl⟩
    case round =>
      obtain ⟨i, r, K, hi, hK, rfl, rfl, hr2, m, rfl⟩ := hrel
      have HR := Lib.hid hr2
      have HK := Lib.hid hK
      clear hr2
      by_cases h8 : i < 8
      · have hb : canon .f64 (floatOfInt .f64 (2 * (8 - (i : Int)) * (2 * (8 - (i : Int)) + 1))) = some (below i) := canon_fin (below_fin i h8).1
        have HB := Lib.hid hb
        clear hb
        have hk1 : (1 : Int) ≤ K := by omega
        have hk8 : K ≤ 8 := by omega
        clear hK
        have tokp : True := trivial; have tokq : True := trivial; have toks : True := trivial
        go_wp2_with (first | (have _t := tokp; refine wpList_arith rfl _ _ _ _ _ rfl rfl .f64 _ _ rfl rfl ?_; intro vp np hc hp; have Hp := Lib.hid hc; clear hc _t tokp) | (have _t := tokq; refine wpList_arith rfl _ _ _ _ _ rfl rfl .f64 _ _ rfl rfl ?_; intro vq nq hc hq; have Hq := Lib.hid hc; clear hc _t tokq) | (have _t := toks; refine wpList_arith rfl _ _ _ _ _ rfl rfl .f64 _ _ rfl rfl ?_; intro vs ns hc hs; have Hs := Lib.hid hc; clear hc _t toks))
        have hw := wrapK i h8
        rw [← HK.out] at hw
        have g5 : canon .f64 vs = polyO (fop .mul .f64 Z Z) (i + 1) := by
          rw [Hs.out, Hq.out, Hp.out, hw, HK.out, HB.out, HU.out, HR.out]; rfl
        go_roundw
        case rel => exact ⟨i + 1, vs, _, by omega, by have := HK.out; omega, rfl, rfl, g5, _, rfl⟩
        case measure => show (K - 1).toNat < K.toNat; omega
      · obtain rfl : i = 8 := by omega
        obtain rfl : K = 0 := by omega
        clear hK HK
        have tokx : True := trivial
        go_wp2_with (have _t := tokx; refine wpList_arith rfl _ _ _ _ _ rfl rfl .f64 _ _ rfl rfl ?_; intro vx nx hc hx; have Hx := Lib.hid hc; clear hc _t tokx)
        go_ret
        exact ⟨vx, _, rfl, rfl, by rw [HSI.out, HSH.out, Hx.out, HZ.out, HR.out], hx⟩
  · have hp : partO t = fop .add .f64 (cutO t) (some c1) := by unfold partO; rw [hlt]; rfl
    have hh : halvedO (partO t) = fop .sub .f64 (partO t) (some cHalf) := by unfold halvedO; rw [hge]; rfl
    have hf : foldedO (partO t) = halvedO (partO t) := by unfold foldedO; rw [hgt]; rfl
    have hs : sineO t = (shortO (foldedO (partO t))).map (Op.negFloat .f64) := by unfold sineO sineOf; rw [hge]; rfl
    have hsh : shortO (foldedO (partO t)) = fop .mul .f64 (fop .mul .f64 (foldedO (partO t)) (some cTau)) (polyO (fop .mul .f64 (fop .mul .f64 (foldedO (partO t)) (some cTau)) (fop .mul .f64 (foldedO (partO t)) (some cTau))) 8) := rfl
    have HP := Lib.hid hp
    have HH := Lib.hid hh
    have HF := Lib.hid hf
    have HSI := Lib.hid hs
    have HSH := Lib.hid hsh
    have HT := Lib.hid hlt
    have HG := Lib.hid hge
    have HL := Lib.hid hgt
    clear hp hh hf hs hsh hlt hge hgt
    have toky : True := trivial; have toka : True := trivial; have tokb : True := trivial; have tokd : True := trivial; have tokg : True := trivial; have tokk : True := trivial
    go_enter Try.func126, Try.ntmps126
    go_wp2_with (first | (have _t := toky; refine wpList_arith rfl _ _ _ _ _ rfl rfl .f64 _ _ rfl rfl ?_; intro vy ny hc hy; have Hy := Lib.hid hc; clear hc _t toky; have ht : (FloatKind.f64.format.order vy 0 != some .eq) = false := congrArg not ((finite_test .f64 Hy.out).trans h)) | (have _t := toka; refine wpList_arith rfl _ _ _ _ _ rfl rfl .f64 _ _ rfl rfl ?_; intro va na hc ha; have Ha := Lib.hid hc; clear hc _t toka; have t0 : (FloatKind.f64.format.order va 0 == some .lt) = true := tLt (o := cutO t) Ha.out rfl HT.out) | (have _t := tokb; refine wpList_arith rfl _ _ _ _ _ rfl rfl .f64 _ _ rfl rfl ?_; intro vb nb hc hb; have Hb := Lib.hid hc; clear hc _t tokb; have q1 : canon .f64 vb = partO t := (by rw [Hb.out, Ha.out, HP.out]; rfl); have Q1 := Lib.hid q1; clear q1; have t1 : (FloatKind.f64.format.order vb 4602678819172646912 == some .gt || FloatKind.f64.format.order vb 4602678819172646912 == some .eq) = true := tGe Q1.out rfl HG.out) | (have _t := tokd; refine wpList_arith rfl _ _ _ _ _ rfl rfl .f64 _ _ rfl rfl ?_; intro vd nd hc hd; have Hd := Lib.hid hc; clear hc _t tokd; have q2 : canon .f64 vd = halvedO (partO t) := (by rw [Hd.out, Q1.out, HH.out]; rfl); have Q2 := Lib.hid q2; clear q2; have t2 : (FloatKind.f64.format.order vd 4598175219545276416 == some .gt) = false := tGt Q2.out rfl HL.out) | (have _t := tokg; refine wpList_arith rfl _ _ _ _ _ rfl rfl .f64 _ _ rfl rfl ?_; intro vg ng hc hg; have Hg := Lib.hid hc; clear hc _t tokg) | (have _t := tokk; refine wpList_arith rfl _ _ _ _ _ rfl rfl .f64 _ _ rfl rfl ?_; intro vk nk hc hk; have Hk := Lib.hid hc; clear hc _t tokk))
    have q3 : canon .f64 vd = foldedO (partO t) := by rw [HF.out, Q2.out]
    have hz : canon .f64 vg = fop .mul .f64 (foldedO (partO t)) (some cTau) := by rw [Hg.out, q3]; rfl
    have hu : canon .f64 vk = fop .mul .f64 (fop .mul .f64 (foldedO (partO t)) (some cTau)) (fop .mul .f64 (foldedO (partO t)) (some cTau)) := by rw [Hk.out, hz]
    have HU := Lib.hid hu
    have HZ := Lib.hid hz
    clear hu hz q3
    generalize fop .mul .f64 (foldedO (partO t)) (some cTau) = Z at *
    go_loopw [7, 8] (fun p k wr => ∃ (i r : Nat) (K : Int), i ≤ 8 ∧ K = 8 - (i : Int) ∧ k = .int .i64 K ∧ p = .float .f64 r ∧ canon .f64 r = polyO (fop .mul .f64 Z Z) i ∧ ∃ m, wr = w.drewN m) (fun _ k _ => (intOf k).toNat)
    case atStart => exact ⟨0, _, 8, by omega, rfl, rfl, rfl, rfl, _, rfl⟩
    case round =>
      obtain ⟨i, r, K, hi, hK, rfl, rfl, hr2, m, rfl⟩ := hrel
      have HR := Lib.hid hr2
      have HK := Lib.hid hK
      clear hr2
      by_cases h8 : i < 8
      · have hb : canon .f64 (floatOfInt .f64 (2 * (8 - (i : Int)) * (2 * (8 - (i : Int)) + 1))) = some (below i) := canon_fin (below_fin i h8).1
        have HB := Lib.hid hb
        clear hb
        have hk1 : (1 : Int) ≤ K := by omega
        have hk8 : K ≤ 8 := by omega
        clear hK
        have tokp : True := trivial; have tokq : True := trivial; have toks : True := trivial
        go_wp2_with (first | (have _t := tokp; refine wpList_arith rfl _ _ _ _ _ rfl rfl .f64 _ _ rfl rfl ?_; intro vp np hc hp; have Hp := Lib.hid hc; clear hc _t tokp) | (have _t := tokq; refine wpList_arith rfl _ _ _ _ _ rfl rfl .f64 _ _ rfl rfl ?_; intro vq nq hc hq; have Hq := Lib.hid hc; clear hc _t tokq) | (have _t := toks; refine wpList_arith rfl _ _ _ _ _ rfl rfl .f64 _ _ rfl rfl ?_; intro vs ns hc hs; have Hs := Lib.hid hc; clear hc _t toks))
        have hw := wrapK i h8
        rw [← HK.out] at hw
        have g5 : canon .f64 vs = polyO (fop .mul .f64 Z Z) (i + 1) := by
          rw [Hs.out, Hq.out, Hp.out, hw, HK.out, HB.out, HU.out, HR.out]; rfl
        go_roundw
        case rel => exact ⟨i + 1, vs, _, by omega, by have := HK.out; omega, rfl, rfl, g5, _, rfl⟩
        case measure => show (K - 1).toNat < K.toNat; omega
      · obtain rfl : i = 8 := by omega
        obtain rfl : K = 0 := by omega
        clear hK HK
        have tokx : True := trivial
        go_wp2_with (have _t := tokx; refine wpList_arith rfl _ _ _ _ _ rfl rfl .f64 _ _ rfl rfl ?_; intro vx nx hc hx; have Hx := Lib.hid hc; clear hc _t tokx)
        go_ret
        have hn := neg_canon vx hx; exact ⟨_, _, rfl, rfl, by rw [HSI.out, HSH.out, hn.1, Hx.out, HZ.out, HR.out], hn.2⟩
  · have hp : partO t = fop .add .f64 (cutO t) (some c1) := by unfold partO; rw [hlt]; rfl
    have hh : halvedO (partO t) = fop .sub .f64 (partO t) (some cHalf) := by unfold halvedO; rw [hge]; rfl
    have hf : foldedO (partO t) = fop .sub .f64 (some cHalf) (halvedO (partO t)) := by unfold foldedO; rw [hgt]; rfl
    have hs : sineO t = (shortO (foldedO (partO t))).map (Op.negFloat .f64) := by unfold sineO sineOf; rw [hge]; rfl
    have hsh : shortO (foldedO (partO t)) = fop .mul .f64 (fop .mul .f64 (foldedO (partO t)) (some cTau)) (polyO (fop .mul .f64 (fop .mul .f64 (foldedO (partO t)) (some cTau)) (fop .mul .f64 (foldedO (partO t)) (some cTau))) 8) := rfl
    have HP := Lib.hid hp
    have HH := Lib.hid hh
    have HF := Lib.hid hf
    have HSI := Lib.hid hs
    have HSH := Lib.hid hsh
    have HT := Lib.hid hlt
    have HG := Lib.hid hge
    have HL := Lib.hid hgt
    clear hp hh hf hs hsh hlt hge hgt
    have toky : True := trivial; have toka : True := trivial; have tokb : True := trivial; have tokd : True := trivial; have toke : True := trivial; have tokg : True := trivial; have tokk : True := trivial
    go_enter Try.func126, Try.ntmps126
    go_wp2_with (first | (have _t := toky; refine wpList_arith rfl _ _ _ _ _ rfl rfl .f64 _ _ rfl rfl ?_; intro vy ny hc hy; have Hy := Lib.hid hc; clear hc _t toky; have ht : (FloatKind.f64.format.order vy 0 != some .eq) = false := congrArg not ((finite_test .f64 Hy.out).trans h)) | (have _t := toka; refine wpList_arith rfl _ _ _ _ _ rfl rfl .f64 _ _ rfl rfl ?_; intro va na hc ha; have Ha := Lib.hid hc; clear hc _t toka; have t0 : (FloatKind.f64.format.order va 0 == some .lt) = true := tLt (o := cutO t) Ha.out rfl HT.out) | (have _t := tokb; refine wpList_arith rfl _ _ _ _ _ rfl rfl .f64 _ _ rfl rfl ?_; intro vb nb hc hb; have Hb := Lib.hid hc; clear hc _t tokb; have q1 : canon .f64 vb = partO t := (by rw [Hb.out, Ha.out, HP.out]; rfl); have Q1 := Lib.hid q1; clear q1; have t1 : (FloatKind.f64.format.order vb 4602678819172646912 == some .gt || FloatKind.f64.format.order vb 4602678819172646912 == some .eq) = true := tGe Q1.out rfl HG.out) | (have _t := tokd; refine wpList_arith rfl _ _ _ _ _ rfl rfl .f64 _ _ rfl rfl ?_; intro vd nd hc hd; have Hd := Lib.hid hc; clear hc _t tokd; have q2 : canon .f64 vd = halvedO (partO t) := (by rw [Hd.out, Q1.out, HH.out]; rfl); have Q2 := Lib.hid q2; clear q2; have t2 : (FloatKind.f64.format.order vd 4598175219545276416 == some .gt) = true := tGt Q2.out rfl HL.out) | (have _t := toke; refine wpList_arith rfl _ _ _ _ _ rfl rfl .f64 _ _ rfl rfl ?_; intro ve ne hc he; have He := Lib.hid hc; clear hc _t toke) | (have _t := tokg; refine wpList_arith rfl _ _ _ _ _ rfl rfl .f64 _ _ rfl rfl ?_; intro vg ng hc hg; have Hg := Lib.hid hc; clear hc _t tokg) | (have _t := tokk; refine wpList_arith rfl _ _ _ _ _ rfl rfl .f64 _ _ rfl rfl ?_; intro vk nk hc hk; have Hk := Lib.hid hc; clear hc _t tokk))
    have q3 : canon .f64 ve = foldedO (partO t) := by rw [He.out, HF.out, Q2.out]; rfl
    have hz : canon .f64 vg = fop .mul .f64 (foldedO (partO t)) (some cTau) := by rw [Hg.out, q3]; rfl
    have hu : canon .f64 vk = fop .mul .f64 (fop .mul .f64 (foldedO (partO t)) (some cTau)) (fop .mul .f64 (foldedO (partO t)) (some cTau)) := by rw [Hk.out, hz]
    have HU := Lib.hid hu
    have HZ := Lib.hid hz
    clear hu hz q3
    generalize fop .mul .f64 (foldedO (partO t)) (some cTau) = Z at *
    go_loopw [7, 8] (fun p k wr => ∃ (i r : Nat) (K : Int), i ≤ 8 ∧ K = 8 - (i : Int) ∧ k = .int .i64 K ∧ p = .float .f64 r ∧ canon .f64 r = polyO (fop .mul .f64 Z Z) i ∧ ∃ m, wr = w.drewN m) (fun _ k _ => (intOf k).toNat)
    case atStart => exact ⟨0, _, 8, by omega, rfl, rfl, rfl, rfl, _, rfl⟩
    case round =>
      obtain ⟨i, r, K, hi, hK, rfl, rfl, hr2, m, rfl⟩ := hrel
      have HR := Lib.hid hr2
      have HK := Lib.hid hK
      clear hr2
      by_cases h8 : i < 8
      · have hb : canon .f64 (floatOfInt .f64 (2 * (8 - (i : Int)) * (2 * (8 - (i : Int)) + 1))) = some (below i) := canon_fin (below_fin i h8).1
        have HB := Lib.hid hb
        clear hb
        have hk1 : (1 : Int) ≤ K := by omega
        have hk8 : K ≤ 8 := by omega
        clear hK
        have tokp : True := trivial; have tokq : True := trivial; have toks : True := trivial
        go_wp2_with (first | (have _t := tokp; refine wpList_arith rfl _ _ _ _ _ rfl rfl .f64 _ _ rfl rfl ?_; intro vp np hc hp; have Hp := Lib.hid hc; clear hc _t tokp) | (have _t := tokq; refine wpList_arith rfl _ _ _ _ _ rfl rfl .f64 _ _ rfl rfl ?_; intro vq nq hc hq; have Hq := Lib.hid hc; clear hc _t tokq) | (have _t := toks; refine wpList_arith rfl _ _ _ _ _ rfl rfl .f64 _ _ rfl rfl ?_; intro vs ns hc hs; have Hs := Lib.hid hc; clear hc _t toks))
        have hw := wrapK i h8
        rw [← HK.out] at hw
        have g5 : canon .f64 vs = polyO (fop .mul .f64 Z Z) (i + 1) := by
          rw [Hs.out, Hq.out, Hp.out, hw, HK.out, HB.out, HU.out, HR.out]; rfl
        go_roundw
        case rel => exact ⟨i + 1, vs, _, by omega, by have := HK.out; omega, rfl, rfl, g5, _, rfl⟩
        case measure => show (K - 1).toNat < K.toNat; omega
      · obtain rfl : i = 8 := by omega
        obtain rfl : K = 0 := by omega
        clear hK HK
        have tokx : True := trivial
        go_wp2_with (have _t := tokx; refine wpList_arith rfl _ _ _ _ _ rfl rfl .f64 _ _ rfl rfl ?_; intro vx nx hc hx; have Hx := Lib.hid hc; clear hc _t tokx)
        go_ret
        have hn := neg_canon vx hx; exact ⟨_, _, rfl, rfl, by rw [HSI.out, HSH.out, hn.1, Hx.out, HZ.out, HR.out], hn.2⟩
end Go.Proofs.Ythihemfegjaenaa
