/- Phasors: the walk of the model's, and the law. Conditions: none beyond those of each theorem. -/
import Derived.Test.YthihemfegjaenaaPhasor
namespace Go.Proofs.Ythihemfegjaenaa
open Go Ieee Go.RowKit

theorem nan32 : canon .f32 2143289344 = none := by decide +kernel

theorem specPhasorNan (t : Nat) (w : World) (h : finB .f64 t = false) : Calls Try.prog 104 #[.float .f64 t] w (CRet .f32 w none none) := by
  go_enter Try.func104, Try.ntmps104
  go_wp2_with (first | (go_at_call 132; refine (specFrom 2143289344 _ (by decide)).mono ?_; rintro e w' ⟨rfl, rfl⟩) | (refine wpList_arith rfl _ _ _ _ _ rfl rfl .f64 _ _ rfl rfl ?_; intro v n hc hv; have ht : (FloatKind.f64.format.order v 0 != some .eq) = true := congrArg not ((finite_test .f64 hc).trans h); clear hc))
  go_ret
  exact ⟨_, _, _, rfl, rfl, nan32, nan32, by decide, by decide⟩

theorem specPhasorFar (t : Nat) (w : World) (h : finB .f64 t = true) (hf : 1075 * 2 ^ 52 ≤ rung Ieee.double t) : Calls Try.prog 104 #[.float .f64 t] w (CRet .f32 w (some 1065353216) (some 0)) := by
  obtain ⟨f1, f2⟩ := far_facts t (fin_of_B h)
  have sy := run_sub_self (fin_of_B h)
  have hz : (FloatKind.f64.format.order 0 0 != some .eq) = false := by decide
  cases hs : sgn Ieee.double t
  · have g1 := f1.trans (decide_eq_true ⟨hs, hf⟩)
    clear f1 f2
    go_enter Try.func104, Try.ntmps104
    go_wp2
    go_ret
    exact ⟨_, _, 0, rfl, rfl, by decide +kernel, by decide +kernel, by decide, by decide⟩
  · have g1 := f1.trans (decide_eq_false (fun q => by rw [hs] at q; cases q.1))
    have g2 := f2.trans (decide_eq_true ⟨hs, hf⟩)
    clear f1 f2
    go_enter Try.func104, Try.ntmps104
    go_wp2
    go_ret
    exact ⟨_, _, 0, rfl, rfl, by decide +kernel, by decide +kernel, by decide, by decide⟩

theorem zero1124 : Bd 1124 (some 0) := fun v hv => by cases hv; exact Nat.zero_le _

set_option maxHeartbeats 4000000 in
theorem specPhasorNear (t : Nat) (w : World) (hr : rung Ieee.double t < 1075 * 2 ^ 52) : Calls Try.prog 104 #[.float .f64 t] w (CRet .f32 w (fconv .f64 .f32 (phasorO t).1) (fconv .f64 .f32 (phasorO t).2)) := by
  have h : finB .f64 t = true := decide_eq_true (Nat.lt_trans hr r52)
  obtain ⟨f1, f2⟩ := far_facts t (fin_of_B h)
  have sy := run_sub_self (fin_of_B h)
  have hz : (FloatKind.f64.format.order 0 0 != some .eq) = false := by decide
  have g1 := f1.trans (decide_eq_false (fun q => absurd q.2 (Nat.not_le_of_lt hr)))
  have g2 := f2.trans (decide_eq_false (fun q => absurd q.2 (Nat.not_le_of_lt hr)))
  have hcv := fun w' => run_convert_float_int (P := Try.prog) w' 114 2 .f64 .i64 t (wholeOf t) (by rw [Try.underlying114]; rfl) Try.underlying2 (whole_conv hr)
  clear f1 f2
  cases hlt : ltO (cutO t) (some 0)
  · have hp : partO t = cutO t := by unfold partO; rw [hlt]; rfl
    have HP := Lib.hid hp
    have HT := Lib.hid hlt
    clear hp hlt
    have toka : True := trivial
    go_enter Try.func104, Try.ntmps104
    go_wp2_with (first | (have _t := toka; refine wpList_arith rfl _ _ _ _ _ rfl rfl .f64 _ _ rfl rfl ?_; intro va na hc ha; have Ha := Lib.hid (show canon .f64 va = cutO t from hc); clear hc _t toka; have t0 : (FloatKind.f64.format.order va 0 == some .lt) = false := tLt (o := cutO t) Ha.out rfl HT.out; clear sy))
    have hq1 : canon .f64 va = partO t := by rw [Ha.out, HP.out]
    have hst := Stand.start (up_part hr) hq1 ha
    clear hq1
    go_loopw [3, 4] (fun f k wr => ∃ i r : Nat, Stand (walkQ 5 (partO t)) i r ∧ f = .float .f64 r ∧ k = .int .i64 (i : Int) ∧ ∃ m, wr = w.drewN m) (fun _ k _ => 5 - (intOf k).toNat)
    case atStart => exact ⟨0, va, hst, rfl, rfl, _, rfl⟩
    case round =>
      obtain ⟨i, r, hs, rfl, rfl, m, rfl⟩ := hrel
      have hi4 : i ≤ 4 := hs.1
      have hcr := Lib.hid hs.2.2.1
      cases hg : geO (some r) (some cQuarter)
      · have t1 : (FloatKind.f64.format.order r 4598175219545276416 == some .gt || FloatKind.f64.format.order r 4598175219545276416 == some .eq) = false := tGe hcr.out rfl hg
        have hw := Lib.hid (hs.stop hg)
        have HS := Lib.hid hs
        have hcase : i = 0 ∨ i = 1 ∨ i = 2 ∨ i = 3 ∨ i = 4 := by omega
        clear hg hst hs
        rcases hcase with rfl | rfl | rfl | rfl | rfl
        · have tokx : True := trivial; have toky : True := trivial; have tok1 : True := trivial; have tok2 : True := trivial; have tokk : True := trivial
          go_wp2_with (first | (have _t := tokk; refine wpList_arith rfl _ _ _ _ _ rfl rfl .f64 _ _ rfl rfl ?_; intro vk nk hc hk; have Hk := Lib.hid hc; clear hc _t tokk) | (go_at_call 126; have _t := tokx; have hl := HS.out.less (v := vk) (by rw [Hk.out, hcr.out]; rfl); refine (specWideNear _ _ hl.1).mono ?_; rintro e w' ⟨c, nc, rfl, rfl, hc, hcl⟩; have HC := Lib.hid hc; have HV := Lib.hid hl.2; have bc := Lib.hid (bd_sineOf (up_part hl.1)); clear hc hl _t tokx) | (go_at_call 126; have _t := toky; refine (specWideNear _ _ HS.out.near).mono ?_; rintro e w' ⟨s, ns, rfl, rfl, hc, hsl⟩; have HD := Lib.hid hc; have bs := Lib.hid (bd_sineOf (up_part HS.out.near)); clear hc _t toky) | (go_at_call 125; have _t := tok1; refine (specNarrow _ _ hcl (Bd.narrows (bc.out.mono (by omega)) HC.out)).mono ?_; rintro e w' ⟨y, ny, rfl, rfl, hy, hyl⟩; have HY := Lib.hid hy; clear hy _t tok1) | (go_at_call 125; have _t := tok2; refine (specNarrow _ _ hsl (Bd.narrows (bs.out.mono (by omega)) HD.out)).mono ?_; rintro e w' ⟨z, nz, rfl, rfl, hy, hzl⟩; have HZ := Lib.hid hy; clear hy _t tok2))
          go_ret
          have hph := phasor_at hw.out HV.out
          exact ⟨y, z, _, rfl, rfl, by rw [HY.out, HC.out, hph]; rfl, by rw [HZ.out, HD.out, hph]; rfl, hyl, hzl⟩
        · have tokx : True := trivial; have toky : True := trivial; have tok1 : True := trivial; have tok2 : True := trivial; have tokk : True := trivial; have tokd : True := trivial
          go_wp2_with (first | (have _t := tokk; refine wpList_arith rfl _ _ _ _ _ rfl rfl .f64 _ _ rfl rfl ?_; intro vk nk hc hk; have Hk := Lib.hid hc; clear hc _t tokk) | (go_at_call 126; have _t := tokx; have hl := HS.out.less (v := vk) (by rw [Hk.out, hcr.out]; rfl); refine (specWideNear _ _ hl.1).mono ?_; rintro e w' ⟨c, nc, rfl, rfl, hc, hcl⟩; have HC := Lib.hid hc; have HV := Lib.hid hl.2; have bc := Lib.hid (bd_sineOf (up_part hl.1)); clear hc hl _t tokx) | (go_at_call 126; have _t := toky; refine (specWideNear _ _ HS.out.near).mono ?_; rintro e w' ⟨s, ns, rfl, rfl, hc, hsl⟩; have HD := Lib.hid hc; have bs := Lib.hid (bd_sineOf (up_part HS.out.near)); clear hc _t toky) | (go_at_call 125; have _t := tok1; refine (specNarrow _ _ hd (Bd.narrows (o := fop .sub .f64 (some 0) (canon .f64 s)) (by rw [HD.out]; exact (Bd.sub zero1124 bs.out (by omega) (by omega)).mono (by omega)) (by rw [Hd.out]; rfl))).mono ?_; rintro e w' ⟨y, ny, rfl, rfl, hy, hyl⟩; have HY := Lib.hid hy; clear hy _t tok1) | (go_at_call 125; have _t := tok2; refine (specNarrow _ _ hcl (Bd.narrows (bc.out.mono (by omega)) HC.out)).mono ?_; rintro e w' ⟨z, nz, rfl, rfl, hy, hzl⟩; have HZ := Lib.hid hy; clear hy _t tok2) | (have _t := tokd; refine wpList_arith rfl _ _ _ _ _ rfl rfl .f64 _ _ rfl rfl ?_; intro vd nd hc hd; have Hd := Lib.hid hc; clear hc _t tokd))
          go_ret
          have hph := phasor_at hw.out HV.out
          exact ⟨y, z, _, rfl, rfl, by rw [HY.out, Hd.out, HD.out, hph]; rfl, by rw [HZ.out, HC.out, hph]; rfl, hyl, hzl⟩
        · have tokx : True := trivial; have toky : True := trivial; have tok1 : True := trivial; have tok2 : True := trivial; have tokk : True := trivial; have tokd : True := trivial; have toke : True := trivial
          go_wp2_with (first | (have _t := tokk; refine wpList_arith rfl _ _ _ _ _ rfl rfl .f64 _ _ rfl rfl ?_; intro vk nk hc hk; have Hk := Lib.hid hc; clear hc _t tokk) | (go_at_call 126; have _t := tokx; have hl := HS.out.less (v := vk) (by rw [Hk.out, hcr.out]; rfl); refine (specWideNear _ _ hl.1).mono ?_; rintro e w' ⟨c, nc, rfl, rfl, hc, hcl⟩; have HC := Lib.hid hc; have HV := Lib.hid hl.2; have bc := Lib.hid (bd_sineOf (up_part hl.1)); clear hc hl _t tokx) | (go_at_call 126; have _t := toky; refine (specWideNear _ _ HS.out.near).mono ?_; rintro e w' ⟨s, ns, rfl, rfl, hc, hsl⟩; have HD := Lib.hid hc; have bs := Lib.hid (bd_sineOf (up_part HS.out.near)); clear hc _t toky) | (go_at_call 125; have _t := tok1; refine (specNarrow _ _ hd (Bd.narrows (o := fop .sub .f64 (some 0) (canon .f64 c)) (by rw [HC.out]; exact (Bd.sub zero1124 bc.out (by omega) (by omega)).mono (by omega)) (by rw [Hd.out]; rfl))).mono ?_; rintro e w' ⟨y, ny, rfl, rfl, hy, hyl⟩; have HY := Lib.hid hy; clear hy _t tok1) | (go_at_call 125; have _t := tok2; refine (specNarrow _ _ he (Bd.narrows (o := fop .sub .f64 (some 0) (canon .f64 s)) (by rw [HD.out]; exact (Bd.sub zero1124 bs.out (by omega) (by omega)).mono (by omega)) (by rw [He.out]; rfl))).mono ?_; rintro e w' ⟨z, nz, rfl, rfl, hy, hzl⟩; have HZ := Lib.hid hy; clear hy _t tok2) | (have _t := tokd; refine wpList_arith rfl _ _ _ _ _ rfl rfl .f64 _ _ rfl rfl ?_; intro vd nd hc hd; have Hd := Lib.hid hc; clear hc _t tokd) | (have _t := toke; refine wpList_arith rfl _ _ _ _ _ rfl rfl .f64 _ _ rfl rfl ?_; intro ve ne hc he; have He := Lib.hid hc; clear hc _t toke))
          go_ret
          have hph := phasor_at hw.out HV.out
          exact ⟨y, z, _, rfl, rfl, by rw [HY.out, Hd.out, HC.out, hph]; rfl, by rw [HZ.out, He.out, HD.out, hph]; rfl, hyl, hzl⟩
        · have tokx : True := trivial; have toky : True := trivial; have tok1 : True := trivial; have tok2 : True := trivial; have tokk : True := trivial; have tokd : True := trivial
          go_wp2_with (first | (have _t := tokk; refine wpList_arith rfl _ _ _ _ _ rfl rfl .f64 _ _ rfl rfl ?_; intro vk nk hc hk; have Hk := Lib.hid hc; clear hc _t tokk) | (go_at_call 126; have _t := tokx; have hl := HS.out.less (v := vk) (by rw [Hk.out, hcr.out]; rfl); refine (specWideNear _ _ hl.1).mono ?_; rintro e w' ⟨c, nc, rfl, rfl, hc, hcl⟩; have HC := Lib.hid hc; have HV := Lib.hid hl.2; have bc := Lib.hid (bd_sineOf (up_part hl.1)); clear hc hl _t tokx) | (go_at_call 126; have _t := toky; refine (specWideNear _ _ HS.out.near).mono ?_; rintro e w' ⟨s, ns, rfl, rfl, hc, hsl⟩; have HD := Lib.hid hc; have bs := Lib.hid (bd_sineOf (up_part HS.out.near)); clear hc _t toky) | (go_at_call 125; have _t := tok1; refine (specNarrow _ _ hsl (Bd.narrows (bs.out.mono (by omega)) HD.out)).mono ?_; rintro e w' ⟨y, ny, rfl, rfl, hy, hyl⟩; have HY := Lib.hid hy; clear hy _t tok1) | (go_at_call 125; have _t := tok2; refine (specNarrow _ _ hd (Bd.narrows (o := fop .sub .f64 (some 0) (canon .f64 c)) (by rw [HC.out]; exact (Bd.sub zero1124 bc.out (by omega) (by omega)).mono (by omega)) (by rw [Hd.out]; rfl))).mono ?_; rintro e w' ⟨z, nz, rfl, rfl, hy, hzl⟩; have HZ := Lib.hid hy; clear hy _t tok2) | (have _t := tokd; refine wpList_arith rfl _ _ _ _ _ rfl rfl .f64 _ _ rfl rfl ?_; intro vd nd hc hd; have Hd := Lib.hid hc; clear hc _t tokd))
          go_ret
          have hph := phasor_at hw.out HV.out
          exact ⟨y, z, _, rfl, rfl, by rw [HY.out, HD.out, hph]; rfl, by rw [HZ.out, Hd.out, HC.out, hph]; rfl, hyl, hzl⟩
        · have tokx : True := trivial; have toky : True := trivial; have tok1 : True := trivial; have tok2 : True := trivial; have tokk : True := trivial
          go_wp2_with (first | (have _t := tokk; refine wpList_arith rfl _ _ _ _ _ rfl rfl .f64 _ _ rfl rfl ?_; intro vk nk hc hk; have Hk := Lib.hid hc; clear hc _t tokk) | (go_at_call 126; have _t := tokx; have hl := HS.out.less (v := vk) (by rw [Hk.out, hcr.out]; rfl); refine (specWideNear _ _ hl.1).mono ?_; rintro e w' ⟨c, nc, rfl, rfl, hc, hcl⟩; have HC := Lib.hid hc; have HV := Lib.hid hl.2; have bc := Lib.hid (bd_sineOf (up_part hl.1)); clear hc hl _t tokx) | (go_at_call 126; have _t := toky; refine (specWideNear _ _ HS.out.near).mono ?_; rintro e w' ⟨s, ns, rfl, rfl, hc, hsl⟩; have HD := Lib.hid hc; have bs := Lib.hid (bd_sineOf (up_part HS.out.near)); clear hc _t toky) | (go_at_call 125; have _t := tok1; refine (specNarrow _ _ hcl (Bd.narrows (bc.out.mono (by omega)) HC.out)).mono ?_; rintro e w' ⟨y, ny, rfl, rfl, hy, hyl⟩; have HY := Lib.hid hy; clear hy _t tok1) | (go_at_call 125; have _t := tok2; refine (specNarrow _ _ hsl (Bd.narrows (bs.out.mono (by omega)) HD.out)).mono ?_; rintro e w' ⟨z, nz, rfl, rfl, hy, hzl⟩; have HZ := Lib.hid hy; clear hy _t tok2))
          go_ret
          have hph := phasor_at hw.out HV.out
          exact ⟨y, z, _, rfl, rfl, by rw [HY.out, HC.out, hph]; rfl, by rw [HZ.out, HD.out, hph]; rfl, hyl, hzl⟩
      · have t1 : (FloatKind.f64.format.order r 4598175219545276416 == some .gt || FloatKind.f64.format.order r 4598175219545276416 == some .eq) = true := tGe hcr.out rfl hg
        have HS := Lib.hid hs
        have HG := Lib.hid hg
        clear hg hst hs
        have hib : (i : Int) ≤ 4 := by omega
        have tokk : True := trivial
        go_wp2_with (first | (have _t := tokk; refine wpList_arith rfl _ _ _ _ _ rfl rfl .f64 _ _ rfl rfl ?_; intro vk nk hc hk; have Hk := Lib.hid hc; clear hc _t tokk; replace hk : vk < 2 ^ 64 := hk))
        have hnx := HS.out.next HG.out (v := vk) (by rw [Hk.out, hcr.out]; rfl) hk
        go_roundw
        case rel => exact ⟨i + 1, vk, hnx.1, rfl, by go_num, _, rfl⟩
        case measure => show 5 - ((i : Int) + 1).toNat < 5 - (i : Int).toNat; have := hnx.2; omega
  · have hp : partO t = fop .add .f64 (cutO t) (some c1) := by unfold partO; rw [hlt]; rfl
    have HP := Lib.hid hp
    have HT := Lib.hid hlt
    clear hp hlt
    have toka : True := trivial; have tokb : True := trivial
    go_enter Try.func104, Try.ntmps104
    go_wp2_with (first | (have _t := toka; refine wpList_arith rfl _ _ _ _ _ rfl rfl .f64 _ _ rfl rfl ?_; intro va na hc ha; have Ha := Lib.hid (show canon .f64 va = cutO t from hc); clear hc _t toka; have t0 : (FloatKind.f64.format.order va 0 == some .lt) = true := tLt (o := cutO t) Ha.out rfl HT.out; clear sy) | (have _t := tokb; refine wpList_arith rfl .add _ _ _ _ rfl rfl .f64 _ _ rfl rfl ?_; intro vb nb hc hb; have Hb := Lib.hid hc; clear hc _t tokb))
    have hq1 : canon .f64 vb = partO t := by rw [Hb.out, Ha.out, HP.out]; rfl
    have hst := Stand.start (up_part hr) hq1 hb
    clear hq1
    go_loopw [3, 4] (fun f k wr => ∃ i r : Nat, Stand (walkQ 5 (partO t)) i r ∧ f = .float .f64 r ∧ k = .int .i64 (i : Int) ∧ ∃ m, wr = w.drewN m) (fun _ k _ => 5 - (intOf k).toNat)
    case atStart => exact ⟨0, vb, hst, rfl, rfl, _, rfl⟩
    case round =>
      obtain ⟨i, r, hs, rfl, rfl, m, rfl⟩ := hrel
      have hi4 : i ≤ 4 := hs.1
      have hcr := Lib.hid hs.2.2.1
      cases hg : geO (some r) (some cQuarter)
      · have t1 : (FloatKind.f64.format.order r 4598175219545276416 == some .gt || FloatKind.f64.format.order r 4598175219545276416 == some .eq) = false := tGe hcr.out rfl hg
        have hw := Lib.hid (hs.stop hg)
        have HS := Lib.hid hs
        have hcase : i = 0 ∨ i = 1 ∨ i = 2 ∨ i = 3 ∨ i = 4 := by omega
        clear hg hst hs
        rcases hcase with rfl | rfl | rfl | rfl | rfl
        · have tokx : True := trivial; have toky : True := trivial; have tok1 : True := trivial; have tok2 : True := trivial; have tokk : True := trivial
          go_wp2_with (first | (have _t := tokk; refine wpList_arith rfl _ _ _ _ _ rfl rfl .f64 _ _ rfl rfl ?_; intro vk nk hc hk; have Hk := Lib.hid hc; clear hc _t tokk) | (go_at_call 126; have _t := tokx; have hl := HS.out.less (v := vk) (by rw [Hk.out, hcr.out]; rfl); refine (specWideNear _ _ hl.1).mono ?_; rintro e w' ⟨c, nc, rfl, rfl, hc, hcl⟩; have HC := Lib.hid hc; have HV := Lib.hid hl.2; have bc := Lib.hid (bd_sineOf (up_part hl.1)); clear hc hl _t tokx) | (go_at_call 126; have _t := toky; refine (specWideNear _ _ HS.out.near).mono ?_; rintro e w' ⟨s, ns, rfl, rfl, hc, hsl⟩; have HD := Lib.hid hc; have bs := Lib.hid (bd_sineOf (up_part HS.out.near)); clear hc _t toky) | (go_at_call 125; have _t := tok1; refine (specNarrow _ _ hcl (Bd.narrows (bc.out.mono (by omega)) HC.out)).mono ?_; rintro e w' ⟨y, ny, rfl, rfl, hy, hyl⟩; have HY := Lib.hid hy; clear hy _t tok1) | (go_at_call 125; have _t := tok2; refine (specNarrow _ _ hsl (Bd.narrows (bs.out.mono (by omega)) HD.out)).mono ?_; rintro e w' ⟨z, nz, rfl, rfl, hy, hzl⟩; have HZ := Lib.hid hy; clear hy _t tok2))
          go_ret
          have hph := phasor_at hw.out HV.out
          exact ⟨y, z, _, rfl, rfl, by rw [HY.out, HC.out, hph]; rfl, by rw [HZ.out, HD.out, hph]; rfl, hyl, hzl⟩
        · have tokx : True := trivial; have toky : True := trivial; have tok1 : True := trivial; have tok2 : True := trivial; have tokk : True := trivial; have tokd : True := trivial
          go_wp2_with (first | (have _t := tokk; refine wpList_arith rfl _ _ _ _ _ rfl rfl .f64 _ _ rfl rfl ?_; intro vk nk hc hk; have Hk := Lib.hid hc; clear hc _t tokk) | (go_at_call 126; have _t := tokx; have hl := HS.out.less (v := vk) (by rw [Hk.out, hcr.out]; rfl); refine (specWideNear _ _ hl.1).mono ?_; rintro e w' ⟨c, nc, rfl, rfl, hc, hcl⟩; have HC := Lib.hid hc; have HV := Lib.hid hl.2; have bc := Lib.hid (bd_sineOf (up_part hl.1)); clear hc hl _t tokx) | (go_at_call 126; have _t := toky; refine (specWideNear _ _ HS.out.near).mono ?_; rintro e w' ⟨s, ns, rfl, rfl, hc, hsl⟩; have HD := Lib.hid hc; have bs := Lib.hid (bd_sineOf (up_part HS.out.near)); clear hc _t toky) | (go_at_call 125; have _t := tok1; refine (specNarrow _ _ hd (Bd.narrows (o := fop .sub .f64 (some 0) (canon .f64 s)) (by rw [HD.out]; exact (Bd.sub zero1124 bs.out (by omega) (by omega)).mono (by omega)) (by rw [Hd.out]; rfl))).mono ?_; rintro e w' ⟨y, ny, rfl, rfl, hy, hyl⟩; have HY := Lib.hid hy; clear hy _t tok1) | (go_at_call 125; have _t := tok2; refine (specNarrow _ _ hcl (Bd.narrows (bc.out.mono (by omega)) HC.out)).mono ?_; rintro e w' ⟨z, nz, rfl, rfl, hy, hzl⟩; have HZ := Lib.hid hy; clear hy _t tok2) | (have _t := tokd; refine wpList_arith rfl _ _ _ _ _ rfl rfl .f64 _ _ rfl rfl ?_; intro vd nd hc hd; have Hd := Lib.hid hc; clear hc _t tokd))
          go_ret
          have hph := phasor_at hw.out HV.out
          exact ⟨y, z, _, rfl, rfl, by rw [HY.out, Hd.out, HD.out, hph]; rfl, by rw [HZ.out, HC.out, hph]; rfl, hyl, hzl⟩
        · have tokx : True := trivial; have toky : True := trivial; have tok1 : True := trivial; have tok2 : True := trivial; have tokk : True := trivial; have tokd : True := trivial; have toke : True := trivial
          go_wp2_with (first | (have _t := tokk; refine wpList_arith rfl _ _ _ _ _ rfl rfl .f64 _ _ rfl rfl ?_; intro vk nk hc hk; have Hk := Lib.hid hc; clear hc _t tokk) | (go_at_call 126; have _t := tokx; have hl := HS.out.less (v := vk) (by rw [Hk.out, hcr.out]; rfl); refine (specWideNear _ _ hl.1).mono ?_; rintro e w' ⟨c, nc, rfl, rfl, hc, hcl⟩; have HC := Lib.hid hc; have HV := Lib.hid hl.2; have bc := Lib.hid (bd_sineOf (up_part hl.1)); clear hc hl _t tokx) | (go_at_call 126; have _t := toky; refine (specWideNear _ _ HS.out.near).mono ?_; rintro e w' ⟨s, ns, rfl, rfl, hc, hsl⟩; have HD := Lib.hid hc; have bs := Lib.hid (bd_sineOf (up_part HS.out.near)); clear hc _t toky) | (go_at_call 125; have _t := tok1; refine (specNarrow _ _ hd (Bd.narrows (o := fop .sub .f64 (some 0) (canon .f64 c)) (by rw [HC.out]; exact (Bd.sub zero1124 bc.out (by omega) (by omega)).mono (by omega)) (by rw [Hd.out]; rfl))).mono ?_; rintro e w' ⟨y, ny, rfl, rfl, hy, hyl⟩; have HY := Lib.hid hy; clear hy _t tok1) | (go_at_call 125; have _t := tok2; refine (specNarrow _ _ he (Bd.narrows (o := fop .sub .f64 (some 0) (canon .f64 s)) (by rw [HD.out]; exact (Bd.sub zero1124 bs.out (by omega) (by omega)).mono (by omega)) (by rw [He.out]; rfl))).mono ?_; rintro e w' ⟨z, nz, rfl, rfl, hy, hzl⟩; have HZ := Lib.hid hy; clear hy _t tok2) | (have _t := tokd; refine wpList_arith rfl _ _ _ _ _ rfl rfl .f64 _ _ rfl rfl ?_; intro vd nd hc hd; have Hd := Lib.hid hc; clear hc _t tokd) | (have _t := toke; refine wpList_arith rfl _ _ _ _ _ rfl rfl .f64 _ _ rfl rfl ?_; intro ve ne hc he; have He := Lib.hid hc; clear hc _t toke))
          go_ret
          have hph := phasor_at hw.out HV.out
          exact ⟨y, z, _, rfl, rfl, by rw [HY.out, Hd.out, HC.out, hph]; rfl, by rw [HZ.out, He.out, HD.out, hph]; rfl, hyl, hzl⟩
        · have tokx : True := trivial; have toky : True := trivial; have tok1 : True := trivial; have tok2 : True := trivial; have tokk : True := trivial; have tokd : True := trivial
          go_wp2_with (first | (have _t := tokk; refine wpList_arith rfl _ _ _ _ _ rfl rfl .f64 _ _ rfl rfl ?_; intro vk nk hc hk; have Hk := Lib.hid hc; clear hc _t tokk) | (go_at_call 126; have _t := tokx; have hl := HS.out.less (v := vk) (by rw [Hk.out, hcr.out]; rfl); refine (specWideNear _ _ hl.1).mono ?_; rintro e w' ⟨c, nc, rfl, rfl, hc, hcl⟩; have HC := Lib.hid hc; have HV := Lib.hid hl.2; have bc := Lib.hid (bd_sineOf (up_part hl.1)); clear hc hl _t tokx) | (go_at_call 126; have _t := toky; refine (specWideNear _ _ HS.out.near).mono ?_; rintro e w' ⟨s, ns, rfl, rfl, hc, hsl⟩; have HD := Lib.hid hc; have bs := Lib.hid (bd_sineOf (up_part HS.out.near)); clear hc _t toky) | (go_at_call 125; have _t := tok1; refine (specNarrow _ _ hsl (Bd.narrows (bs.out.mono (by omega)) HD.out)).mono ?_; rintro e w' ⟨y, ny, rfl, rfl, hy, hyl⟩; have HY := Lib.hid hy; clear hy _t tok1) | (go_at_call 125; have _t := tok2; refine (specNarrow _ _ hd (Bd.narrows (o := fop .sub .f64 (some 0) (canon .f64 c)) (by rw [HC.out]; exact (Bd.sub zero1124 bc.out (by omega) (by omega)).mono (by omega)) (by rw [Hd.out]; rfl))).mono ?_; rintro e w' ⟨z, nz, rfl, rfl, hy, hzl⟩; have HZ := Lib.hid hy; clear hy _t tok2) | (have _t := tokd; refine wpList_arith rfl _ _ _ _ _ rfl rfl .f64 _ _ rfl rfl ?_; intro vd nd hc hd; have Hd := Lib.hid hc; clear hc _t tokd))
          go_ret
          have hph := phasor_at hw.out HV.out
          exact ⟨y, z, _, rfl, rfl, by rw [HY.out, HD.out, hph]; rfl, by rw [HZ.out, Hd.out, HC.out, hph]; rfl, hyl, hzl⟩
        · have tokx : True := trivial; have toky : True := trivial; have tok1 : True := trivial; have tok2 : True := trivial; have tokk : True := trivial
          go_wp2_with (first | (have _t := tokk; refine wpList_arith rfl _ _ _ _ _ rfl rfl .f64 _ _ rfl rfl ?_; intro vk nk hc hk; have Hk := Lib.hid hc; clear hc _t tokk) | (go_at_call 126; have _t := tokx; have hl := HS.out.less (v := vk) (by rw [Hk.out, hcr.out]; rfl); refine (specWideNear _ _ hl.1).mono ?_; rintro e w' ⟨c, nc, rfl, rfl, hc, hcl⟩; have HC := Lib.hid hc; have HV := Lib.hid hl.2; have bc := Lib.hid (bd_sineOf (up_part hl.1)); clear hc hl _t tokx) | (go_at_call 126; have _t := toky; refine (specWideNear _ _ HS.out.near).mono ?_; rintro e w' ⟨s, ns, rfl, rfl, hc, hsl⟩; have HD := Lib.hid hc; have bs := Lib.hid (bd_sineOf (up_part HS.out.near)); clear hc _t toky) | (go_at_call 125; have _t := tok1; refine (specNarrow _ _ hcl (Bd.narrows (bc.out.mono (by omega)) HC.out)).mono ?_; rintro e w' ⟨y, ny, rfl, rfl, hy, hyl⟩; have HY := Lib.hid hy; clear hy _t tok1) | (go_at_call 125; have _t := tok2; refine (specNarrow _ _ hsl (Bd.narrows (bs.out.mono (by omega)) HD.out)).mono ?_; rintro e w' ⟨z, nz, rfl, rfl, hy, hzl⟩; have HZ := Lib.hid hy; clear hy _t tok2))
          go_ret
          have hph := phasor_at hw.out HV.out
          exact ⟨y, z, _, rfl, rfl, by rw [HY.out, HC.out, hph]; rfl, by rw [HZ.out, HD.out, hph]; rfl, hyl, hzl⟩
      · have t1 : (FloatKind.f64.format.order r 4598175219545276416 == some .gt || FloatKind.f64.format.order r 4598175219545276416 == some .eq) = true := tGe hcr.out rfl hg
        have HS := Lib.hid hs
        have HG := Lib.hid hg
        clear hg hst hs
        have hib : (i : Int) ≤ 4 := by omega
        have tokk : True := trivial
        go_wp2_with (first | (have _t := tokk; refine wpList_arith rfl _ _ _ _ _ rfl rfl .f64 _ _ rfl rfl ?_; intro vk nk hc hk; have Hk := Lib.hid hc; clear hc _t tokk; replace hk : vk < 2 ^ 64 := hk))
        have hnx := HS.out.next HG.out (v := vk) (by rw [Hk.out, hcr.out]; rfl) hk
        go_roundw
        case rel => exact ⟨i + 1, vk, hnx.1, rfl, by go_num, _, rfl⟩
        case measure => show 5 - ((i : Int) + 1).toNat < 5 - (i : Int).toNat; have := hnx.2; omega

/-- the phasor of some turns, in 32 bits -/
def phasorN (t : Nat) : Option Nat × Option Nat :=
  if finB .f64 t = true then (if 1075 * 2 ^ 52 ≤ rung Ieee.double t then (some 1065353216, some 0) else (fconv .f64 .f32 (phasorO t).1, fconv .f64 .f32 (phasorO t).2)) else (none, none)

theorem specPhasor (t : Nat) (w : World) : Calls Try.prog 104 #[.float .f64 t] w (CRet .f32 w (phasorN t).1 (phasorN t).2) := by
  unfold phasorN
  by_cases h : finB .f64 t = true
  · rw [if_pos h]
    by_cases hf : 1075 * 2 ^ 52 ≤ rung Ieee.double t
    · rw [if_pos hf]; exact specPhasorFar t w h hf
    · rw [if_neg hf]; exact specPhasorNear t w (Nat.lt_of_not_le hf)
  · rw [if_neg h]; exact specPhasorNan t w (by simpa using h)

theorem implPhasor (t : Nat) (w : World) (ht : t < 2 ^ 64) : Calls Try.prog 147 #[.float .f64 t] w (CRet .f32 w (phasorN t).1 (phasorN t).2) := by
  unfold phasorN
  by_cases h : finB .f64 t = true
  · rw [if_pos h]
    by_cases hf : 1075 * 2 ^ 52 ≤ rung Ieee.double t
    · rw [if_pos hf]; exact implPhasorFar t w ht h hf
    · rw [if_neg hf]; exact implPhasorNear t w ht (Nat.lt_of_not_le hf)
  · rw [if_neg h]; exact implPhasorNan t w ht (by simpa using h)

end Go.Proofs.Ythihemfegjaenaa
