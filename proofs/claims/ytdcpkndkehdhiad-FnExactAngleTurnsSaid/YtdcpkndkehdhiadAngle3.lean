/- The walk of the model's angle of a point, and the law. Conditions: none beyond those of each theorem. -/
import Derived.Test.YtdcpkndkehdhiadAngle2
namespace Go.Proofs.Ytdcpkndkehdhiad
open Go Ieee Go.RowKit

theorem h00 : (FloatKind.f64.format.order 0 0 != some .eq) = false := by decide

theorem specAngleNan1 (Y X : Nat) (w : World) (h : finB .f64 Y = false) : Calls Try.prog 58 #[.float .f64 Y, .float .f64 X] w (DRet w none) := by
  go_enter Try.func58, Try.ntmps58
  go_wp2_with (first | (go_at_call 52; refine (nanAny _).mono ?_; rintro e w' ⟨rfl, rfl⟩) | (refine wpList_arith rfl _ _ _ _ _ rfl rfl .f64 _ _ rfl rfl ?_; intro v n hc hv; have ht : (FloatKind.f64.format.order v 0 != some .eq) = true := congrArg not ((finite_test .f64 hc).trans h); clear hc))
  go_ret
  exact ⟨_, _, rfl, rfl, nan_canon, by decide⟩

theorem specAngleNan2 (Y X : Nat) (w : World) (hY : finB .f64 Y = true) (h : finB .f64 X = false) : Calls Try.prog 58 #[.float .f64 Y, .float .f64 X] w (DRet w none) := by
  have sy := run_sub_self (fin_of_B hY)
  have hz := h00
  go_enter Try.func58, Try.ntmps58
  go_wp2_with (first | (go_at_call 52; refine (nanAny _).mono ?_; rintro e w' ⟨rfl, rfl⟩) | (refine wpList_arith_w (by rfl) _ _ _ _ _ rfl rfl .f64 _ _ rfl rfl ?_; intro v n hc hv; have ht : (FloatKind.f64.format.order v 0 != some .eq) = true := congrArg not ((finite_test .f64 hc).trans h); clear hc))
  go_ret
  exact ⟨_, _, rfl, rfl, nan_canon, by decide⟩

theorem specAngleZero (Y X : Nat) (w : World) (hY : finB .f64 Y = true) (hX : finB .f64 X = true) (h0 : rung Ieee.double Y = 0 ∧ rung Ieee.double X = 0) : Calls Try.prog 58 #[.float .f64 Y, .float .f64 X] w (DRet w (some 0)) := by
  have sy := run_sub_self (fin_of_B hY)
  have sx := run_sub_self (fin_of_B hX)
  have hz := h00
  have ty := (zero_eq .f64 (b := Y) (fin_of_B hY)).trans (decide_eq_true h0.1)
  have tx := (zero_eq .f64 (b := X) (fin_of_B hX)).trans (decide_eq_true h0.2)
  clear h0
  go_enter Try.func58, Try.ntmps58
  go_wp2
  go_ret
  exact ⟨_, 0, rfl, rfl, rfl, by decide⟩

theorem quarter_over {a b : Nat} (h : gtO (some a) (some b) = true) : quarterO a b = fop .sub .f64 (some cQuarter) (eighthO (fop .quo .f64 (some b) (some a))) := by unfold quarterO; rw [if_pos h]
theorem quarter_under {a b : Nat} (h : gtO (some a) (some b) = false) : quarterO a b = eighthO (fop .quo .f64 (some a) (some b)) := by unfold quarterO; rw [h]; rfl
theorem eighth_eq (t : Option Nat) : eighthO t = closing (halves t 3) := rfl
theorem closing_eq (t : Option Nat) : closing t = fop .quo .f64 (fop .mul .f64 (some c8) (fop .mul .f64 t (polyA (fop .mul .f64 t t) 8))) (some cTau) := rfl
theorem oddA_canon (i : Nat) (h : i < 8) : canon .f64 (floatOfInt .f64 (15 - 2 * (i : Int))) = some (oddA i) := (oddA_facts i h).2.2.2.1

set_option maxHeartbeats 8000000 in
theorem specAngleC (Y X : Nat) (w : World) (hY : finB .f64 Y = true) (hX : finB .f64 X = true) (lY : Y < 2 ^ 64) (lX : X < 2 ^ 64) (h0 : ¬ (rung Ieee.double Y = 0 ∧ rung Ieee.double X = 0)) : Calls Try.prog 58 #[.float .f64 Y, .float .f64 X] w (DRet w (angleC Y X)) := by
  have sy := run_sub_self (fin_of_B hY)
  have sx := run_sub_self (fin_of_B hX)
  have hz := h00
  have ty := zero_eq .f64 (b := Y) (fin_of_B hY)
  have tx := zero_eq .f64 (b := X) (fin_of_B hX)
  have ly := zero_lt .f64 (b := Y) (fin_of_B hY)
  have lx := zero_lt .f64 (b := X) (fin_of_B hX)
  have yf : rung Ieee.double Y < Ieee.double.infRung := fin_of_B hY
  have xf : rung Ieee.double X < Ieee.double.infRung := fin_of_B hX
  have fy : isFin .f64 (rung Ieee.double Y) := by show rung Ieee.double (rung Ieee.double Y) < _; rw [rung_rung]; exact yf
  have fx : isFin .f64 (rung Ieee.double X) := by show rung Ieee.double (rung Ieee.double X) < _; rw [rung_rung]; exact xf
  have cy := canon_fin fy
  have cx := canon_fin fx
  have hg : (FloatKind.f64.format.order (rung Ieee.double Y) (rung Ieee.double X) == some .gt) = gtO (some (rung Ieee.double Y)) (some (rung Ieee.double X)) := by
    rw [order_canon, cy, cx]; rfl
  have hk := gtO_key fy fx
  rw [key_rung, key_rung] at hk
  have hang : angleC Y X = signed3 (negB .f64 X) (negB .f64 Y) (quarterO (rung Ieee.double Y) (rung Ieee.double X)) := rfl
  have hcase : (decide (rung Ieee.double X = 0) = false) ∨ (decide (rung Ieee.double X = 0) = true ∧ decide (rung Ieee.double Y = 0) = false ∧ gtO (some (rung Ieee.double Y)) (some (rung Ieee.double X)) = true) := by
    by_cases h : rung Ieee.double X = 0
    · have hy : rung Ieee.double Y ≠ 0 := fun h' => h0 ⟨h', h⟩
      exact .inr ⟨decide_eq_true h, decide_eq_false hy, hk.trans (decide_eq_true (by omega))⟩
    · exact .inl (decide_eq_false h)
  have CY := Lib.hid cy
  have CX := Lib.hid cx
  clear h0 hk fy fx yf xf hY hX cy cx
  rcases hcase with hc | ⟨hc, hc', hc2⟩
  · replace tx := tx.trans hc
    clear hc ty
    cases ov : gtO (some (rung Ieee.double Y)) (some (rung Ieee.double X)) <;> cases nx : negB .f64 X <;> cases ny : negB .f64 Y
    · rw [nx, ny] at hang
      replace ly := ly.trans ny
      replace lx := lx.trans nx
      replace hg := hg.trans ov
      have HG := Lib.hid ov
      have HAN := Lib.hid hang
      clear nx ny ov hang
      have tokq : True := trivial
      go_enter Try.func58, Try.ntmps58
      go_wp2_with (first | (go_at_call 43; refine (absAny _ _ (by assumption)).mono ?_; rintro e w' ⟨rfl, rfl⟩) | (have _t := tokq; refine wpList_arith (by rfl) .quo _ _ _ _ rfl rfl .f64 _ _ rfl rfl ?_; intro vq nq hc hq; have Hq := Lib.hid hc; clear hc _t tokq; replace hq : vq < 2 ^ 64 := hq))
      have hq0 : canon .f64 vq = fop .quo .f64 (some (rung Ieee.double Y)) (some (rung Ieee.double X)) := by rw [Hq.out, CY.out, CX.out]
      have HQ0 := Lib.hid hq0
      clear hq0
      go_loopw [8, 9] (fun p k wr => ∃ i r : Nat, i ≤ 3 ∧ k = .int .i64 (i : Int) ∧ p = .float .f64 r ∧ canon .f64 r = halves (canon .f64 vq) i ∧ r < 2 ^ 64 ∧ ∃ m, wr = w.drewN m) (fun _ k _ => 3 - (intOf k).toNat)
      case atStart => exact ⟨0, vq, by omega, rfl, rfl, rfl, hq, _, rfl⟩
      case round =>
        obtain ⟨i, r, hi, rfl, rfl, hr, hrl, m, rfl⟩ := hrel
        have HR := Lib.hid hr
        clear hr
        by_cases h3 : i < 3
        · have hi3 : (i : Int) < 3 := by omega
          have toka : True := trivial; have tokb : True := trivial; have tokd : True := trivial; have toke : True := trivial
          go_wp2_with (first | (go_at_call 66; refine (sqrtAny _ _).mono ?_; rintro e w' ⟨s, ns, rfl, rfl, hc, hs⟩; have HS := Lib.hid hc; clear hc) | (have _t := toka; refine wpList_arith (by rfl) _ _ _ _ _ rfl rfl .f64 _ _ rfl rfl ?_; intro va na hc ha; have Ha := Lib.hid hc; clear hc _t toka) | (have _t := tokb; refine wpList_arith (by rfl) _ _ _ _ _ rfl rfl .f64 _ _ rfl rfl ?_; intro vb nb hc hb; have Hb := Lib.hid hc; clear hc _t tokb) | (have _t := tokd; refine wpList_arith (by rfl) _ _ _ _ _ rfl rfl .f64 _ _ rfl rfl ?_; intro vd nd hc hd; have Hd := Lib.hid hc; clear hc _t tokd) | (have _t := toke; refine wpList_arith (by rfl) _ _ _ _ _ rfl rfl .f64 _ _ rfl rfl ?_; intro ve ne hc he; have He := Lib.hid hc; clear hc _t toke))
          have g : canon .f64 ve = halves (canon .f64 vq) (i + 1) := by
            rw [He.out, Hd.out, HS.out, Hb.out, Ha.out, HR.out]; rfl
          go_roundw
          case rel => exact ⟨i + 1, ve, by omega, by go_num, rfl, g, he, _, rfl⟩
          case measure => show 3 - ((i : Int) + 1).toNat < 3 - (i : Int).toNat; omega
        · obtain rfl : i = 3 := by omega
          have toku : True := trivial
          go_wp2_with (first | (have _t := toku; refine wpList_arith (by rfl) _ _ _ _ _ rfl rfl .f64 _ _ rfl rfl ?_; intro vu nu hc hu; have Hu := Lib.hid hc; clear hc _t toku))
          have hu : canon .f64 vu = fop .mul .f64 (halves (canon .f64 vq) 3) (halves (canon .f64 vq) 3) := by rw [Hu.out, HR.out]
          have HU := Lib.hid hu
          clear hu Hu
          have hfin : eighthO (fop .quo .f64 (some (rung Ieee.double Y)) (some (rung Ieee.double X))) = closing (halves (canon .f64 vq) 3) := by rw [eighth_eq, HQ0.out]
          rw [closing_eq] at hfin
          have HCL := Lib.hid hfin
          clear hfin
          generalize halves (canon .f64 vq) 3 = T at *
          go_loopw [11, 12] (fun p k wr => ∃ (i q : Nat) (K : Int), i ≤ 8 ∧ K = 15 - 2 * (i : Int) ∧ k = .int .i64 K ∧ p = .float .f64 q ∧ canon .f64 q = polyA (fop .mul .f64 T T) i ∧ ∃ m, wr = w.drewN m) (fun _ k _ => (intOf k + 1).toNat)
          case atStart => exact ⟨0, _, 15, by omega, rfl, rfl, rfl, rfl, _, rfl⟩
          case round =>
            obtain ⟨i, q, K, hi8, hK, rfl, rfl, hq2, m2, rfl⟩ := hrel
            have HQ := Lib.hid hq2
            have HK := Lib.hid hK
            clear hq2
            by_cases h8 : i < 8
            · have hb := oddA_canon i h8
              rw [← hK] at hb
              have HB := Lib.hid hb
              have hk1 : (1 : Int) ≤ K := by omega
              have hk15 : K ≤ 15 := by omega
              clear hK hb
              have tokx : True := trivial; have toky : True := trivial; have tokz : True := trivial
              go_wp2_with (first | (have _t := tokx; refine wpList_arith (by rfl) _ _ _ _ _ rfl rfl .f64 _ _ rfl rfl ?_; intro vx nx hc hx; have Hx := Lib.hid hc; clear hc _t tokx) | (have _t := toky; refine wpList_arith (by rfl) _ _ _ _ _ rfl rfl .f64 _ _ rfl rfl ?_; intro vy ny hc hy; have Hy := Lib.hid hc; clear hc _t toky) | (have _t := tokz; refine wpList_arith (by rfl) _ _ _ _ _ rfl rfl .f64 _ _ rfl rfl ?_; intro vz nz hc hz; have Hz := Lib.hid hc; clear hc _t tokz))
              have g6 : canon .f64 vz = polyA (fop .mul .f64 T T) (i + 1) := by
                rw [Hz.out, Hx.out, Hy.out, HU.out, HQ.out, HB.out]; rfl
              go_roundw
              case rel => exact ⟨i + 1, vz, _, by omega, by have := HK.out; omega, rfl, rfl, g6, _, rfl⟩
              case measure => show (K - 2 + 1).toNat < (K + 1).toNat; omega
            · obtain rfl : i = 8 := by omega
              obtain rfl : K = -1 := by omega
              clear hK HK
              have tokf : True := trivial; have tokg : True := trivial; have tokl : True := trivial
              go_wp2_with (first | (have _t := tokf; refine wpList_arith (by rfl) _ _ _ _ _ rfl rfl .f64 _ _ rfl rfl ?_; intro vf nf hc hf; have Hf := Lib.hid hc; clear hc _t tokf) | (have _t := tokg; refine wpList_arith (by rfl) _ _ _ _ _ rfl rfl .f64 _ _ rfl rfl ?_; intro vg ng hc hg; have Hg := Lib.hid hc; clear hc _t tokg) | (have _t := tokl; refine wpList_arith (by rfl) _ _ _ _ _ rfl rfl .f64 _ _ rfl rfl ?_; intro vl nl hc hl; have Hl := Lib.hid hc; clear hc _t tokl))
              go_ret
              have z1 : canon .f64 vl = eighthO (fop .quo .f64 (some (rung Ieee.double Y)) (some (rung Ieee.double X))) := by rw [Hl.out, Hg.out, Hf.out, HR.out, HQ.out, HCL.out]; rfl
              have z2 : canon .f64 vl = quarterO (rung Ieee.double Y) (rung Ieee.double X) := by rw [quarter_under HG.out]; exact z1
              have z3 := z2
              exact ⟨vl, _, rfl, rfl, by rw [HAN.out, z3]; rfl, hl⟩
    · rw [nx, ny] at hang
      replace ly := ly.trans ny
      replace lx := lx.trans nx
      replace hg := hg.trans ov
      have HG := Lib.hid ov
      have HAN := Lib.hid hang
      clear nx ny ov hang
      have tokq : True := trivial
      go_enter Try.func58, Try.ntmps58
      go_wp2_with (first | (go_at_call 43; refine (absAny _ _ (by assumption)).mono ?_; rintro e w' ⟨rfl, rfl⟩) | (have _t := tokq; refine wpList_arith (by rfl) .quo _ _ _ _ rfl rfl .f64 _ _ rfl rfl ?_; intro vq nq hc hq; have Hq := Lib.hid hc; clear hc _t tokq; replace hq : vq < 2 ^ 64 := hq))
      have hq0 : canon .f64 vq = fop .quo .f64 (some (rung Ieee.double Y)) (some (rung Ieee.double X)) := by rw [Hq.out, CY.out, CX.out]
      have HQ0 := Lib.hid hq0
      clear hq0
      go_loopw [8, 9] (fun p k wr => ∃ i r : Nat, i ≤ 3 ∧ k = .int .i64 (i : Int) ∧ p = .float .f64 r ∧ canon .f64 r = halves (canon .f64 vq) i ∧ r < 2 ^ 64 ∧ ∃ m, wr = w.drewN m) (fun _ k _ => 3 - (intOf k).toNat)
      case atStart => exact ⟨0, vq, by omega, rfl, rfl, rfl, hq, _, rfl⟩
      case round =>
        obtain ⟨i, r, hi, rfl, rfl, hr, hrl, m, rfl⟩ := hrel
        have HR := Lib.hid hr
        clear hr
        by_cases h3 : i < 3
        · have hi3 : (i : Int) < 3 := by omega
          have toka : True := trivial; have tokb : True := trivial; have tokd : True := trivial; have toke : True := trivial
          go_wp2_with (first | (go_at_call 66; refine (sqrtAny _ _).mono ?_; rintro e w' ⟨s, ns, rfl, rfl, hc, hs⟩; have HS := Lib.hid hc; clear hc) | (have _t := toka; refine wpList_arith (by rfl) _ _ _ _ _ rfl rfl .f64 _ _ rfl rfl ?_; intro va na hc ha; have Ha := Lib.hid hc; clear hc _t toka) | (have _t := tokb; refine wpList_arith (by rfl) _ _ _ _ _ rfl rfl .f64 _ _ rfl rfl ?_; intro vb nb hc hb; have Hb := Lib.hid hc; clear hc _t tokb) | (have _t := tokd; refine wpList_arith (by rfl) _ _ _ _ _ rfl rfl .f64 _ _ rfl rfl ?_; intro vd nd hc hd; have Hd := Lib.hid hc; clear hc _t tokd) | (have _t := toke; refine wpList_arith (by rfl) _ _ _ _ _ rfl rfl .f64 _ _ rfl rfl ?_; intro ve ne hc he; have He := Lib.hid hc; clear hc _t toke))
          have g : canon .f64 ve = halves (canon .f64 vq) (i + 1) := by
            rw [He.out, Hd.out, HS.out, Hb.out, Ha.out, HR.out]; rfl
          go_roundw
          case rel => exact ⟨i + 1, ve, by omega, by go_num, rfl, g, he, _, rfl⟩
          case measure => show 3 - ((i : Int) + 1).toNat < 3 - (i : Int).toNat; omega
        · obtain rfl : i = 3 := by omega
          have toku : True := trivial
          go_wp2_with (first | (have _t := toku; refine wpList_arith (by rfl) _ _ _ _ _ rfl rfl .f64 _ _ rfl rfl ?_; intro vu nu hc hu; have Hu := Lib.hid hc; clear hc _t toku))
          have hu : canon .f64 vu = fop .mul .f64 (halves (canon .f64 vq) 3) (halves (canon .f64 vq) 3) := by rw [Hu.out, HR.out]
          have HU := Lib.hid hu
          clear hu Hu
          have hfin : eighthO (fop .quo .f64 (some (rung Ieee.double Y)) (some (rung Ieee.double X))) = closing (halves (canon .f64 vq) 3) := by rw [eighth_eq, HQ0.out]
          rw [closing_eq] at hfin
          have HCL := Lib.hid hfin
          clear hfin
          generalize halves (canon .f64 vq) 3 = T at *
          go_loopw [11, 12] (fun p k wr => ∃ (i q : Nat) (K : Int), i ≤ 8 ∧ K = 15 - 2 * (i : Int) ∧ k = .int .i64 K ∧ p = .float .f64 q ∧ canon .f64 q = polyA (fop .mul .f64 T T) i ∧ ∃ m, wr = w.drewN m) (fun _ k _ => (intOf k + 1).toNat)
          case atStart => exact ⟨0, _, 15, by omega, rfl, rfl, rfl, rfl, _, rfl⟩
          case round =>
            obtain ⟨i, q, K, hi8, hK, rfl, rfl, hq2, m2, rfl⟩ := hrel
            have HQ := Lib.hid hq2
            have HK := Lib.hid hK
            clear hq2
            by_cases h8 : i < 8
            · have hb := oddA_canon i h8
              rw [← hK] at hb
              have HB := Lib.hid hb
              have hk1 : (1 : Int) ≤ K := by omega
              have hk15 : K ≤ 15 := by omega
              clear hK hb
              have tokx : True := trivial; have toky : True := trivial; have tokz : True := trivial
              go_wp2_with (first | (have _t := tokx; refine wpList_arith (by rfl) _ _ _ _ _ rfl rfl .f64 _ _ rfl rfl ?_; intro vx nx hc hx; have Hx := Lib.hid hc; clear hc _t tokx) | (have _t := toky; refine wpList_arith (by rfl) _ _ _ _ _ rfl rfl .f64 _ _ rfl rfl ?_; intro vy ny hc hy; have Hy := Lib.hid hc; clear hc _t toky) | (have _t := tokz; refine wpList_arith (by rfl) _ _ _ _ _ rfl rfl .f64 _ _ rfl rfl ?_; intro vz nz hc hz; have Hz := Lib.hid hc; clear hc _t tokz))
              have g6 : canon .f64 vz = polyA (fop .mul .f64 T T) (i + 1) := by
                rw [Hz.out, Hx.out, Hy.out, HU.out, HQ.out, HB.out]; rfl
              go_roundw
              case rel => exact ⟨i + 1, vz, _, by omega, by have := HK.out; omega, rfl, rfl, g6, _, rfl⟩
              case measure => show (K - 2 + 1).toNat < (K + 1).toNat; omega
            · obtain rfl : i = 8 := by omega
              obtain rfl : K = -1 := by omega
              clear hK HK
              have tokf : True := trivial; have tokg : True := trivial; have tokl : True := trivial
              go_wp2_with (first | (have _t := tokf; refine wpList_arith (by rfl) _ _ _ _ _ rfl rfl .f64 _ _ rfl rfl ?_; intro vf nf hc hf; have Hf := Lib.hid hc; clear hc _t tokf) | (have _t := tokg; refine wpList_arith (by rfl) _ _ _ _ _ rfl rfl .f64 _ _ rfl rfl ?_; intro vg ng hc hg; have Hg := Lib.hid hc; clear hc _t tokg) | (have _t := tokl; refine wpList_arith (by rfl) _ _ _ _ _ rfl rfl .f64 _ _ rfl rfl ?_; intro vl nl hc hl; have Hl := Lib.hid hc; clear hc _t tokl))
              go_ret
              have z1 : canon .f64 vl = eighthO (fop .quo .f64 (some (rung Ieee.double Y)) (some (rung Ieee.double X))) := by rw [Hl.out, Hg.out, Hf.out, HR.out, HQ.out, HCL.out]; rfl
              have z2 : canon .f64 vl = quarterO (rung Ieee.double Y) (rung Ieee.double X) := by rw [quarter_under HG.out]; exact z1
              have z3 := z2
              have hn := neg_canon vl hl
              exact ⟨_, _, rfl, rfl, by rw [HAN.out, hn.1, z3]; rfl, hn.2⟩
    · rw [nx, ny] at hang
      replace ly := ly.trans ny
      replace lx := lx.trans nx
      replace hg := hg.trans ov
      have HG := Lib.hid ov
      have HAN := Lib.hid hang
      clear nx ny ov hang
      have tokq : True := trivial
      go_enter Try.func58, Try.ntmps58
      go_wp2_with (first | (go_at_call 43; refine (absAny _ _ (by assumption)).mono ?_; rintro e w' ⟨rfl, rfl⟩) | (have _t := tokq; refine wpList_arith (by rfl) .quo _ _ _ _ rfl rfl .f64 _ _ rfl rfl ?_; intro vq nq hc hq; have Hq := Lib.hid hc; clear hc _t tokq; replace hq : vq < 2 ^ 64 := hq))
      have hq0 : canon .f64 vq = fop .quo .f64 (some (rung Ieee.double Y)) (some (rung Ieee.double X)) := by rw [Hq.out, CY.out, CX.out]
      have HQ0 := Lib.hid hq0
      clear hq0
      go_loopw [8, 9] (fun p k wr => ∃ i r : Nat, i ≤ 3 ∧ k = .int .i64 (i : Int) ∧ p = .float .f64 r ∧ canon .f64 r = halves (canon .f64 vq) i ∧ r < 2 ^ 64 ∧ ∃ m, wr = w.drewN m) (fun _ k _ => 3 - (intOf k).toNat)
      case atStart => exact ⟨0, vq, by omega, rfl, rfl, rfl, hq, _, rfl⟩
      case round =>
        obtain ⟨i, r, hi, rfl, rfl, hr, hrl, m, rfl⟩ := hrel
        have HR := Lib.hid hr
        clear hr
        by_cases h3 : i < 3
        · have hi3 : (i : Int) < 3 := by omega
          have toka : True := trivial; have tokb : True := trivial; have tokd : True := trivial; have toke : True := trivial
          go_wp2_with (first | (go_at_call 66; refine (sqrtAny _ _).mono ?_; rintro e w' ⟨s, ns, rfl, rfl, hc, hs⟩; have HS := Lib.hid hc; clear hc) | (have _t := toka; refine wpList_arith (by rfl) _ _ _ _ _ rfl rfl .f64 _ _ rfl rfl ?_; intro va na hc ha; have Ha := Lib.hid hc; clear hc _t toka) | (have _t := tokb; refine wpList_arith (by rfl) _ _ _ _ _ rfl rfl .f64 _ _ rfl rfl ?_; intro vb nb hc hb; have Hb := Lib.hid hc; clear hc _t tokb) | (have _t := tokd; refine wpList_arith (by rfl) _ _ _ _ _ rfl rfl .f64 _ _ rfl rfl ?_; intro vd nd hc hd; have Hd := Lib.hid hc; clear hc _t tokd) | (have _t := toke; refine wpList_arith (by rfl) _ _ _ _ _ rfl rfl .f64 _ _ rfl rfl ?_; intro ve ne hc he; have He := Lib.hid hc; clear hc _t toke))
          have g : canon .f64 ve = halves (canon .f64 vq) (i + 1) := by
            rw [He.out, Hd.out, HS.out, Hb.out, Ha.out, HR.out]; rfl
          go_roundw
          case rel => exact ⟨i + 1, ve, by omega, by go_num, rfl, g, he, _, rfl⟩
          case measure => show 3 - ((i : Int) + 1).toNat < 3 - (i : Int).toNat; omega
        · obtain rfl : i = 3 := by omega
          have toku : True := trivial
          go_wp2_with (first | (have _t := toku; refine wpList_arith (by rfl) _ _ _ _ _ rfl rfl .f64 _ _ rfl rfl ?_; intro vu nu hc hu; have Hu := Lib.hid hc; clear hc _t toku))
          have hu : canon .f64 vu = fop .mul .f64 (halves (canon .f64 vq) 3) (halves (canon .f64 vq) 3) := by rw [Hu.out, HR.out]
          have HU := Lib.hid hu
          clear hu Hu
          have hfin : eighthO (fop .quo .f64 (some (rung Ieee.double Y)) (some (rung Ieee.double X))) = closing (halves (canon .f64 vq) 3) := by rw [eighth_eq, HQ0.out]
          rw [closing_eq] at hfin
          have HCL := Lib.hid hfin
          clear hfin
          generalize halves (canon .f64 vq) 3 = T at *
          go_loopw [11, 12] (fun p k wr => ∃ (i q : Nat) (K : Int), i ≤ 8 ∧ K = 15 - 2 * (i : Int) ∧ k = .int .i64 K ∧ p = .float .f64 q ∧ canon .f64 q = polyA (fop .mul .f64 T T) i ∧ ∃ m, wr = w.drewN m) (fun _ k _ => (intOf k + 1).toNat)
          case atStart => exact ⟨0, _, 15, by omega, rfl, rfl, rfl, rfl, _, rfl⟩
          case round =>
            obtain ⟨i, q, K, hi8, hK, rfl, rfl, hq2, m2, rfl⟩ := hrel
            have HQ := Lib.hid hq2
            have HK := Lib.hid hK
            clear hq2
            by_cases h8 : i < 8
            · have hb := oddA_canon i h8
              rw [← hK] at hb
              have HB := Lib.hid hb
              have hk1 : (1 : Int) ≤ K := by omega
              have hk15 : K ≤ 15 := by omega
              clear hK hb
              have tokx : True := trivial; have toky : True := trivial; have tokz : True := trivial
              go_wp2_with (first | (have _t := tokx; refine wpList_arith (by rfl) _ _ _ _ _ rfl rfl .f64 _ _ rfl rfl ?_; intro vx nx hc hx; have Hx := Lib.hid hc; clear hc _t tokx) | (have _t := toky; refine wpList_arith (by rfl) _ _ _ _ _ rfl rfl .f64 _ _ rfl rfl ?_; intro vy ny hc hy; have Hy := Lib.hid hc; clear hc _t toky) | (have _t := tokz; refine wpList_arith (by rfl) _ _ _ _ _ rfl rfl .f64 _ _ rfl rfl ?_; intro vz nz hc hz; have Hz := Lib.hid hc; clear hc _t tokz))
              have g6 : canon .f64 vz = polyA (fop .mul .f64 T T) (i + 1) := by
                rw [Hz.out, Hx.out, Hy.out, HU.out, HQ.out, HB.out]; rfl
              go_roundw
              case rel => exact ⟨i + 1, vz, _, by omega, by have := HK.out; omega, rfl, rfl, g6, _, rfl⟩
              case measure => show (K - 2 + 1).toNat < (K + 1).toNat; omega
            · obtain rfl : i = 8 := by omega
              obtain rfl : K = -1 := by omega
              clear hK HK
              have tokf : True := trivial; have tokg : True := trivial; have tokl : True := trivial; have tokj : True := trivial
              go_wp2_with (first | (have _t := tokf; refine wpList_arith (by rfl) _ _ _ _ _ rfl rfl .f64 _ _ rfl rfl ?_; intro vf nf hc hf; have Hf := Lib.hid hc; clear hc _t tokf) | (have _t := tokg; refine wpList_arith (by rfl) _ _ _ _ _ rfl rfl .f64 _ _ rfl rfl ?_; intro vg ng hc hg; have Hg := Lib.hid hc; clear hc _t tokg) | (have _t := tokl; refine wpList_arith (by rfl) _ _ _ _ _ rfl rfl .f64 _ _ rfl rfl ?_; intro vl nl hc hl; have Hl := Lib.hid hc; clear hc _t tokl) | (have _t := tokj; refine wpList_arith (by rfl) _ _ _ _ _ rfl rfl .f64 _ _ rfl rfl ?_; intro vj nj hc hj; have Hj := Lib.hid hc; clear hc _t tokj))
              go_ret
              have z1 : canon .f64 vl = eighthO (fop .quo .f64 (some (rung Ieee.double Y)) (some (rung Ieee.double X))) := by rw [Hl.out, Hg.out, Hf.out, HR.out, HQ.out, HCL.out]; rfl
              have z2 : canon .f64 vl = quarterO (rung Ieee.double Y) (rung Ieee.double X) := by rw [quarter_under HG.out]; exact z1
              have z3 : canon .f64 vj = fop .sub .f64 (some cHalf) (quarterO (rung Ieee.double Y) (rung Ieee.double X)) := by rw [Hj.out, z2]; rfl
              exact ⟨vj, _, rfl, rfl, by rw [HAN.out, z3]; rfl, hj⟩
    · rw [nx, ny] at hang
      replace ly := ly.trans ny
      replace lx := lx.trans nx
      replace hg := hg.trans ov
      have HG := Lib.hid ov
      have HAN := Lib.hid hang
      clear nx ny ov hang
      have tokq : True := trivial
      go_enter Try.func58, Try.ntmps58
      go_wp2_with (first | (go_at_call 43; refine (absAny _ _ (by assumption)).mono ?_; rintro e w' ⟨rfl, rfl⟩) | (have _t := tokq; refine wpList_arith (by rfl) .quo _ _ _ _ rfl rfl .f64 _ _ rfl rfl ?_; intro vq nq hc hq; have Hq := Lib.hid hc; clear hc _t tokq; replace hq : vq < 2 ^ 64 := hq))
      have hq0 : canon .f64 vq = fop .quo .f64 (some (rung Ieee.double Y)) (some (rung Ieee.double X)) := by rw [Hq.out, CY.out, CX.out]
      have HQ0 := Lib.hid hq0
      clear hq0
      go_loopw [8, 9] (fun p k wr => ∃ i r : Nat, i ≤ 3 ∧ k = .int .i64 (i : Int) ∧ p = .float .f64 r ∧ canon .f64 r = halves (canon .f64 vq) i ∧ r < 2 ^ 64 ∧ ∃ m, wr = w.drewN m) (fun _ k _ => 3 - (intOf k).toNat)
      case atStart => exact ⟨0, vq, by omega, rfl, rfl, rfl, hq, _, rfl⟩
      case round =>
        obtain ⟨i, r, hi, rfl, rfl, hr, hrl, m, rfl⟩ := hrel
        have HR := Lib.hid hr
        clear hr
        by_cases h3 : i < 3
        · have hi3 : (i : Int) < 3 := by omega
          have toka : True := trivial; have tokb : True := trivial; have tokd : True := trivial; have toke : True := trivial
          go_wp2_with (first | (go_at_call 66; refine (sqrtAny _ _).mono ?_; rintro e w' ⟨s, ns, rfl, rfl, hc, hs⟩; have HS := Lib.hid hc; clear hc) | (have _t := toka; refine wpList_arith (by rfl) _ _ _ _ _ rfl rfl .f64 _ _ rfl rfl ?_; intro va na hc ha; have Ha := Lib.hid hc; clear hc _t toka) | (have _t := tokb; refine wpList_arith (by rfl) _ _ _ _ _ rfl rfl .f64 _ _ rfl rfl ?_; intro vb nb hc hb; have Hb := Lib.hid hc; clear hc _t tokb) | (have _t := tokd; refine wpList_arith (by rfl) _ _ _ _ _ rfl rfl .f64 _ _ rfl rfl ?_; intro vd nd hc hd; have Hd := Lib.hid hc; clear hc _t tokd) | (have _t := toke; refine wpList_arith (by rfl) _ _ _ _ _ rfl rfl .f64 _ _ rfl rfl ?_; intro ve ne hc he; have He := Lib.hid hc; clear hc _t toke))
          have g : canon .f64 ve = halves (canon .f64 vq) (i + 1) := by
            rw [He.out, Hd.out, HS.out, Hb.out, Ha.out, HR.out]; rfl
          go_roundw
          case rel => exact ⟨i + 1, ve, by omega, by go_num, rfl, g, he, _, rfl⟩
          case measure => show 3 - ((i : Int) + 1).toNat < 3 - (i : Int).toNat; omega
        · obtain rfl : i = 3 := by omega
          have toku : True := trivial
          go_wp2_with (first | (have _t := toku; refine wpList_arith (by rfl) _ _ _ _ _ rfl rfl .f64 _ _ rfl rfl ?_; intro vu nu hc hu; have Hu := Lib.hid hc; clear hc _t toku))
          have hu : canon .f64 vu = fop .mul .f64 (halves (canon .f64 vq) 3) (halves (canon .f64 vq) 3) := by rw [Hu.out, HR.out]
          have HU := Lib.hid hu
          clear hu Hu
          have hfin : eighthO (fop .quo .f64 (some (rung Ieee.double Y)) (some (rung Ieee.double X))) = closing (halves (canon .f64 vq) 3) := by rw [eighth_eq, HQ0.out]
          rw [closing_eq] at hfin
          have HCL := Lib.hid hfin
          clear hfin
          generalize halves (canon .f64 vq) 3 = T at *
          go_loopw [11, 12] (fun p k wr => ∃ (i q : Nat) (K : Int), i ≤ 8 ∧ K = 15 - 2 * (i : Int) ∧ k = .int .i64 K ∧ p = .float .f64 q ∧ canon .f64 q = polyA (fop .mul .f64 T T) i ∧ ∃ m, wr = w.drewN m) (fun _ k _ => (intOf k + 1).toNat)
          case atStart => exact ⟨0, _, 15, by omega, rfl, rfl, rfl, rfl, _, rfl⟩
          case round =>
            obtain ⟨i, q, K, hi8, hK, rfl, rfl, hq2, m2, rfl⟩ := hrel
            have HQ := Lib.hid hq2
            have HK := Lib.hid hK
            clear hq2
            by_cases h8 : i < 8
            · have hb := oddA_canon i h8
              rw [← hK] at hb
              have HB := Lib.hid hb
              have hk1 : (1 : Int) ≤ K := by omega
              have hk15 : K ≤ 15 := by omega
              clear hK hb
              have tokx : True := trivial; have toky : True := trivial; have tokz : True := trivial
              go_wp2_with (first | (have _t := tokx; refine wpList_arith (by rfl) _ _ _ _ _ rfl rfl .f64 _ _ rfl rfl ?_; intro vx nx hc hx; have Hx := Lib.hid hc; clear hc _t tokx) | (have _t := toky; refine wpList_arith (by rfl) _ _ _ _ _ rfl rfl .f64 _ _ rfl rfl ?_; intro vy ny hc hy; have Hy := Lib.hid hc; clear hc _t toky) | (have _t := tokz; refine wpList_arith (by rfl) _ _ _ _ _ rfl rfl .f64 _ _ rfl rfl ?_; intro vz nz hc hz; have Hz := Lib.hid hc; clear hc _t tokz))
              have g6 : canon .f64 vz = polyA (fop .mul .f64 T T) (i + 1) := by
                rw [Hz.out, Hx.out, Hy.out, HU.out, HQ.out, HB.out]; rfl
              go_roundw
              case rel => exact ⟨i + 1, vz, _, by omega, by have := HK.out; omega, rfl, rfl, g6, _, rfl⟩
              case measure => show (K - 2 + 1).toNat < (K + 1).toNat; omega
            · obtain rfl : i = 8 := by omega
              obtain rfl : K = -1 := by omega
              clear hK HK
              have tokf : True := trivial; have tokg : True := trivial; have tokl : True := trivial; have tokj : True := trivial
              go_wp2_with (first | (have _t := tokf; refine wpList_arith (by rfl) _ _ _ _ _ rfl rfl .f64 _ _ rfl rfl ?_; intro vf nf hc hf; have Hf := Lib.hid hc; clear hc _t tokf) | (have _t := tokg; refine wpList_arith (by rfl) _ _ _ _ _ rfl rfl .f64 _ _ rfl rfl ?_; intro vg ng hc hg; have Hg := Lib.hid hc; clear hc _t tokg) | (have _t := tokl; refine wpList_arith (by rfl) _ _ _ _ _ rfl rfl .f64 _ _ rfl rfl ?_; intro vl nl hc hl; have Hl := Lib.hid hc; clear hc _t tokl) | (have _t := tokj; refine wpList_arith (by rfl) _ _ _ _ _ rfl rfl .f64 _ _ rfl rfl ?_; intro vj nj hc hj; have Hj := Lib.hid hc; clear hc _t tokj))
              go_ret
              have z1 : canon .f64 vl = eighthO (fop .quo .f64 (some (rung Ieee.double Y)) (some (rung Ieee.double X))) := by rw [Hl.out, Hg.out, Hf.out, HR.out, HQ.out, HCL.out]; rfl
              have z2 : canon .f64 vl = quarterO (rung Ieee.double Y) (rung Ieee.double X) := by rw [quarter_under HG.out]; exact z1
              have z3 : canon .f64 vj = fop .sub .f64 (some cHalf) (quarterO (rung Ieee.double Y) (rung Ieee.double X)) := by rw [Hj.out, z2]; rfl
              have hn := neg_canon vj hj
              exact ⟨_, _, rfl, rfl, by rw [HAN.out, hn.1, z3]; rfl, hn.2⟩
    · rw [nx, ny] at hang
      replace ly := ly.trans ny
      replace lx := lx.trans nx
      replace hg := hg.trans ov
      have HG := Lib.hid ov
      have HAN := Lib.hid hang
      clear nx ny ov hang
      have tokq : True := trivial
      go_enter Try.func58, Try.ntmps58
      go_wp2_with (first | (go_at_call 43; refine (absAny _ _ (by assumption)).mono ?_; rintro e w' ⟨rfl, rfl⟩) | (have _t := tokq; refine wpList_arith (by rfl) .quo _ _ _ _ rfl rfl .f64 _ _ rfl rfl ?_; intro vq nq hc hq; have Hq := Lib.hid hc; clear hc _t tokq; replace hq : vq < 2 ^ 64 := hq))
      have hq0 : canon .f64 vq = fop .quo .f64 (some (rung Ieee.double X)) (some (rung Ieee.double Y)) := by rw [Hq.out, CY.out, CX.out]
      have HQ0 := Lib.hid hq0
      clear hq0
      go_loopw [8, 9] (fun p k wr => ∃ i r : Nat, i ≤ 3 ∧ k = .int .i64 (i : Int) ∧ p = .float .f64 r ∧ canon .f64 r = halves (canon .f64 vq) i ∧ r < 2 ^ 64 ∧ ∃ m, wr = w.drewN m) (fun _ k _ => 3 - (intOf k).toNat)
      case atStart => exact ⟨0, vq, by omega, rfl, rfl, rfl, hq, _, rfl⟩
      case round =>
        obtain ⟨i, r, hi, rfl, rfl, hr, hrl, m, rfl⟩ := hrel
        have HR := Lib.hid hr
        clear hr
        by_cases h3 : i < 3
        · have hi3 : (i : Int) < 3 := by omega
          have toka : True := trivial; have tokb : True := trivial; have tokd : True := trivial; have toke : True := trivial
          go_wp2_with (first | (go_at_call 66; refine (sqrtAny _ _).mono ?_; rintro e w' ⟨s, ns, rfl, rfl, hc, hs⟩; have HS := Lib.hid hc; clear hc) | (have _t := toka; refine wpList_arith (by rfl) _ _ _ _ _ rfl rfl .f64 _ _ rfl rfl ?_; intro va na hc ha; have Ha := Lib.hid hc; clear hc _t toka) | (have _t := tokb; refine wpList_arith (by rfl) _ _ _ _ _ rfl rfl .f64 _ _ rfl rfl ?_; intro vb nb hc hb; have Hb := Lib.hid hc; clear hc _t tokb) | (have _t := tokd; refine wpList_arith (by rfl) _ _ _ _ _ rfl rfl .f64 _ _ rfl rfl ?_; intro vd nd hc hd; have Hd := Lib.hid hc; clear hc _t tokd) | (have _t := toke; refine wpList_arith (by rfl) _ _ _ _ _ rfl rfl .f64 _ _ rfl rfl ?_; intro ve ne hc he; have He := Lib.hid hc; clear hc _t toke))
          have g : canon .f64 ve = halves (canon .f64 vq) (i + 1) := by
            rw [He.out, Hd.out, HS.out, Hb.out, Ha.out, HR.out]; rfl
          go_roundw
          case rel => exact ⟨i + 1, ve, by omega, by go_num, rfl, g, he, _, rfl⟩
          case measure => show 3 - ((i : Int) + 1).toNat < 3 - (i : Int).toNat; omega
        · obtain rfl : i = 3 := by omega
          have toku : True := trivial
          go_wp2_with (first | (have _t := toku; refine wpList_arith (by rfl) _ _ _ _ _ rfl rfl .f64 _ _ rfl rfl ?_; intro vu nu hc hu; have Hu := Lib.hid hc; clear hc _t toku))
          have hu : canon .f64 vu = fop .mul .f64 (halves (canon .f64 vq) 3) (halves (canon .f64 vq) 3) := by rw [Hu.out, HR.out]
          have HU := Lib.hid hu
          clear hu Hu
          have hfin : eighthO (fop .quo .f64 (some (rung Ieee.double X)) (some (rung Ieee.double Y))) = closing (halves (canon .f64 vq) 3) := by rw [eighth_eq, HQ0.out]
          rw [closing_eq] at hfin
          have HCL := Lib.hid hfin
          clear hfin
          generalize halves (canon .f64 vq) 3 = T at *
          go_loopw [11, 12] (fun p k wr => ∃ (i q : Nat) (K : Int), i ≤ 8 ∧ K = 15 - 2 * (i : Int) ∧ k = .int .i64 K ∧ p = .float .f64 q ∧ canon .f64 q = polyA (fop .mul .f64 T T) i ∧ ∃ m, wr = w.drewN m) (fun _ k _ => (intOf k + 1).toNat)
          case atStart => exact ⟨0, _, 15, by omega, rfl, rfl, rfl, rfl, _, rfl⟩
          case round =>
            obtain ⟨i, q, K, hi8, hK, rfl, rfl, hq2, m2, rfl⟩ := hrel
            have HQ := Lib.hid hq2
            have HK := Lib.hid hK
            clear hq2
            by_cases h8 : i < 8
            · have hb := oddA_canon i h8
              rw [← hK] at hb
              have HB := Lib.hid hb
              have hk1 : (1 : Int) ≤ K := by omega
              have hk15 : K ≤ 15 := by omega
              clear hK hb
              have tokx : True := trivial; have toky : True := trivial; have tokz : True := trivial
              go_wp2_with (first | (have _t := tokx; refine wpList_arith (by rfl) _ _ _ _ _ rfl rfl .f64 _ _ rfl rfl ?_; intro vx nx hc hx; have Hx := Lib.hid hc; clear hc _t tokx) | (have _t := toky; refine wpList_arith (by rfl) _ _ _ _ _ rfl rfl .f64 _ _ rfl rfl ?_; intro vy ny hc hy; have Hy := Lib.hid hc; clear hc _t toky) | (have _t := tokz; refine wpList_arith (by rfl) _ _ _ _ _ rfl rfl .f64 _ _ rfl rfl ?_; intro vz nz hc hz; have Hz := Lib.hid hc; clear hc _t tokz))
              have g6 : canon .f64 vz = polyA (fop .mul .f64 T T) (i + 1) := by
                rw [Hz.out, Hx.out, Hy.out, HU.out, HQ.out, HB.out]; rfl
              go_roundw
              case rel => exact ⟨i + 1, vz, _, by omega, by have := HK.out; omega, rfl, rfl, g6, _, rfl⟩
              case measure => show (K - 2 + 1).toNat < (K + 1).toNat; omega
            · obtain rfl : i = 8 := by omega
              obtain rfl : K = -1 := by omega
              clear hK HK
              have tokf : True := trivial; have tokg : True := trivial; have tokl : True := trivial; have toko : True := trivial
              go_wp2_with (first | (have _t := tokf; refine wpList_arith (by rfl) _ _ _ _ _ rfl rfl .f64 _ _ rfl rfl ?_; intro vf nf hc hf; have Hf := Lib.hid hc; clear hc _t tokf) | (have _t := tokg; refine wpList_arith (by rfl) _ _ _ _ _ rfl rfl .f64 _ _ rfl rfl ?_; intro vg ng hc hg; have Hg := Lib.hid hc; clear hc _t tokg) | (have _t := tokl; refine wpList_arith (by rfl) _ _ _ _ _ rfl rfl .f64 _ _ rfl rfl ?_; intro vl nl hc hl; have Hl := Lib.hid hc; clear hc _t tokl) | (have _t := toko; refine wpList_arith (by rfl) _ _ _ _ _ rfl rfl .f64 _ _ rfl rfl ?_; intro vo no hc ho; have Ho := Lib.hid hc; clear hc _t toko))
              go_ret
              have z1 : canon .f64 vl = eighthO (fop .quo .f64 (some (rung Ieee.double X)) (some (rung Ieee.double Y))) := by rw [Hl.out, Hg.out, Hf.out, HR.out, HQ.out, HCL.out]; rfl
              have z2 : canon .f64 vo = quarterO (rung Ieee.double Y) (rung Ieee.double X) := by rw [quarter_over HG.out, Ho.out, z1]; rfl
              have z3 := z2
              exact ⟨vo, _, rfl, rfl, by rw [HAN.out, z3]; rfl, ho⟩
    · rw [nx, ny] at hang
      replace ly := ly.trans ny
      replace lx := lx.trans nx
      replace hg := hg.trans ov
      have HG := Lib.hid ov
      have HAN := Lib.hid hang
      clear nx ny ov hang
      have tokq : True := trivial
      go_enter Try.func58, Try.ntmps58
      go_wp2_with (first | (go_at_call 43; refine (absAny _ _ (by assumption)).mono ?_; rintro e w' ⟨rfl, rfl⟩) | (have _t := tokq; refine wpList_arith (by rfl) .quo _ _ _ _ rfl rfl .f64 _ _ rfl rfl ?_; intro vq nq hc hq; have Hq := Lib.hid hc; clear hc _t tokq; replace hq : vq < 2 ^ 64 := hq))
      have hq0 : canon .f64 vq = fop .quo .f64 (some (rung Ieee.double X)) (some (rung Ieee.double Y)) := by rw [Hq.out, CY.out, CX.out]
      have HQ0 := Lib.hid hq0
      clear hq0
      go_loopw [8, 9] (fun p k wr => ∃ i r : Nat, i ≤ 3 ∧ k = .int .i64 (i : Int) ∧ p = .float .f64 r ∧ canon .f64 r = halves (canon .f64 vq) i ∧ r < 2 ^ 64 ∧ ∃ m, wr = w.drewN m) (fun _ k _ => 3 - (intOf k).toNat)
      case atStart => exact ⟨0, vq, by omega, rfl, rfl, rfl, hq, _, rfl⟩
      case round =>
        obtain ⟨i, r, hi, rfl, rfl, hr, hrl, m, rfl⟩ := hrel
        have HR := Lib.hid hr
        clear hr
        by_cases h3 : i < 3
        · have hi3 : (i : Int) < 3 := by omega
          have toka : True := trivial; have tokb : True := trivial; have tokd : True := trivial; have toke : True := trivial
          go_wp2_with (first | (go_at_call 66; refine (sqrtAny _ _).mono ?_; rintro e w' ⟨s, ns, rfl, rfl, hc, hs⟩; have HS := Lib.hid hc; clear hc) | (have _t := toka; refine wpList_arith (by rfl) _ _ _ _ _ rfl rfl .f64 _ _ rfl rfl ?_; intro va na hc ha; have Ha := Lib.hid hc; clear hc _t toka) | (have _t := tokb; refine wpList_arith (by rfl) _ _ _ _ _ rfl rfl .f64 _ _ rfl rfl ?_; intro vb nb hc hb; have Hb := Lib.hid hc; clear hc _t tokb) | (have _t := tokd; refine wpList_arith (by rfl) _ _ _ _ _ rfl rfl .f64 _ _ rfl rfl ?_; intro vd nd hc hd; have Hd := Lib.hid hc; clear hc _t tokd) | (have _t := toke; refine wpList_arith (by rfl) _ _ _ _ _ rfl rfl .f64 _ _ rfl rfl ?_; intro ve ne hc he; have He := Lib.hid hc; clear hc _t toke))
          have g : canon .f64 ve = halves (canon .f64 vq) (i + 1) := by
            rw [He.out, Hd.out, HS.out, Hb.out, Ha.out, HR.out]; rfl
          go_roundw
          case rel => exact ⟨i + 1, ve, by omega, by go_num, rfl, g, he, _, rfl⟩
          case measure => show 3 - ((i : Int) + 1).toNat < 3 - (i : Int).toNat; omega
        · obtain rfl : i = 3 := by omega
          have toku : True := trivial
          go_wp2_with (first | (have _t := toku; refine wpList_arith (by rfl) _ _ _ _ _ rfl rfl .f64 _ _ rfl rfl ?_; intro vu nu hc hu; have Hu := Lib.hid hc; clear hc _t toku))
          have hu : canon .f64 vu = fop .mul .f64 (halves (canon .f64 vq) 3) (halves (canon .f64 vq) 3) := by rw [Hu.out, HR.out]
          have HU := Lib.hid hu
          clear hu Hu
          have hfin : eighthO (fop .quo .f64 (some (rung Ieee.double X)) (some (rung Ieee.double Y))) = closing (halves (canon .f64 vq) 3) := by rw [eighth_eq, HQ0.out]
          rw [closing_eq] at hfin
          have HCL := Lib.hid hfin
          clear hfin
          generalize halves (canon .f64 vq) 3 = T at *
          go_loopw [11, 12] (fun p k wr => ∃ (i q : Nat) (K : Int), i ≤ 8 ∧ K = 15 - 2 * (i : Int) ∧ k = .int .i64 K ∧ p = .float .f64 q ∧ canon .f64 q = polyA (fop .mul .f64 T T) i ∧ ∃ m, wr = w.drewN m) (fun _ k _ => (intOf k + 1).toNat)
          case atStart => exact ⟨0, _, 15, by omega, rfl, rfl, rfl, rfl, _, rfl⟩
          case round =>
            obtain ⟨i, q, K, hi8, hK, rfl, rfl, hq2, m2, rfl⟩ := hrel
            have HQ := Lib.hid hq2
            have HK := Lib.hid hK
            clear hq2
            by_cases h8 : i < 8
            · have hb := oddA_canon i h8
              rw [← hK] at hb
              have HB := Lib.hid hb
              have hk1 : (1 : Int) ≤ K := by omega
              have hk15 : K ≤ 15 := by omega
              clear hK hb
              have tokx : True := trivial; have toky : True := trivial; have tokz : True := trivial
              go_wp2_with (first | (have _t := tokx; refine wpList_arith (by rfl) _ _ _ _ _ rfl rfl .f64 _ _ rfl rfl ?_; intro vx nx hc hx; have Hx := Lib.hid hc; clear hc _t tokx) | (have _t := toky; refine wpList_arith (by rfl) _ _ _ _ _ rfl rfl .f64 _ _ rfl rfl ?_; intro vy ny hc hy; have Hy := Lib.hid hc; clear hc _t toky) | (have _t := tokz; refine wpList_arith (by rfl) _ _ _ _ _ rfl rfl .f64 _ _ rfl rfl ?_; intro vz nz hc hz; have Hz := Lib.hid hc; clear hc _t tokz))
              have g6 : canon .f64 vz = polyA (fop .mul .f64 T T) (i + 1) := by
                rw [Hz.out, Hx.out, Hy.out, HU.out, HQ.out, HB.out]; rfl
              go_roundw
              case rel => exact ⟨i + 1, vz, _, by omega, by have := HK.out; omega, rfl, rfl, g6, _, rfl⟩
              case measure => show (K - 2 + 1).toNat < (K + 1).toNat; omega
            · obtain rfl : i = 8 := by omega
              obtain rfl : K = -1 := by omega
              clear hK HK
              have tokf : True := trivial; have tokg : True := trivial; have tokl : True := trivial; have toko : True := trivial
              go_wp2_with (first | (have _t := tokf; refine wpList_arith (by rfl) _ _ _ _ _ rfl rfl .f64 _ _ rfl rfl ?_; intro vf nf hc hf; have Hf := Lib.hid hc; clear hc _t tokf) | (have _t := tokg; refine wpList_arith (by rfl) _ _ _ _ _ rfl rfl .f64 _ _ rfl rfl ?_; intro vg ng hc hg; have Hg := Lib.hid hc; clear hc _t tokg) | (have _t := tokl; refine wpList_arith (by rfl) _ _ _ _ _ rfl rfl .f64 _ _ rfl rfl ?_; intro vl nl hc hl; have Hl := Lib.hid hc; clear hc _t tokl) | (have _t := toko; refine wpList_arith (by rfl) _ _ _ _ _ rfl rfl .f64 _ _ rfl rfl ?_; intro vo no hc ho; have Ho := Lib.hid hc; clear hc _t toko))
              go_ret
              have z1 : canon .f64 vl = eighthO (fop .quo .f64 (some (rung Ieee.double X)) (some (rung Ieee.double Y))) := by rw [Hl.out, Hg.out, Hf.out, HR.out, HQ.out, HCL.out]; rfl
              have z2 : canon .f64 vo = quarterO (rung Ieee.double Y) (rung Ieee.double X) := by rw [quarter_over HG.out, Ho.out, z1]; rfl
              have z3 := z2
              have hn := neg_canon vo ho
              exact ⟨_, _, rfl, rfl, by rw [HAN.out, hn.1, z3]; rfl, hn.2⟩
    · rw [nx, ny] at hang
      replace ly := ly.trans ny
      replace lx := lx.trans nx
      replace hg := hg.trans ov
      have HG := Lib.hid ov
      have HAN := Lib.hid hang
      clear nx ny ov hang
      have tokq : True := trivial
      go_enter Try.func58, Try.ntmps58
      go_wp2_with (first | (go_at_call 43; refine (absAny _ _ (by assumption)).mono ?_; rintro e w' ⟨rfl, rfl⟩) | (have _t := tokq; refine wpList_arith (by rfl) .quo _ _ _ _ rfl rfl .f64 _ _ rfl rfl ?_; intro vq nq hc hq; have Hq := Lib.hid hc; clear hc _t tokq; replace hq : vq < 2 ^ 64 := hq))
      have hq0 : canon .f64 vq = fop .quo .f64 (some (rung Ieee.double X)) (some (rung Ieee.double Y)) := by rw [Hq.out, CY.out, CX.out]
      have HQ0 := Lib.hid hq0
      clear hq0
      go_loopw [8, 9] (fun p k wr => ∃ i r : Nat, i ≤ 3 ∧ k = .int .i64 (i : Int) ∧ p = .float .f64 r ∧ canon .f64 r = halves (canon .f64 vq) i ∧ r < 2 ^ 64 ∧ ∃ m, wr = w.drewN m) (fun _ k _ => 3 - (intOf k).toNat)
      case atStart => exact ⟨0, vq, by omega, rfl, rfl, rfl, hq, _, rfl⟩
      case round =>
        obtain ⟨i, r, hi, rfl, rfl, hr, hrl, m, rfl⟩ := hrel
        have HR := Lib.hid hr
        clear hr
        by_cases h3 : i < 3
        · have hi3 : (i : Int) < 3 := by omega
          have toka : True := trivial; have tokb : True := trivial; have tokd : True := trivial; have toke : True := trivial
          go_wp2_with (first | (go_at_call 66; refine (sqrtAny _ _).mono ?_; rintro e w' ⟨s, ns, rfl, rfl, hc, hs⟩; have HS := Lib.hid hc; clear hc) | (have _t := toka; refine wpList_arith (by rfl) _ _ _ _ _ rfl rfl .f64 _ _ rfl rfl ?_; intro va na hc ha; have Ha := Lib.hid hc; clear hc _t toka) | (have _t := tokb; refine wpList_arith (by rfl) _ _ _ _ _ rfl rfl .f64 _ _ rfl rfl ?_; intro vb nb hc hb; have Hb := Lib.hid hc; clear hc _t tokb) | (have _t := tokd; refine wpList_arith (by rfl) _ _ _ _ _ rfl rfl .f64 _ _ rfl rfl ?_; intro vd nd hc hd; have Hd := Lib.hid hc; clear hc _t tokd) | (have _t := toke; refine wpList_arith (by rfl) _ _ _ _ _ rfl rfl .f64 _ _ rfl rfl ?_; intro ve ne hc he; have He := Lib.hid hc; clear hc _t toke))
          have g : canon .f64 ve = halves (canon .f64 vq) (i + 1) := by
            rw [He.out, Hd.out, HS.out, Hb.out, Ha.out, HR.out]; rfl
          go_roundw
          case rel => exact ⟨i + 1, ve, by omega, by go_num, rfl, g, he, _, rfl⟩
          case measure => show 3 - ((i : Int) + 1).toNat < 3 - (i : Int).toNat; omega
        · obtain rfl : i = 3 := by omega
          have toku : True := trivial
          go_wp2_with (first | (have _t := toku; refine wpList_arith (by rfl) _ _ _ _ _ rfl rfl .f64 _ _ rfl rfl ?_; intro vu nu hc hu; have Hu := Lib.hid hc; clear hc _t toku))
          have hu : canon .f64 vu = fop .mul .f64 (halves (canon .f64 vq) 3) (halves (canon .f64 vq) 3) := by rw [Hu.out, HR.out]
          have HU := Lib.hid hu
          clear hu Hu
          have hfin : eighthO (fop .quo .f64 (some (rung Ieee.double X)) (some (rung Ieee.double Y))) = closing (halves (canon .f64 vq) 3) := by rw [eighth_eq, HQ0.out]
          rw [closing_eq] at hfin
          have HCL := Lib.hid hfin
          clear hfin
          generalize halves (canon .f64 vq) 3 = T at *
          go_loopw [11, 12] (fun p k wr => ∃ (i q : Nat) (K : Int), i ≤ 8 ∧ K = 15 - 2 * (i : Int) ∧ k = .int .i64 K ∧ p = .float .f64 q ∧ canon .f64 q = polyA (fop .mul .f64 T T) i ∧ ∃ m, wr = w.drewN m) (fun _ k _ => (intOf k + 1).toNat)
          case atStart => exact ⟨0, _, 15, by omega, rfl, rfl, rfl, rfl, _, rfl⟩
          case round =>
            obtain ⟨i, q, K, hi8, hK, rfl, rfl, hq2, m2, rfl⟩ := hrel
            have HQ := Lib.hid hq2
            have HK := Lib.hid hK
            clear hq2
            by_cases h8 : i < 8
            · have hb := oddA_canon i h8
              rw [← hK] at hb
              have HB := Lib.hid hb
              have hk1 : (1 : Int) ≤ K := by omega
              have hk15 : K ≤ 15 := by omega
              clear hK hb
              have tokx : True := trivial; have toky : True := trivial; have tokz : True := trivial
              go_wp2_with (first | (have _t := tokx; refine wpList_arith (by rfl) _ _ _ _ _ rfl rfl .f64 _ _ rfl rfl ?_; intro vx nx hc hx; have Hx := Lib.hid hc; clear hc _t tokx) | (have _t := toky; refine wpList_arith (by rfl) _ _ _ _ _ rfl rfl .f64 _ _ rfl rfl ?_; intro vy ny hc hy; have Hy := Lib.hid hc; clear hc _t toky) | (have _t := tokz; refine wpList_arith (by rfl) _ _ _ _ _ rfl rfl .f64 _ _ rfl rfl ?_; intro vz nz hc hz; have Hz := Lib.hid hc; clear hc _t tokz))
              have g6 : canon .f64 vz = polyA (fop .mul .f64 T T) (i + 1) := by
                rw [Hz.out, Hx.out, Hy.out, HU.out, HQ.out, HB.out]; rfl
              go_roundw
              case rel => exact ⟨i + 1, vz, _, by omega, by have := HK.out; omega, rfl, rfl, g6, _, rfl⟩
              case measure => show (K - 2 + 1).toNat < (K + 1).toNat; omega
            · obtain rfl : i = 8 := by omega
              obtain rfl : K = -1 := by omega
              clear hK HK
              have tokf : True := trivial; have tokg : True := trivial; have tokl : True := trivial; have toko : True := trivial; have tokj : True := trivial
              go_wp2_with (first | (have _t := tokf; refine wpList_arith (by rfl) _ _ _ _ _ rfl rfl .f64 _ _ rfl rfl ?_; intro vf nf hc hf; have Hf := Lib.hid hc; clear hc _t tokf) | (have _t := tokg; refine wpList_arith (by rfl) _ _ _ _ _ rfl rfl .f64 _ _ rfl rfl ?_; intro vg ng hc hg; have Hg := Lib.hid hc; clear hc _t tokg) | (have _t := tokl; refine wpList_arith (by rfl) _ _ _ _ _ rfl rfl .f64 _ _ rfl rfl ?_; intro vl nl hc hl; have Hl := Lib.hid hc; clear hc _t tokl) | (have _t := toko; refine wpList_arith (by rfl) _ _ _ _ _ rfl rfl .f64 _ _ rfl rfl ?_; intro vo no hc ho; have Ho := Lib.hid hc; clear hc _t toko) | (have _t := tokj; refine wpList_arith (by rfl) _ _ _ _ _ rfl rfl .f64 _ _ rfl rfl ?_; intro vj nj hc hj; have Hj := Lib.hid hc; clear hc _t tokj))
              go_ret
              have z1 : canon .f64 vl = eighthO (fop .quo .f64 (some (rung Ieee.double X)) (some (rung Ieee.double Y))) := by rw [Hl.out, Hg.out, Hf.out, HR.out, HQ.out, HCL.out]; rfl
              have z2 : canon .f64 vo = quarterO (rung Ieee.double Y) (rung Ieee.double X) := by rw [quarter_over HG.out, Ho.out, z1]; rfl
              have z3 : canon .f64 vj = fop .sub .f64 (some cHalf) (quarterO (rung Ieee.double Y) (rung Ieee.double X)) := by rw [Hj.out, z2]; rfl
              exact ⟨vj, _, rfl, rfl, by rw [HAN.out, z3]; rfl, hj⟩
    · rw [nx, ny] at hang
      replace ly := ly.trans ny
      replace lx := lx.trans nx
      replace hg := hg.trans ov
      have HG := Lib.hid ov
      have HAN := Lib.hid hang
      clear nx ny ov hang
      have tokq : True := trivial
      go_enter Try.func58, Try.ntmps58
      go_wp2_with (first | (go_at_call 43; refine (absAny _ _ (by assumption)).mono ?_; rintro e w' ⟨rfl, rfl⟩) | (have _t := tokq; refine wpList_arith (by rfl) .quo _ _ _ _ rfl rfl .f64 _ _ rfl rfl ?_; intro vq nq hc hq; have Hq := Lib.hid hc; clear hc _t tokq; replace hq : vq < 2 ^ 64 := hq))
      have hq0 : canon .f64 vq = fop .quo .f64 (some (rung Ieee.double X)) (some (rung Ieee.double Y)) := by rw [Hq.out, CY.out, CX.out]
      have HQ0 := Lib.hid hq0
      clear hq0
      go_loopw [8, 9] (fun p k wr => ∃ i r : Nat, i ≤ 3 ∧ k = .int .i64 (i : Int) ∧ p = .float .f64 r ∧ canon .f64 r = halves (canon .f64 vq) i ∧ r < 2 ^ 64 ∧ ∃ m, wr = w.drewN m) (fun _ k _ => 3 - (intOf k).toNat)
      case atStart => exact ⟨0, vq, by omega, rfl, rfl, rfl, hq, _, rfl⟩
      case round =>
        obtain ⟨i, r, hi, rfl, rfl, hr, hrl, m, rfl⟩ := hrel
        have HR := Lib.hid hr
        clear hr
        by_cases h3 : i < 3
        · have hi3 : (i : Int) < 3 := by omega
          have toka : True := trivial; have tokb : True := trivial; have tokd : True := trivial; have toke : True := trivial
          go_wp2_with (first | (go_at_call 66; refine (sqrtAny _ _).mono ?_; rintro e w' ⟨s, ns, rfl, rfl, hc, hs⟩; have HS := Lib.hid hc; clear hc) | (have _t := toka; refine wpList_arith (by rfl) _ _ _ _ _ rfl rfl .f64 _ _ rfl rfl ?_; intro va na hc ha; have Ha := Lib.hid hc; clear hc _t toka) | (have _t := tokb; refine wpList_arith (by rfl) _ _ _ _ _ rfl rfl .f64 _ _ rfl rfl ?_; intro vb nb hc hb; have Hb := Lib.hid hc; clear hc _t tokb) | (have _t := tokd; refine wpList_arith (by rfl) _ _ _ _ _ rfl rfl .f64 _ _ rfl rfl ?_; intro vd nd hc hd; have Hd := Lib.hid hc; clear hc _t tokd) | (have _t := toke; refine wpList_arith (by rfl) _ _ _ _ _ rfl rfl .f64 _ _ rfl rfl ?_; intro ve ne hc he; have He := Lib.hid hc; clear hc _t toke))
          have g : canon .f64 ve = halves (canon .f64 vq) (i + 1) := by
            rw [He.out, Hd.out, HS.out, Hb.out, Ha.out, HR.out]; rfl
          go_roundw
          case rel => exact ⟨i + 1, ve, by omega, by go_num, rfl, g, he, _, rfl⟩
          case measure => show 3 - ((i : Int) + 1).toNat < 3 - (i : Int).toNat; omega
        · obtain rfl : i = 3 := by omega
          have toku : True := trivial
          go_wp2_with (first | (have _t := toku; refine wpList_arith (by rfl) _ _ _ _ _ rfl rfl .f64 _ _ rfl rfl ?_; intro vu nu hc hu; have Hu := Lib.hid hc; clear hc _t toku))
          have hu : canon .f64 vu = fop .mul .f64 (halves (canon .f64 vq) 3) (halves (canon .f64 vq) 3) := by rw [Hu.out, HR.out]
          have HU := Lib.hid hu
          clear hu Hu
          have hfin : eighthO (fop .quo .f64 (some (rung Ieee.double X)) (some (rung Ieee.double Y))) = closing (halves (canon .f64 vq) 3) := by rw [eighth_eq, HQ0.out]
          rw [closing_eq] at hfin
          have HCL := Lib.hid hfin
          clear hfin
          generalize halves (canon .f64 vq) 3 = T at *
          go_loopw [11, 12] (fun p k wr => ∃ (i q : Nat) (K : Int), i ≤ 8 ∧ K = 15 - 2 * (i : Int) ∧ k = .int .i64 K ∧ p = .float .f64 q ∧ canon .f64 q = polyA (fop .mul .f64 T T) i ∧ ∃ m, wr = w.drewN m) (fun _ k _ => (intOf k + 1).toNat)
          case atStart => exact ⟨0, _, 15, by omega, rfl, rfl, rfl, rfl, _, rfl⟩
          case round =>
            obtain ⟨i, q, K, hi8, hK, rfl, rfl, hq2, m2, rfl⟩ := hrel
            have HQ := Lib.hid hq2
            have HK := Lib.hid hK
            clear hq2
            by_cases h8 : i < 8
            · have hb := oddA_canon i h8
              rw [← hK] at hb
              have HB := Lib.hid hb
              have hk1 : (1 : Int) ≤ K := by omega
              have hk15 : K ≤ 15 := by omega
              clear hK hb
              have tokx : True := trivial; have toky : True := trivial; have tokz : True := trivial
              go_wp2_with (first | (have _t := tokx; refine wpList_arith (by rfl) _ _ _ _ _ rfl rfl .f64 _ _ rfl rfl ?_; intro vx nx hc hx; have Hx := Lib.hid hc; clear hc _t tokx) | (have _t := toky; refine wpList_arith (by rfl) _ _ _ _ _ rfl rfl .f64 _ _ rfl rfl ?_; intro vy ny hc hy; have Hy := Lib.hid hc; clear hc _t toky) | (have _t := tokz; refine wpList_arith (by rfl) _ _ _ _ _ rfl rfl .f64 _ _ rfl rfl ?_; intro vz nz hc hz; have Hz := Lib.hid hc; clear hc _t tokz))
              have g6 : canon .f64 vz = polyA (fop .mul .f64 T T) (i + 1) := by
                rw [Hz.out, Hx.out, Hy.out, HU.out, HQ.out, HB.out]; rfl
              go_roundw
              case rel => exact ⟨i + 1, vz, _, by omega, by have := HK.out; omega, rfl, rfl, g6, _, rfl⟩
              case measure => show (K - 2 + 1).toNat < (K + 1).toNat; omega
            · obtain rfl : i = 8 := by omega
              obtain rfl : K = -1 := by omega
              clear hK HK
              have tokf : True := trivial; have tokg : True := trivial; have tokl : True := trivial; have toko : True := trivial; have tokj : True := trivial
              go_wp2_with (first | (have _t := tokf; refine wpList_arith (by rfl) _ _ _ _ _ rfl rfl .f64 _ _ rfl rfl ?_; intro vf nf hc hf; have Hf := Lib.hid hc; clear hc _t tokf) | (have _t := tokg; refine wpList_arith (by rfl) _ _ _ _ _ rfl rfl .f64 _ _ rfl rfl ?_; intro vg ng hc hg; have Hg := Lib.hid hc; clear hc _t tokg) | (have _t := tokl; refine wpList_arith (by rfl) _ _ _ _ _ rfl rfl .f64 _ _ rfl rfl ?_; intro vl nl hc hl; have Hl := Lib.hid hc; clear hc _t tokl) | (have _t := toko; refine wpList_arith (by rfl) _ _ _ _ _ rfl rfl .f64 _ _ rfl rfl ?_; intro vo no hc ho; have Ho := Lib.hid hc; clear hc _t toko) | (have _t := tokj; refine wpList_arith (by rfl) _ _ _ _ _ rfl rfl .f64 _ _ rfl rfl ?_; intro vj nj hc hj; have Hj := Lib.hid hc; clear hc _t tokj))
              go_ret
              have z1 : canon .f64 vl = eighthO (fop .quo .f64 (some (rung Ieee.double X)) (some (rung Ieee.double Y))) := by rw [Hl.out, Hg.out, Hf.out, HR.out, HQ.out, HCL.out]; rfl
              have z2 : canon .f64 vo = quarterO (rung Ieee.double Y) (rung Ieee.double X) := by rw [quarter_over HG.out, Ho.out, z1]; rfl
              have z3 : canon .f64 vj = fop .sub .f64 (some cHalf) (quarterO (rung Ieee.double Y) (rung Ieee.double X)) := by rw [Hj.out, z2]; rfl
              have hn := neg_canon vj hj
              exact ⟨_, _, rfl, rfl, by rw [HAN.out, hn.1, z3]; rfl, hn.2⟩
  · replace tx := tx.trans hc
    replace ty := ty.trans hc'
    replace hg := hg.trans hc2
    have HG := Lib.hid hc2
    clear hc hc' hc2
    cases nx : negB .f64 X <;> cases ny : negB .f64 Y
    · rw [nx, ny] at hang
      replace ly := ly.trans ny
      replace lx := lx.trans nx
      have HAN := Lib.hid hang
      clear nx ny hang
      have tokq : True := trivial
      go_enter Try.func58, Try.ntmps58
      go_wp2_with (first | (go_at_call 43; refine (absAny _ _ (by assumption)).mono ?_; rintro e w' ⟨rfl, rfl⟩) | (have _t := tokq; refine wpList_arith (by rfl) .quo _ _ _ _ rfl rfl .f64 _ _ rfl rfl ?_; intro vq nq hc hq; have Hq := Lib.hid hc; clear hc _t tokq; replace hq : vq < 2 ^ 64 := hq))
      have hq0 : canon .f64 vq = fop .quo .f64 (some (rung Ieee.double X)) (some (rung Ieee.double Y)) := by rw [Hq.out, CY.out, CX.out]
      have HQ0 := Lib.hid hq0
      clear hq0
      go_loopw [8, 9] (fun p k wr => ∃ i r : Nat, i ≤ 3 ∧ k = .int .i64 (i : Int) ∧ p = .float .f64 r ∧ canon .f64 r = halves (canon .f64 vq) i ∧ r < 2 ^ 64 ∧ ∃ m, wr = w.drewN m) (fun _ k _ => 3 - (intOf k).toNat)
      case atStart => exact ⟨0, vq, by omega, rfl, rfl, rfl, hq, _, rfl⟩
      case round =>
        obtain ⟨i, r, hi, rfl, rfl, hr, hrl, m, rfl⟩ := hrel
        have HR := Lib.hid hr
        clear hr
        by_cases h3 : i < 3
        · have hi3 : (i : Int) < 3 := by omega
          have toka : True := trivial; have tokb : True := trivial; have tokd : True := trivial; have toke : True := trivial
          go_wp2_with (first | (go_at_call 66; refine (sqrtAny _ _).mono ?_; rintro e w' ⟨s, ns, rfl, rfl, hc, hs⟩; have HS := Lib.hid hc; clear hc) | (have _t := toka; refine wpList_arith (by rfl) _ _ _ _ _ rfl rfl .f64 _ _ rfl rfl ?_; intro va na hc ha; have Ha := Lib.hid hc; clear hc _t toka) | (have _t := tokb; refine wpList_arith (by rfl) _ _ _ _ _ rfl rfl .f64 _ _ rfl rfl ?_; intro vb nb hc hb; have Hb := Lib.hid hc; clear hc _t tokb) | (have _t := tokd; refine wpList_arith (by rfl) _ _ _ _ _ rfl rfl .f64 _ _ rfl rfl ?_; intro vd nd hc hd; have Hd := Lib.hid hc; clear hc _t tokd) | (have _t := toke; refine wpList_arith (by rfl) _ _ _ _ _ rfl rfl .f64 _ _ rfl rfl ?_; intro ve ne hc he; have He := Lib.hid hc; clear hc _t toke))
          have g : canon .f64 ve = halves (canon .f64 vq) (i + 1) := by
            rw [He.out, Hd.out, HS.out, Hb.out, Ha.out, HR.out]; rfl
          go_roundw
          case rel => exact ⟨i + 1, ve, by omega, by go_num, rfl, g, he, _, rfl⟩
          case measure => show 3 - ((i : Int) + 1).toNat < 3 - (i : Int).toNat; omega
        · obtain rfl : i = 3 := by omega
          have toku : True := trivial
          go_wp2_with (first | (have _t := toku; refine wpList_arith (by rfl) _ _ _ _ _ rfl rfl .f64 _ _ rfl rfl ?_; intro vu nu hc hu; have Hu := Lib.hid hc; clear hc _t toku))
          have hu : canon .f64 vu = fop .mul .f64 (halves (canon .f64 vq) 3) (halves (canon .f64 vq) 3) := by rw [Hu.out, HR.out]
          have HU := Lib.hid hu
          clear hu Hu
          have hfin : eighthO (fop .quo .f64 (some (rung Ieee.double X)) (some (rung Ieee.double Y))) = closing (halves (canon .f64 vq) 3) := by rw [eighth_eq, HQ0.out]
          rw [closing_eq] at hfin
          have HCL := Lib.hid hfin
          clear hfin
          generalize halves (canon .f64 vq) 3 = T at *
          go_loopw [11, 12] (fun p k wr => ∃ (i q : Nat) (K : Int), i ≤ 8 ∧ K = 15 - 2 * (i : Int) ∧ k = .int .i64 K ∧ p = .float .f64 q ∧ canon .f64 q = polyA (fop .mul .f64 T T) i ∧ ∃ m, wr = w.drewN m) (fun _ k _ => (intOf k + 1).toNat)
          case atStart => exact ⟨0, _, 15, by omega, rfl, rfl, rfl, rfl, _, rfl⟩
          case round =>
            obtain ⟨i, q, K, hi8, hK, rfl, rfl, hq2, m2, rfl⟩ := hrel
            have HQ := Lib.hid hq2
            have HK := Lib.hid hK
            clear hq2
            by_cases h8 : i < 8
            · have hb := oddA_canon i h8
              rw [← hK] at hb
              have HB := Lib.hid hb
              have hk1 : (1 : Int) ≤ K := by omega
              have hk15 : K ≤ 15 := by omega
              clear hK hb
              have tokx : True := trivial; have toky : True := trivial; have tokz : True := trivial
              go_wp2_with (first | (have _t := tokx; refine wpList_arith (by rfl) _ _ _ _ _ rfl rfl .f64 _ _ rfl rfl ?_; intro vx nx hc hx; have Hx := Lib.hid hc; clear hc _t tokx) | (have _t := toky; refine wpList_arith (by rfl) _ _ _ _ _ rfl rfl .f64 _ _ rfl rfl ?_; intro vy ny hc hy; have Hy := Lib.hid hc; clear hc _t toky) | (have _t := tokz; refine wpList_arith (by rfl) _ _ _ _ _ rfl rfl .f64 _ _ rfl rfl ?_; intro vz nz hc hz; have Hz := Lib.hid hc; clear hc _t tokz))
              have g6 : canon .f64 vz = polyA (fop .mul .f64 T T) (i + 1) := by
                rw [Hz.out, Hx.out, Hy.out, HU.out, HQ.out, HB.out]; rfl
              go_roundw
              case rel => exact ⟨i + 1, vz, _, by omega, by have := HK.out; omega, rfl, rfl, g6, _, rfl⟩
              case measure => show (K - 2 + 1).toNat < (K + 1).toNat; omega
            · obtain rfl : i = 8 := by omega
              obtain rfl : K = -1 := by omega
              clear hK HK
              have tokf : True := trivial; have tokg : True := trivial; have tokl : True := trivial; have toko : True := trivial
              go_wp2_with (first | (have _t := tokf; refine wpList_arith (by rfl) _ _ _ _ _ rfl rfl .f64 _ _ rfl rfl ?_; intro vf nf hc hf; have Hf := Lib.hid hc; clear hc _t tokf) | (have _t := tokg; refine wpList_arith (by rfl) _ _ _ _ _ rfl rfl .f64 _ _ rfl rfl ?_; intro vg ng hc hg; have Hg := Lib.hid hc; clear hc _t tokg) | (have _t := tokl; refine wpList_arith (by rfl) _ _ _ _ _ rfl rfl .f64 _ _ rfl rfl ?_; intro vl nl hc hl; have Hl := Lib.hid hc; clear hc _t tokl) | (have _t := toko; refine wpList_arith (by rfl) _ _ _ _ _ rfl rfl .f64 _ _ rfl rfl ?_; intro vo no hc ho; have Ho := Lib.hid hc; clear hc _t toko))
              go_ret
              have z1 : canon .f64 vl = eighthO (fop .quo .f64 (some (rung Ieee.double X)) (some (rung Ieee.double Y))) := by rw [Hl.out, Hg.out, Hf.out, HR.out, HQ.out, HCL.out]; rfl
              have z2 : canon .f64 vo = quarterO (rung Ieee.double Y) (rung Ieee.double X) := by rw [quarter_over HG.out, Ho.out, z1]; rfl
              have z3 := z2
              exact ⟨vo, _, rfl, rfl, by rw [HAN.out, z3]; rfl, ho⟩
    · rw [nx, ny] at hang
      replace ly := ly.trans ny
      replace lx := lx.trans nx
      have HAN := Lib.hid hang
      clear nx ny hang
      have tokq : True := trivial
      go_enter Try.func58, Try.ntmps58
      go_wp2_with (first | (go_at_call 43; refine (absAny _ _ (by assumption)).mono ?_; rintro e w' ⟨rfl, rfl⟩) | (have _t := tokq; refine wpList_arith (by rfl) .quo _ _ _ _ rfl rfl .f64 _ _ rfl rfl ?_; intro vq nq hc hq; have Hq := Lib.hid hc; clear hc _t tokq; replace hq : vq < 2 ^ 64 := hq))
      have hq0 : canon .f64 vq = fop .quo .f64 (some (rung Ieee.double X)) (some (rung Ieee.double Y)) := by rw [Hq.out, CY.out, CX.out]
      have HQ0 := Lib.hid hq0
      clear hq0
      go_loopw [8, 9] (fun p k wr => ∃ i r : Nat, i ≤ 3 ∧ k = .int .i64 (i : Int) ∧ p = .float .f64 r ∧ canon .f64 r = halves (canon .f64 vq) i ∧ r < 2 ^ 64 ∧ ∃ m, wr = w.drewN m) (fun _ k _ => 3 - (intOf k).toNat)
      case atStart => exact ⟨0, vq, by omega, rfl, rfl, rfl, hq, _, rfl⟩
      case round =>
        obtain ⟨i, r, hi, rfl, rfl, hr, hrl, m, rfl⟩ := hrel
        have HR := Lib.hid hr
        clear hr
        by_cases h3 : i < 3
        · have hi3 : (i : Int) < 3 := by omega
          have toka : True := trivial; have tokb : True := trivial; have tokd : True := trivial; have toke : True := trivial
          go_wp2_with (first | (go_at_call 66; refine (sqrtAny _ _).mono ?_; rintro e w' ⟨s, ns, rfl, rfl, hc, hs⟩; have HS := Lib.hid hc; clear hc) | (have _t := toka; refine wpList_arith (by rfl) _ _ _ _ _ rfl rfl .f64 _ _ rfl rfl ?_; intro va na hc ha; have Ha := Lib.hid hc; clear hc _t toka) | (have _t := tokb; refine wpList_arith (by rfl) _ _ _ _ _ rfl rfl .f64 _ _ rfl rfl ?_; intro vb nb hc hb; have Hb := Lib.hid hc; clear hc _t tokb) | (have _t := tokd; refine wpList_arith (by rfl) _ _ _ _ _ rfl rfl .f64 _ _ rfl rfl ?_; intro vd nd hc hd; have Hd := Lib.hid hc; clear hc _t tokd) | (have _t := toke; refine wpList_arith (by rfl) _ _ _ _ _ rfl rfl .f64 _ _ rfl rfl ?_; intro ve ne hc he; have He := Lib.hid hc; clear hc _t toke))
          have g : canon .f64 ve = halves (canon .f64 vq) (i + 1) := by
            rw [He.out, Hd.out, HS.out, Hb.out, Ha.out, HR.out]; rfl
          go_roundw
          case rel => exact ⟨i + 1, ve, by omega, by go_num, rfl, g, he, _, rfl⟩
          case measure => show 3 - ((i : Int) + 1).toNat < 3 - (i : Int).toNat; omega
        · obtain rfl : i = 3 := by omega
          have toku : True := trivial
          go_wp2_with (first | (have _t := toku; refine wpList_arith (by rfl) _ _ _ _ _ rfl rfl .f64 _ _ rfl rfl ?_; intro vu nu hc hu; have Hu := Lib.hid hc; clear hc _t toku))
          have hu : canon .f64 vu = fop .mul .f64 (halves (canon .f64 vq) 3) (halves (canon .f64 vq) 3) := by rw [Hu.out, HR.out]
          have HU := Lib.hid hu
          clear hu Hu
          have hfin : eighthO (fop .quo .f64 (some (rung Ieee.double X)) (some (rung Ieee.double Y))) = closing (halves (canon .f64 vq) 3) := by rw [eighth_eq, HQ0.out]
          rw [closing_eq] at hfin
          have HCL := Lib.hid hfin
          clear hfin
          generalize halves (canon .f64 vq) 3 = T at *
          go_loopw [11, 12] (fun p k wr => ∃ (i q : Nat) (K : Int), i ≤ 8 ∧ K = 15 - 2 * (i : Int) ∧ k = .int .i64 K ∧ p = .float .f64 q ∧ canon .f64 q = polyA (fop .mul .f64 T T) i ∧ ∃ m, wr = w.drewN m) (fun _ k _ => (intOf k + 1).toNat)
          case atStart => exact ⟨0, _, 15, by omega, rfl, rfl, rfl, rfl, _, rfl⟩
          case round =>
            obtain ⟨i, q, K, hi8, hK, rfl, rfl, hq2, m2, rfl⟩ := hrel
            have HQ := Lib.hid hq2
            have HK := Lib.hid hK
            clear hq2
            by_cases h8 : i < 8
            · have hb := oddA_canon i h8
              rw [← hK] at hb
              have HB := Lib.hid hb
              have hk1 : (1 : Int) ≤ K := by omega
              have hk15 : K ≤ 15 := by omega
              clear hK hb
              have tokx : True := trivial; have toky : True := trivial; have tokz : True := trivial
              go_wp2_with (first | (have _t := tokx; refine wpList_arith (by rfl) _ _ _ _ _ rfl rfl .f64 _ _ rfl rfl ?_; intro vx nx hc hx; have Hx := Lib.hid hc; clear hc _t tokx) | (have _t := toky; refine wpList_arith (by rfl) _ _ _ _ _ rfl rfl .f64 _ _ rfl rfl ?_; intro vy ny hc hy; have Hy := Lib.hid hc; clear hc _t toky) | (have _t := tokz; refine wpList_arith (by rfl) _ _ _ _ _ rfl rfl .f64 _ _ rfl rfl ?_; intro vz nz hc hz; have Hz := Lib.hid hc; clear hc _t tokz))
              have g6 : canon .f64 vz = polyA (fop .mul .f64 T T) (i + 1) := by
                rw [Hz.out, Hx.out, Hy.out, HU.out, HQ.out, HB.out]; rfl
              go_roundw
              case rel => exact ⟨i + 1, vz, _, by omega, by have := HK.out; omega, rfl, rfl, g6, _, rfl⟩
              case measure => show (K - 2 + 1).toNat < (K + 1).toNat; omega
            · obtain rfl : i = 8 := by omega
              obtain rfl : K = -1 := by omega
              clear hK HK
              have tokf : True := trivial; have tokg : True := trivial; have tokl : True := trivial; have toko : True := trivial
              go_wp2_with (first | (have _t := tokf; refine wpList_arith (by rfl) _ _ _ _ _ rfl rfl .f64 _ _ rfl rfl ?_; intro vf nf hc hf; have Hf := Lib.hid hc; clear hc _t tokf) | (have _t := tokg; refine wpList_arith (by rfl) _ _ _ _ _ rfl rfl .f64 _ _ rfl rfl ?_; intro vg ng hc hg; have Hg := Lib.hid hc; clear hc _t tokg) | (have _t := tokl; refine wpList_arith (by rfl) _ _ _ _ _ rfl rfl .f64 _ _ rfl rfl ?_; intro vl nl hc hl; have Hl := Lib.hid hc; clear hc _t tokl) | (have _t := toko; refine wpList_arith (by rfl) _ _ _ _ _ rfl rfl .f64 _ _ rfl rfl ?_; intro vo no hc ho; have Ho := Lib.hid hc; clear hc _t toko))
              go_ret
              have z1 : canon .f64 vl = eighthO (fop .quo .f64 (some (rung Ieee.double X)) (some (rung Ieee.double Y))) := by rw [Hl.out, Hg.out, Hf.out, HR.out, HQ.out, HCL.out]; rfl
              have z2 : canon .f64 vo = quarterO (rung Ieee.double Y) (rung Ieee.double X) := by rw [quarter_over HG.out, Ho.out, z1]; rfl
              have z3 := z2
              have hn := neg_canon vo ho
              exact ⟨_, _, rfl, rfl, by rw [HAN.out, hn.1, z3]; rfl, hn.2⟩
    · rw [nx, ny] at hang
      replace ly := ly.trans ny
      replace lx := lx.trans nx
      have HAN := Lib.hid hang
      clear nx ny hang
      have tokq : True := trivial
      go_enter Try.func58, Try.ntmps58
      go_wp2_with (first | (go_at_call 43; refine (absAny _ _ (by assumption)).mono ?_; rintro e w' ⟨rfl, rfl⟩) | (have _t := tokq; refine wpList_arith (by rfl) .quo _ _ _ _ rfl rfl .f64 _ _ rfl rfl ?_; intro vq nq hc hq; have Hq := Lib.hid hc; clear hc _t tokq; replace hq : vq < 2 ^ 64 := hq))
      have hq0 : canon .f64 vq = fop .quo .f64 (some (rung Ieee.double X)) (some (rung Ieee.double Y)) := by rw [Hq.out, CY.out, CX.out]
      have HQ0 := Lib.hid hq0
      clear hq0
      go_loopw [8, 9] (fun p k wr => ∃ i r : Nat, i ≤ 3 ∧ k = .int .i64 (i : Int) ∧ p = .float .f64 r ∧ canon .f64 r = halves (canon .f64 vq) i ∧ r < 2 ^ 64 ∧ ∃ m, wr = w.drewN m) (fun _ k _ => 3 - (intOf k).toNat)
      case atStart => exact ⟨0, vq, by omega, rfl, rfl, rfl, hq, _, rfl⟩
      case round =>
        obtain ⟨i, r, hi, rfl, rfl, hr, hrl, m, rfl⟩ := hrel
        have HR := Lib.hid hr
        clear hr
        by_cases h3 : i < 3
        · have hi3 : (i : Int) < 3 := by omega
          have toka : True := trivial; have tokb : True := trivial; have tokd : True := trivial; have toke : True := trivial
          go_wp2_with (first | (go_at_call 66; refine (sqrtAny _ _).mono ?_; rintro e w' ⟨s, ns, rfl, rfl, hc, hs⟩; have HS := Lib.hid hc; clear hc) | (have _t := toka; refine wpList_arith (by rfl) _ _ _ _ _ rfl rfl .f64 _ _ rfl rfl ?_; intro va na hc ha; have Ha := Lib.hid hc; clear hc _t toka) | (have _t := tokb; refine wpList_arith (by rfl) _ _ _ _ _ rfl rfl .f64 _ _ rfl rfl ?_; intro vb nb hc hb; have Hb := Lib.hid hc; clear hc _t tokb) | (have _t := tokd; refine wpList_arith (by rfl) _ _ _ _ _ rfl rfl .f64 _ _ rfl rfl ?_; intro vd nd hc hd; have Hd := Lib.hid hc; clear hc _t tokd) | (have _t := toke; refine wpList_arith (by rfl) _ _ _ _ _ rfl rfl .f64 _ _ rfl rfl ?_; intro ve ne hc he; have He := Lib.hid hc; clear hc _t toke))
          have g : canon .f64 ve = halves (canon .f64 vq) (i + 1) := by
            rw [He.out, Hd.out, HS.out, Hb.out, Ha.out, HR.out]; rfl
          go_roundw
          case rel => exact ⟨i + 1, ve, by omega, by go_num, rfl, g, he, _, rfl⟩
          case measure => show 3 - ((i : Int) + 1).toNat < 3 - (i : Int).toNat; omega
        · obtain rfl : i = 3 := by omega
          have toku : True := trivial
          go_wp2_with (first | (have _t := toku; refine wpList_arith (by rfl) _ _ _ _ _ rfl rfl .f64 _ _ rfl rfl ?_; intro vu nu hc hu; have Hu := Lib.hid hc; clear hc _t toku))
          have hu : canon .f64 vu = fop .mul .f64 (halves (canon .f64 vq) 3) (halves (canon .f64 vq) 3) := by rw [Hu.out, HR.out]
          have HU := Lib.hid hu
          clear hu Hu
          have hfin : eighthO (fop .quo .f64 (some (rung Ieee.double X)) (some (rung Ieee.double Y))) = closing (halves (canon .f64 vq) 3) := by rw [eighth_eq, HQ0.out]
          rw [closing_eq] at hfin
          have HCL := Lib.hid hfin
          clear hfin
          generalize halves (canon .f64 vq) 3 = T at *
          go_loopw [11, 12] (fun p k wr => ∃ (i q : Nat) (K : Int), i ≤ 8 ∧ K = 15 - 2 * (i : Int) ∧ k = .int .i64 K ∧ p = .float .f64 q ∧ canon .f64 q = polyA (fop .mul .f64 T T) i ∧ ∃ m, wr = w.drewN m) (fun _ k _ => (intOf k + 1).toNat)
          case atStart => exact ⟨0, _, 15, by omega, rfl, rfl, rfl, rfl, _, rfl⟩
          case round =>
            obtain ⟨i, q, K, hi8, hK, rfl, rfl, hq2, m2, rfl⟩ := hrel
            have HQ := Lib.hid hq2
            have HK := Lib.hid hK
            clear hq2
            by_cases h8 : i < 8
            · have hb := oddA_canon i h8
              rw [← hK] at hb
              have HB := Lib.hid hb
              have hk1 : (1 : Int) ≤ K := by omega
              have hk15 : K ≤ 15 := by omega
              clear hK hb
              have tokx : True := trivial; have toky : True := trivial; have tokz : True := trivial
              go_wp2_with (first | (have _t := tokx; refine wpList_arith (by rfl) _ _ _ _ _ rfl rfl .f64 _ _ rfl rfl ?_; intro vx nx hc hx; have Hx := Lib.hid hc; clear hc _t tokx) | (have _t := toky; refine wpList_arith (by rfl) _ _ _ _ _ rfl rfl .f64 _ _ rfl rfl ?_; intro vy ny hc hy; have Hy := Lib.hid hc; clear hc _t toky) | (have _t := tokz; refine wpList_arith (by rfl) _ _ _ _ _ rfl rfl .f64 _ _ rfl rfl ?_; intro vz nz hc hz; have Hz := Lib.hid hc; clear hc _t tokz))
              have g6 : canon .f64 vz = polyA (fop .mul .f64 T T) (i + 1) := by
                rw [Hz.out, Hx.out, Hy.out, HU.out, HQ.out, HB.out]; rfl
              go_roundw
              case rel => exact ⟨i + 1, vz, _, by omega, by have := HK.out; omega, rfl, rfl, g6, _, rfl⟩
              case measure => show (K - 2 + 1).toNat < (K + 1).toNat; omega
            · obtain rfl : i = 8 := by omega
              obtain rfl : K = -1 := by omega
              clear hK HK
              have tokf : True := trivial; have tokg : True := trivial; have tokl : True := trivial; have toko : True := trivial; have tokj : True := trivial
              go_wp2_with (first | (have _t := tokf; refine wpList_arith (by rfl) _ _ _ _ _ rfl rfl .f64 _ _ rfl rfl ?_; intro vf nf hc hf; have Hf := Lib.hid hc; clear hc _t tokf) | (have _t := tokg; refine wpList_arith (by rfl) _ _ _ _ _ rfl rfl .f64 _ _ rfl rfl ?_; intro vg ng hc hg; have Hg := Lib.hid hc; clear hc _t tokg) | (have _t := tokl; refine wpList_arith (by rfl) _ _ _ _ _ rfl rfl .f64 _ _ rfl rfl ?_; intro vl nl hc hl; have Hl := Lib.hid hc; clear hc _t tokl) | (have _t := toko; refine wpList_arith (by rfl) _ _ _ _ _ rfl rfl .f64 _ _ rfl rfl ?_; intro vo no hc ho; have Ho := Lib.hid hc; clear hc _t toko) | (have _t := tokj; refine wpList_arith (by rfl) _ _ _ _ _ rfl rfl .f64 _ _ rfl rfl ?_; intro vj nj hc hj; have Hj := Lib.hid hc; clear hc _t tokj))
              go_ret
              have z1 : canon .f64 vl = eighthO (fop .quo .f64 (some (rung Ieee.double X)) (some (rung Ieee.double Y))) := by rw [Hl.out, Hg.out, Hf.out, HR.out, HQ.out, HCL.out]; rfl
              have z2 : canon .f64 vo = quarterO (rung Ieee.double Y) (rung Ieee.double X) := by rw [quarter_over HG.out, Ho.out, z1]; rfl
              have z3 : canon .f64 vj = fop .sub .f64 (some cHalf) (quarterO (rung Ieee.double Y) (rung Ieee.double X)) := by rw [Hj.out, z2]; rfl
              exact ⟨vj, _, rfl, rfl, by rw [HAN.out, z3]; rfl, hj⟩
    · rw [nx, ny] at hang
      replace ly := ly.trans ny
      replace lx := lx.trans nx
      have HAN := Lib.hid hang
      clear nx ny hang
      have tokq : True := trivial
      go_enter Try.func58, Try.ntmps58
      go_wp2_with (first | (go_at_call 43; refine (absAny _ _ (by assumption)).mono ?_; rintro e w' ⟨rfl, rfl⟩) | (have _t := tokq; refine wpList_arith (by rfl) .quo _ _ _ _ rfl rfl .f64 _ _ rfl rfl ?_; intro vq nq hc hq; have Hq := Lib.hid hc; clear hc _t tokq; replace hq : vq < 2 ^ 64 := hq))
      have hq0 : canon .f64 vq = fop .quo .f64 (some (rung Ieee.double X)) (some (rung Ieee.double Y)) := by rw [Hq.out, CY.out, CX.out]
      have HQ0 := Lib.hid hq0
      clear hq0
      go_loopw [8, 9] (fun p k wr => ∃ i r : Nat, i ≤ 3 ∧ k = .int .i64 (i : Int) ∧ p = .float .f64 r ∧ canon .f64 r = halves (canon .f64 vq) i ∧ r < 2 ^ 64 ∧ ∃ m, wr = w.drewN m) (fun _ k _ => 3 - (intOf k).toNat)
      case atStart => exact ⟨0, vq, by omega, rfl, rfl, rfl, hq, _, rfl⟩
      case round =>
        obtain ⟨i, r, hi, rfl, rfl, hr, hrl, m, rfl⟩ := hrel
        have HR := Lib.hid hr
        clear hr
        by_cases h3 : i < 3
        · have hi3 : (i : Int) < 3 := by omega
          have toka : True := trivial; have tokb : True := trivial; have tokd : True := trivial; have toke : True := trivial
          go_wp2_with (first | (go_at_call 66; refine (sqrtAny _ _).mono ?_; rintro e w' ⟨s, ns, rfl, rfl, hc, hs⟩; have HS := Lib.hid hc; clear hc) | (have _t := toka; refine wpList_arith (by rfl) _ _ _ _ _ rfl rfl .f64 _ _ rfl rfl ?_; intro va na hc ha; have Ha := Lib.hid hc; clear hc _t toka) | (have _t := tokb; refine wpList_arith (by rfl) _ _ _ _ _ rfl rfl .f64 _ _ rfl rfl ?_; intro vb nb hc hb; have Hb := Lib.hid hc; clear hc _t tokb) | (have _t := tokd; refine wpList_arith (by rfl) _ _ _ _ _ rfl rfl .f64 _ _ rfl rfl ?_; intro vd nd hc hd; have Hd := Lib.hid hc; clear hc _t tokd) | (have _t := toke; refine wpList_arith (by rfl) _ _ _ _ _ rfl rfl .f64 _ _ rfl rfl ?_; intro ve ne hc he; have He := Lib.hid hc; clear hc _t toke))
          have g : canon .f64 ve = halves (canon .f64 vq) (i + 1) := by
            rw [He.out, Hd.out, HS.out, Hb.out, Ha.out, HR.out]; rfl
          go_roundw
          case rel => exact ⟨i + 1, ve, by omega, by go_num, rfl, g, he, _, rfl⟩
          case measure => show 3 - ((i : Int) + 1).toNat < 3 - (i : Int).toNat; omega
        · obtain rfl : i = 3 := by omega
          have toku : True := trivial
          go_wp2_with (first | (have _t := toku; refine wpList_arith (by rfl) _ _ _ _ _ rfl rfl .f64 _ _ rfl rfl ?_; intro vu nu hc hu; have Hu := Lib.hid hc; clear hc _t toku))
          have hu : canon .f64 vu = fop .mul .f64 (halves (canon .f64 vq) 3) (halves (canon .f64 vq) 3) := by rw [Hu.out, HR.out]
          have HU := Lib.hid hu
          clear hu Hu
          have hfin : eighthO (fop .quo .f64 (some (rung Ieee.double X)) (some (rung Ieee.double Y))) = closing (halves (canon .f64 vq) 3) := by rw [eighth_eq, HQ0.out]
          rw [closing_eq] at hfin
          have HCL := Lib.hid hfin
          clear hfin
          generalize halves (canon .f64 vq) 3 = T at *
          go_loopw [11, 12] (fun p k wr => ∃ (i q : Nat) (K : Int), i ≤ 8 ∧ K = 15 - 2 * (i : Int) ∧ k = .int .i64 K ∧ p = .float .f64 q ∧ canon .f64 q = polyA (fop .mul .f64 T T) i ∧ ∃ m, wr = w.drewN m) (fun _ k _ => (intOf k + 1).toNat)
          case atStart => exact ⟨0, _, 15, by omega, rfl, rfl, rfl, rfl, _, rfl⟩
          case round =>
            obtain ⟨i, q, K, hi8, hK, rfl, rfl, hq2, m2, rfl⟩ := hrel
            have HQ := Lib.hid hq2
            have HK := Lib.hid hK
            clear hq2
            by_cases h8 : i < 8
            · have hb := oddA_canon i h8
              rw [← hK] at hb
              have HB := Lib.hid hb
              have hk1 : (1 : Int) ≤ K := by omega
              have hk15 : K ≤ 15 := by omega
              clear hK hb
              have tokx : True := trivial; have toky : True := trivial; have tokz : True := trivial
              go_wp2_with (first | (have _t := tokx; refine wpList_arith (by rfl) _ _ _ _ _ rfl rfl .f64 _ _ rfl rfl ?_; intro vx nx hc hx; have Hx := Lib.hid hc; clear hc _t tokx) | (have _t := toky; refine wpList_arith (by rfl) _ _ _ _ _ rfl rfl .f64 _ _ rfl rfl ?_; intro vy ny hc hy; have Hy := Lib.hid hc; clear hc _t toky) | (have _t := tokz; refine wpList_arith (by rfl) _ _ _ _ _ rfl rfl .f64 _ _ rfl rfl ?_; intro vz nz hc hz; have Hz := Lib.hid hc; clear hc _t tokz))
              have g6 : canon .f64 vz = polyA (fop .mul .f64 T T) (i + 1) := by
                rw [Hz.out, Hx.out, Hy.out, HU.out, HQ.out, HB.out]; rfl
              go_roundw
              case rel => exact ⟨i + 1, vz, _, by omega, by have := HK.out; omega, rfl, rfl, g6, _, rfl⟩
              case measure => show (K - 2 + 1).toNat < (K + 1).toNat; omega
            · obtain rfl : i = 8 := by omega
              obtain rfl : K = -1 := by omega
              clear hK HK
              have tokf : True := trivial; have tokg : True := trivial; have tokl : True := trivial; have toko : True := trivial; have tokj : True := trivial
              go_wp2_with (first | (have _t := tokf; refine wpList_arith (by rfl) _ _ _ _ _ rfl rfl .f64 _ _ rfl rfl ?_; intro vf nf hc hf; have Hf := Lib.hid hc; clear hc _t tokf) | (have _t := tokg; refine wpList_arith (by rfl) _ _ _ _ _ rfl rfl .f64 _ _ rfl rfl ?_; intro vg ng hc hg; have Hg := Lib.hid hc; clear hc _t tokg) | (have _t := tokl; refine wpList_arith (by rfl) _ _ _ _ _ rfl rfl .f64 _ _ rfl rfl ?_; intro vl nl hc hl; have Hl := Lib.hid hc; clear hc _t tokl) | (have _t := toko; refine wpList_arith (by rfl) _ _ _ _ _ rfl rfl .f64 _ _ rfl rfl ?_; intro vo no hc ho; have Ho := Lib.hid hc; clear hc _t toko) | (have _t := tokj; refine wpList_arith (by rfl) _ _ _ _ _ rfl rfl .f64 _ _ rfl rfl ?_; intro vj nj hc hj; have Hj := Lib.hid hc; clear hc _t tokj))
              go_ret
              have z1 : canon .f64 vl = eighthO (fop .quo .f64 (some (rung Ieee.double X)) (some (rung Ieee.double Y))) := by rw [Hl.out, Hg.out, Hf.out, HR.out, HQ.out, HCL.out]; rfl
              have z2 : canon .f64 vo = quarterO (rung Ieee.double Y) (rung Ieee.double X) := by rw [quarter_over HG.out, Ho.out, z1]; rfl
              have z3 : canon .f64 vj = fop .sub .f64 (some cHalf) (quarterO (rung Ieee.double Y) (rung Ieee.double X)) := by rw [Hj.out, z2]; rfl
              have hn := neg_canon vj hj
              exact ⟨_, _, rfl, rfl, by rw [HAN.out, hn.1, z3]; rfl, hn.2⟩

theorem specAngle (y x : Nat) (w : World) (hy : y < 2 ^ 32) (hx : x < 2 ^ 32) : Calls Try.prog 41 #[.float .f32 y, .float .f32 x] w (NRet w (angleN y x)) := by
  unfold angleN
  by_cases h : finB .f32 y = true ∧ finB .f32 x = true
  · rw [if_pos h]
    obtain ⟨fy, fx⟩ := h
    have ry := run_widen hy fy
    have rx := run_widen hx fx
    obtain ⟨_, _, yf, yl, _⟩ := wid_facts hy fy
    obtain ⟨_, _, xf, xl, _⟩ := wid_facts hx fx
    have YF : finB .f64 (wid y) = true := decide_eq_true yf
    have XF : finB .f64 (wid x) = true := decide_eq_true xf
    have yz := wid_zero hy fy
    have xz := wid_zero hx fx
    by_cases h0 : rung Ieee.single y = 0 ∧ rung Ieee.single x = 0
    · rw [if_pos h0]
      have h0' : rung Ieee.double (wid y) = 0 ∧ rung Ieee.double (wid x) = 0 := ⟨yz.2 h0.1, xz.2 h0.2⟩
      clear yz xz h0
      go_enter Try.func41, Try.ntmps41
      go_wp2_with (first | (go_at_call 58; refine (specAngleZero _ _ _ YF XF h0').mono ?_; rintro e w' ⟨s, m, rfl, rfl, hc, hs⟩; have HS := Lib.hid hc; clear hc) | (go_at_call 49; refine (specNarrow _ _ hs (Bd.narrows (o := some 0) (fun v hv => by cases hv; exact Nat.zero_le _) HS.out)).mono ?_; rintro e w' ⟨z, k, rfl, rfl, hz, hzl⟩; have HZ := Lib.hid hz; clear hz))
      go_ret
      exact ⟨z, _, rfl, rfl, by rw [HZ.out, HS.out]; decide +kernel, hzl⟩
    · rw [if_neg h0]
      have hbd := bd_angle hy hx fy fx h0
      have h0' : ¬ (rung Ieee.double (wid y) = 0 ∧ rung Ieee.double (wid x) = 0) := fun q => h0 ⟨yz.1 q.1, xz.1 q.2⟩
      clear yz xz h0
      go_enter Try.func41, Try.ntmps41
      go_wp2_with (first | (go_at_call 58; refine (specAngleC _ _ _ YF XF yl xl h0').mono ?_; rintro e w' ⟨s, m, rfl, rfl, hc, hs⟩; have HS := Lib.hid hc; clear hc) | (go_at_call 49; refine (specNarrow _ _ hs (hbd.narrows HS.out)).mono ?_; rintro e w' ⟨z, k, rfl, rfl, hz, hzl⟩; have HZ := Lib.hid hz; clear hz))
      go_ret
      exact ⟨z, _, rfl, rfl, by rw [HZ.out, HS.out], hzl⟩
  · rw [if_neg h]
    have wide : ∀ (Y X : Nat) (w : World), finB .f64 Y = finB .f32 y → finB .f64 X = finB .f32 x → Calls Try.prog 58 #[.float .f64 Y, .float .f64 X] w (DRet w none) := fun Y X w e1 e2 => by
      cases f1 : finB .f32 y
      · exact specAngleNan1 Y X w (e1.trans f1)
      · cases f2 : finB .f32 x
        · exact specAngleNan2 Y X w (e1.trans f1) (e2.trans f2)
        · exact absurd ⟨f1, f2⟩ h
    clear h
    have toka : True := trivial; have tokb : True := trivial
    go_enter Try.func41, Try.ntmps41
    go_wp2_with (first | (have _t := toka; refine wpList_conv rfl _ _ _ rfl .f32 .f64 (by decide) _ rfl Try.underlying28 Try.underlying22 hy (fits_widen _) ?_; intro va na hc ha; have fa := Lib.hid (finB_conv hc); clear hc _t toka) | (have _t := tokb; refine wpList_conv rfl _ _ _ rfl .f32 .f64 (by decide) _ rfl Try.underlying28 Try.underlying22 hx (fits_widen _) ?_; intro vb nb hc hb; have fb := Lib.hid (finB_conv hc); clear hc _t tokb) | (go_at_call 58; refine (wide _ _ _ fa.out fb.out).mono ?_; rintro e w' ⟨s, m, rfl, rfl, hc, hs⟩; have HS := Lib.hid hc; clear hc) | (go_at_call 49; refine (specNarrow _ _ hs (.inr (.inl (canon_none.1 HS.out)))).mono ?_; rintro e w' ⟨z, k, rfl, rfl, hz, hzl⟩; have HZ := Lib.hid hz; clear hz))
    go_ret
    exact ⟨z, _, rfl, rfl, by rw [HZ.out, HS.out]; rfl, hzl⟩

theorem fnExactAngleTurns_walk (y x : Nat) (w : World) (hy : y < 2 ^ 32) (hx : x < 2 ^ 32) :
    Calls Try.prog 6 #[.float .f32 y, .float .f32 x] w fun e w' => e = .returned (.bool true) ∧ Below w.heap.size w w' := by
  go_enter Try.func6, Try.ntmps6
  go_wp2_with (first | (go_at_call 41; refine (specAngle _ _ _ hy hx).mono ?_; rintro e w' ⟨r, n, rfl, rfl, hr, hrl⟩; replace hrl : r < 2 ^ FloatKind.f32.format.width := hrl; have HR := Lib.hid hr; clear hr) | (go_at_call 17; refine (implAngle _ _ _ hy hx).mono ?_; rintro e w' ⟨r, n, rfl, rfl, hr, hrl⟩; replace hrl : r < 2 ^ FloatKind.f32.format.width := hrl; have HR := Lib.hid hr; clear hr) | (refine wpList_conv rfl _ _ _ rfl .f32 .f64 (by decide) _ rfl Try.underlying28 Try.underlying22 (by assumption) (fits_widen _) ?_; intro v n hc hv; have HC := Lib.hid hc; clear hc) | (go_at_call 15; refine (sameFloat_any _ _ _ (conv_same (by assumption) (by assumption) (by assumption) (by assumption))).mono ?_; rintro e w' ⟨rfl, n, rfl⟩) | go_in)
  go_ret
  exact ⟨rfl, below_drawn _ _⟩

end Go.Proofs.Ytdcpkndkehdhiad
