/- The logarithm: the walk of the model's. Conditions: none beyond those of each theorem. -/
import Derived.Test.YtdcpkndkehdhiadLog
namespace Go.Proofs.Ytdcpkndkehdhiad
open Go Ieee Go.RowKit

theorem pos_max {r : Nat} (h : r < 2046 * 2 ^ 52) : (FloatKind.f64.format.order r 9218868437227405311 == some .gt) = false := by
  obtain ⟨h1, h2, _⟩ := pos_fin h
  have e : key FloatKind.f64.format 9218868437227405311 = 9218868437227405311 := by decide
  have ht : (FloatKind.f64.format.order r 9218868437227405311 == some .gt) = decide ((9218868437227405311 : Int) < r) := by
    rw [order_key .f64 (isN_fin h1) (by decide), Bool.eq_iff_iff, e, show key FloatKind.f64.format r = r from h2]
    simp only [beq_iff_eq, Option.some.injEq, decide_eq_true_eq, Int.compare_eq_gt]
  rw [ht]
  exact decide_eq_false (by omega)

theorem isInfPos (r : Nat) (w : World) (h : r < 2046 * 2 ^ 52) : Calls Try.prog 51 #[.float .f64 r, .int .i64 1] w fun e w' => e = .returned (.bool false) ∧ w = w' := by
  have ht := pos_max h
  go_enter Try.func51, Try.ntmps51
  go_wp2
  go_ret
  exact ⟨rfl, rfl⟩

theorem oddL_canon (i : Nat) (h : i < 13) : canon .f64 (floatOfInt .f64 (25 - 2 * (i : Int))) = some (oddL i) := (oddL_facts i h).2.2.2.1

set_option maxHeartbeats 2000000 in
theorem specLog (r : Nat) (w : World) (h1 : 2 ^ 52 ≤ r) (h2 : r < 2046 * 2 ^ 52) : Calls Try.prog 54 #[.float .f64 r] w (DRet w (logO r)) := by
  obtain ⟨l1, l2, e1, e2⟩ := left_lt h1 h2
  obtain ⟨p1, p2, p3⟩ := pos_fin h2
  have hcl := Lib.hid (pos_canon (r := left r) (by omega))
  have hci := Lib.hid (intF_canon e1 e2).1
  have hlog : logO r = fop .add .f64 (fop .mul .f64 (some 4611686018427387904) (fop .mul .f64 (ratioO (some (left r))) (polyL (fop .mul .f64 (ratioO (some (left r))) (ratioO (some (left r)))) 13))) (fop .mul .f64 (some (intF (expo r))) (some 4604418534313441775)) := rfl
  have hra : ratioO (some (left r)) = fop .quo .f64 (fop .sub .f64 (some (left r)) (some c1)) (fop .add .f64 (some (left r)) (some c1)) := rfl
  have HLOG := Lib.hid hlog
  have HRA := Lib.hid hra
  have t1 := (neq_self .f64 r).trans (isN_fin p1)
  have t2 := (zero_lt .f64 p1).trans (decide_eq_false (by rw [show key FloatKind.f64.format r = r from p2]; omega))
  have t3 := (zero_eq .f64 p1).trans (decide_eq_false (by rw [show rung FloatKind.f64.format r = r from p3]; omega))
  clear hlog hra l1 l2 e1 e2 p1 p2 p3
  go_enter Try.func54, Try.ntmps54
  go_wp2_with (go_at_call 51; refine (isInfPos _ _ h2).mono ?_; rintro e w' ⟨rfl, rfl⟩)
  clear t1 t2 t3
  go_loopw [0, 3] (fun x k wr => ∃ (v : Nat) (K : Int), x = .float .f64 v ∧ k = .int .i64 K ∧ 0 ≤ K ∧ K ≤ 1030 ∧ (v : Int) = r - K * 4503599627370496 ∧ (K = 0 ∨ 4604930618986332160 ≤ v) ∧ v < 2046 * 2 ^ 52 ∧ ∃ m, wr = w.drewN m) (fun x _ _ => fbits x)
  case atStart => exact ⟨r, 0, rfl, rfl, by omega, by omega, by omega, .inl rfl, h2, 0, rfl⟩
  case round =>
    obtain ⟨v, K, rfl, rfl, k0, k1, hv, hor, hlt, m, rfl⟩ := hrel
    have hge := pos_ge hlt
    by_cases hb : 4609434218613702656 ≤ v
    · have t1 := hge.trans (decide_eq_true hb)
      have hq := Lib.hid (quo_two (r := v) (by omega) (by rw [dinf]; omega))
      have hcv := Lib.hid (pos_canon hlt)
      have HV := Lib.hid hv
      clear hge hv hor
      have toka : True := trivial
      go_wp2_with (have _t := toka; refine wpList_arith rfl _ _ _ _ _ rfl rfl .f64 _ _ rfl rfl ?_; intro va na hc ha; have Ha := Lib.hid hc; clear hc _t toka)
      have ga : canon .f64 va = some (v - 2 ^ 52) := by rw [Ha.out, hcv.out]; exact hq.out
      obtain ⟨ea, _⟩ := canon_some ga
      have hv' := HV.out
      go_roundw
      case rel => exact ⟨va, K + 1, rfl, rfl, by omega, by omega, by omega, by omega, by omega, _, rfl⟩
      case measure => show va < v; omega
    · have t1 := hge.trans (decide_eq_false hb)
      clear hge
      have HV := Lib.hid hv
      have HO := Lib.hid hor
      clear hv hor
      go_wp2
      go_loopw [0, 3] (fun x k wr => ∃ (u : Nat) (L : Int), x = .float .f64 u ∧ k = .int .i64 L ∧ -1030 < L ∧ L ≤ 1030 ∧ (u : Int) = r - L * 4503599627370496 ∧ 2 ^ 52 ≤ u ∧ u < 4609434218613702656 ∧ ∃ m, wr = w.drewN m) (fun x _ _ => 4609434218613702656 - fbits x)
      case atStart =>
        have hv' := HV.out
        have ho' := HO.out
        exact ⟨v, K, rfl, rfl, by omega, by omega, hv', by omega, by omega, _, rfl⟩
      case round =>
        obtain ⟨u, L, rfl, rfl, l0, l1, hu, hu1, hu2, m2, rfl⟩ := hrel
        have hlt2 : u < 2046 * 2 ^ 52 := by omega
        have hle := pos_lt hlt2
        by_cases hb2 : u < 4604930618986332160
        · have t2 := hle.trans (decide_eq_true hb2)
          have hq := Lib.hid (mul_two (r := u) hu1 (by rw [dinf]; omega))
          have hcv := Lib.hid (pos_canon hlt2)
          have HU := Lib.hid hu
          clear hle hu
          have toka : True := trivial
          go_wp2_with (have _t := toka; refine wpList_arith rfl _ _ _ _ _ rfl rfl .f64 _ _ rfl rfl ?_; intro va na hc ha; have Ha := Lib.hid hc; clear hc _t toka)
          have ga : canon .f64 va = some (u + 2 ^ 52) := by rw [Ha.out, hcv.out]; exact hq.out
          obtain ⟨ea, _⟩ := canon_some ga
          have hu' := HU.out
          go_roundw
          case rel => exact ⟨va, L - 1, rfl, rfl, by omega, by omega, by omega, by omega, by omega, _, rfl⟩
          case measure => show 4609434218613702656 - va < 4609434218613702656 - u; omega
        · have t2 := hle.trans (decide_eq_false hb2)
          clear hle
          obtain ⟨q1, q2⟩ := near_end hu (by omega) hu2
          have HE1 := Lib.hid q1
          have HE2 := Lib.hid q2
          clear q1 q2 hu
          have toka : True := trivial; have tokb : True := trivial; have tokd : True := trivial; have toku : True := trivial
          go_wp2_with (first | (have _t := toka; refine wpList_arith rfl _ _ _ _ _ rfl rfl .f64 _ _ rfl rfl ?_; intro va na hc ha; have Ha := Lib.hid hc; clear hc _t toka) | (have _t := tokb; refine wpList_arith rfl _ _ _ _ _ rfl rfl .f64 _ _ rfl rfl ?_; intro vb nb hc hb; have Hb := Lib.hid hc; clear hc _t tokb) | (have _t := tokd; refine wpList_arith rfl _ _ _ _ _ rfl rfl .f64 _ _ rfl rfl ?_; intro vd nd hc hd; have Hd := Lib.hid hc; clear hc _t tokd) | (have _t := toku; refine wpList_arith rfl _ _ _ _ _ rfl rfl .f64 _ _ rfl rfl ?_; intro vu nu hc hu; have Hu := Lib.hid hc; clear hc _t toku))
          have hd0 : canon .f64 vd = ratioO (some (left r)) := by rw [Hd.out, Ha.out, Hb.out, HE2.out, hcl.out, HRA.out]; rfl
          have hu0 : canon .f64 vu = fop .mul .f64 (ratioO (some (left r))) (ratioO (some (left r))) := by rw [Hu.out, hd0]
          have HD := Lib.hid hd0
          have HU := Lib.hid hu0
          clear hd0 hu0 Hu Hd
          generalize ratioO (some (left r)) = T at *
          go_loopw [6, 7] (fun p k wr => ∃ (i q : Nat) (M : Int), i ≤ 13 ∧ M = 25 - 2 * (i : Int) ∧ k = .int .i64 M ∧ p = .float .f64 q ∧ canon .f64 q = polyL (fop .mul .f64 T T) i ∧ ∃ m, wr = w.drewN m) (fun _ k _ => (intOf k + 1).toNat)
          case atStart => exact ⟨0, _, 25, by omega, rfl, rfl, rfl, rfl, _, rfl⟩
          case round =>
            obtain ⟨i, q, M, hi8, hM, rfl, rfl, hq, m3, rfl⟩ := hrel
            have HQ := Lib.hid hq
            have HM := Lib.hid hM
            clear hq
            by_cases h8 : i < 13
            · have hb := oddL_canon i h8
              rw [← hM] at hb
              have HB := Lib.hid hb
              have hk1 : (1 : Int) ≤ M := by omega
              have hk15 : M ≤ 25 := by omega
              clear hM hb
              have tokx : True := trivial; have toky : True := trivial; have tokz : True := trivial
              go_wp2_with (first | (have _t := tokx; refine wpList_arith rfl _ _ _ _ _ rfl rfl .f64 _ _ rfl rfl ?_; intro vx nx hc hx; have Hx := Lib.hid hc; clear hc _t tokx) | (have _t := toky; refine wpList_arith rfl _ _ _ _ _ rfl rfl .f64 _ _ rfl rfl ?_; intro vy ny hc hy; have Hy := Lib.hid hc; clear hc _t toky) | (have _t := tokz; refine wpList_arith rfl _ _ _ _ _ rfl rfl .f64 _ _ rfl rfl ?_; intro vz nz hc hz; have Hz := Lib.hid hc; clear hc _t tokz))
              have g6 : canon .f64 vz = polyL (fop .mul .f64 T T) (i + 1) := by
                rw [Hz.out, Hx.out, Hy.out, HU.out, HQ.out, HB.out]; rfl
              go_roundw
              case rel => exact ⟨i + 1, vz, _, by omega, by have := HM.out; omega, rfl, rfl, g6, _, rfl⟩
              case measure => show (M - 2 + 1).toNat < (M + 1).toNat; omega
            · obtain rfl : i = 13 := by omega
              obtain rfl : M = -1 := by omega
              clear hM HM
              have tokf : True := trivial; have tokg : True := trivial; have tokl : True := trivial; have tokj : True := trivial
              go_wp2_with (first | (have _t := tokf; refine wpList_arith rfl _ _ _ _ _ rfl rfl .f64 _ _ rfl rfl ?_; intro vf nf hc hf; have Hf := Lib.hid hc; clear hc _t tokf) | (have _t := tokg; refine wpList_arith rfl _ _ _ _ _ rfl rfl .f64 _ _ rfl rfl ?_; intro vg ng hc hg; have Hg := Lib.hid hc; clear hc _t tokg) | (have _t := tokl; refine wpList_arith rfl _ _ _ _ _ rfl rfl .f64 _ _ rfl rfl ?_; intro vl nl hc hl; have Hl := Lib.hid hc; clear hc _t tokl) | (have _t := tokj; refine wpList_arith rfl _ _ _ _ _ rfl rfl .f64 _ _ rfl rfl ?_; intro vj nj hc hj; have Hj := Lib.hid hc; clear hc _t tokj))
              go_ret
              refine ⟨vj, _, rfl, rfl, ?_, hj⟩
              have hci2 : canon .f64 (floatOfInt .f64 L) = some (intF (expo r)) := by rw [HE1.out]; exact hci.out
              rw [Hj.out, Hg.out, Hf.out, Hl.out, HD.out, HQ.out, hci2, HLOG.out]; rfl

end Go.Proofs.Ytdcpkndkehdhiad
