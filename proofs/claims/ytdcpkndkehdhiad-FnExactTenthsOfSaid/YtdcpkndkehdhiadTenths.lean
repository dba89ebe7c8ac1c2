/- Halving and doubling until a number is near 1: the walk of the program's loop. Conditions: none beyond those of each theorem. -/
import Derived.Test.YtdcpkndkehdhiadAngle2
import Derived.Test.YtdcpkndkehdhiadFl11
namespace Go.Proofs.Ytdcpkndkehdhiad
open Go Ieee Go.RowKit

/-- the exponent that is taken out, and what is left -/
def expo (r : Nat) : Int := ((r : Int) - 4604930618986332160) / 4503599627370496
def left (r : Nat) : Nat := ((r : Int) - expo r * 4503599627370496).toNat

theorem pos_fin {r : Nat} (h : r < 2046 * 2 ^ 52) : isFin .f64 r ∧ key Ieee.double r = r ∧ rung Ieee.double r = r := by
  have hs : Ieee.double.signWeight = 2 ^ 63 := rfl
  have h1 : rung Ieee.double r = r := by unfold rung; rw [hs]; exact Nat.mod_eq_of_lt (by omega)
  refine ⟨?_, ?_, h1⟩
  · show rung Ieee.double r < Ieee.double.infRung
    rw [h1, dinf]; omega
  · unfold key sgn
    rw [h1, hs, Nat.div_eq_of_lt (by omega)]; rfl

theorem pos_ge {r : Nat} (h : r < 2046 * 2 ^ 52) : (FloatKind.f64.format.order r 4609434218613702656 == some .gt || FloatKind.f64.format.order r 4609434218613702656 == some .eq) = decide (4609434218613702656 ≤ r) := by
  obtain ⟨h1, h2, _⟩ := pos_fin h
  have e : key FloatKind.f64.format 4609434218613702656 = 4609434218613702656 := by decide
  rw [order_key .f64 (isN_fin h1) (by decide), Bool.eq_iff_iff, e, show key FloatKind.f64.format r = r from h2]
  simp only [Bool.or_eq_true, beq_iff_eq, Option.some.injEq, decide_eq_true_eq, Int.compare_eq_gt, Int.compare_eq_eq]
  omega

theorem pos_lt {r : Nat} (h : r < 2046 * 2 ^ 52) : (FloatKind.f64.format.order r 4604930618986332160 == some .lt) = decide (r < 4604930618986332160) := by
  obtain ⟨h1, h2, _⟩ := pos_fin h
  have e : key FloatKind.f64.format 4604930618986332160 = 4604930618986332160 := by decide
  rw [order_key .f64 (isN_fin h1) (by decide), Bool.eq_iff_iff, e, show key FloatKind.f64.format r = r from h2]
  simp only [beq_iff_eq, Option.some.injEq, decide_eq_true_eq, Int.compare_eq_lt]
  omega

theorem pos_canon {r : Nat} (h : r < 2046 * 2 ^ 52) : canon .f64 r = some r := canon_fin (pos_fin h).1

/-- how the loops stand: what is left of r behind K of them -/
theorem near_end {r x : Nat} {K : Int} (hx : (x : Int) = r - K * 4503599627370496) (h1 : 4604930618986332160 ≤ x) (h2 : x < 4609434218613702656) : K = expo r ∧ x = left r := by
  have h : K = expo r := by unfold expo; omega
  refine ⟨h, ?_⟩
  unfold left
  rw [← h]; omega

/-- a pair of floats comes back -/
def PRet (w : World) (x h : Nat) (e : Ending) (w' : World) : Prop := ∃ n, e = .returned (.tuple #[.float .f64 x, .float .f64 h]) ∧ w' = w.drewN n

set_option maxHeartbeats 1000000 in
theorem implNear (r : Nat) (w : World) (h1 : 2 ^ 52 ≤ r) (h2 : r < 2046 * 2 ^ 52) : Calls Try.prog 57 #[.float .f64 r] w (PRet w (left r) (intF (expo r))) := by
  have hz : (0 : Nat) = intF 0 := by decide +kernel
  have HZ := Lib.hid hz
  clear hz
  go_enter Try.func57, Try.ntmps57
  go_wp2
  go_loopw [2, 3] (fun x k wr => ∃ (v f : Nat) (K : Int), x = .float .f64 v ∧ k = .float .f64 f ∧ f = intF K ∧ 0 ≤ K ∧ K ≤ 1030 ∧ (v : Int) = r - K * 4503599627370496 ∧ (K = 0 ∨ 4604930618986332160 ≤ v) ∧ v < 2046 * 2 ^ 52 ∧ ∃ m, wr = w.drewN m) (fun x _ _ => fbits x)
  case atStart => exact ⟨r, 0, 0, rfl, rfl, HZ.out, by omega, by omega, by omega, .inl rfl, h2, 0, rfl⟩
  case round =>
    obtain ⟨v, f, K, rfl, rfl, hf, k0, k1, hv, hor, hlt, m, rfl⟩ := hrel
    have HF := Lib.hid hf
    have hge := pos_ge hlt
    clear hf
    by_cases hb : 4609434218613702656 ≤ v
    · have t1 := hge.trans (decide_eq_true hb)
      have hq := Lib.hid (quo_two (r := v) (by omega) (by rw [dinf]; omega))
      have hcv := Lib.hid (pos_canon hlt)
      have hcf := Lib.hid (intF_canon (n := K) (by omega) (by omega))
      have hup := Lib.hid (intF_up (n := K) (by omega) (by omega))
      have HV := Lib.hid hv
      clear hge hv hor
      have toka : True := trivial; have tokb : True := trivial
      go_wp2_with (first | (have _t := toka; refine wpList_arith rfl _ _ _ _ _ rfl rfl .f64 _ _ rfl rfl ?_; intro va na hc ha; have Ha := Lib.hid hc; clear hc _t toka) | (have _t := tokb; refine wpList_arith rfl _ _ _ _ _ rfl rfl .f64 _ _ rfl rfl ?_; intro vb nb hc hb2; have Hb := Lib.hid hc; clear hc _t tokb))
      have ga : canon .f64 va = some (v - 2 ^ 52) := by rw [Ha.out, hcv.out]; exact hq.out
      have gb : canon .f64 vb = some (intF (K + 1)) := by rw [Hb.out, HF.out, hcf.out.1]; exact hup.out
      obtain ⟨ea, _⟩ := canon_some ga
      obtain ⟨eb, _⟩ := canon_some gb
      have hv' := HV.out
      go_roundw
      case rel => exact ⟨va, vb, K + 1, rfl, rfl, eb.symm, by omega, by omega, by omega, by omega, by omega, _, rfl⟩
      case measure => show va < v; omega
    · have t1 := hge.trans (decide_eq_false hb)
      clear hge
      have HV := Lib.hid hv
      have HO := Lib.hid hor
      clear hv hor
      go_wp2
      go_loopw [2, 3] (fun x k wr => ∃ (u g : Nat) (L : Int), x = .float .f64 u ∧ k = .float .f64 g ∧ g = intF L ∧ -1030 < L ∧ L ≤ 1030 ∧ (u : Int) = r - L * 4503599627370496 ∧ 2 ^ 52 ≤ u ∧ u < 4609434218613702656 ∧ ∃ m, wr = w.drewN m) (fun x _ _ => 4609434218613702656 - fbits x)
      case atStart =>
        have hv' := HV.out
        have ho' := HO.out
        exact ⟨v, f, K, rfl, rfl, HF.out, by omega, by omega, hv', by omega, by omega, _, rfl⟩
      case round =>
        obtain ⟨u, g, L, rfl, rfl, hg, l0, l1, hu, hu1, hu2, m2, rfl⟩ := hrel
        have HG := Lib.hid hg
        have hlt2 : u < 2046 * 2 ^ 52 := by omega
        have hle := pos_lt hlt2
        clear hg
        by_cases hb2 : u < 4604930618986332160
        · have t2 := hle.trans (decide_eq_true hb2)
          have hq := Lib.hid (mul_two (r := u) hu1 (by rw [dinf]; omega))
          have hcv := Lib.hid (pos_canon hlt2)
          have hcf := Lib.hid (intF_canon (n := L) (by omega) (by omega))
          have hdn := Lib.hid (intF_down (n := L) (by omega) (by omega))
          have HU := Lib.hid hu
          clear hle hu
          have toka : True := trivial; have tokb : True := trivial
          go_wp2_with (first | (have _t := toka; refine wpList_arith rfl _ _ _ _ _ rfl rfl .f64 _ _ rfl rfl ?_; intro va na hc ha; have Ha := Lib.hid hc; clear hc _t toka) | (have _t := tokb; refine wpList_arith rfl _ _ _ _ _ rfl rfl .f64 _ _ rfl rfl ?_; intro vb nb hc hb2; have Hb := Lib.hid hc; clear hc _t tokb))
          have ga : canon .f64 va = some (u + 2 ^ 52) := by rw [Ha.out, hcv.out]; exact hq.out
          have gb : canon .f64 vb = some (intF (L - 1)) := by rw [Hb.out, HG.out, hcf.out.1]; exact hdn.out
          obtain ⟨ea, _⟩ := canon_some ga
          obtain ⟨eb, _⟩ := canon_some gb
          have hu' := HU.out
          go_roundw
          case rel => exact ⟨va, vb, L - 1, rfl, rfl, eb.symm, by omega, by omega, by omega, by omega, by omega, _, rfl⟩
          case measure => show 4609434218613702656 - va < 4609434218613702656 - u; omega
        · have t2 := hle.trans (decide_eq_false hb2)
          clear hle
          have hend := near_end hu (by omega) hu2
          have HE := Lib.hid hend
          clear hend hu
          go_wp2
          go_ret2
          refine ⟨_, ?_, rfl⟩
          rw [← HE.out.1, ← HE.out.2, ← HG.out]
          rfl
end Go.Proofs.Ytdcpkndkehdhiad
