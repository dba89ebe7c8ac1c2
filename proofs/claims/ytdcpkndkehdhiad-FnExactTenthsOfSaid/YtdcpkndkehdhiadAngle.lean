/- The angle of a point as a function on floats up to a NaN's bits, how great it can be, and the walks of the program's parts of it. Conditions: none beyond those of each theorem. -/
import Derived.Test.YtdcpkndkehdhiadSine4
import Derived.Test.YtdcpkndkehdhiadFl9
namespace Go.Proofs.Ytdcpkndkehdhiad
open Go Ieee Go.RowKit

def c8 : Nat := 4620693217682128896
def oddA (i : Nat) : Nat := floatOfInt .f64 (15 - 2 * (i : Int))
def invA (i : Nat) : Option Nat := fop .quo .f64 (some c1) (some (oddA i))
def polyA (u : Option Nat) : Nat → Option Nat
  | 0 => some 0
  | i + 1 => fop .sub .f64 (invA i) (fop .mul .f64 u (polyA u i))
def halves (t : Option Nat) : Nat → Option Nat
  | 0 => t
  | i + 1 => halfT (halves t i)
def closing (t : Option Nat) : Option Nat := fop .quo .f64 (fop .mul .f64 (some c8) (fop .mul .f64 t (polyA (fop .mul .f64 t t) 8))) (some cTau)
def eighthO (t : Option Nat) : Option Nat := closing (halves t 3)
def quarterO (a b : Nat) : Option Nat := if gtO (some a) (some b) then fop .sub .f64 (some cQuarter) (eighthO (fop .quo .f64 (some b) (some a))) else eighthO (fop .quo .f64 (some a) (some b))

theorem inv_some' : ∀ i, i < 8 → fop .quo .f64 (some c1) (some (oddA i)) = some ((fop .quo .f64 (some c1) (some (oddA i))).getD 0) ∧ rung Ieee.double ((fop .quo .f64 (some c1) (some (oddA i))).getD 0) ≤ 1023 * 2 ^ 52 := by decide +kernel
theorem bd_inv (i : Nat) (h : i < 8) : Bd 1023 (invA i) := fun v hv => by
  obtain ⟨h1, h2⟩ := inv_some' i h
  unfold invA at hv
  rw [hv] at h2
  exact h2

theorem bd_polyA {u : Option Nat} (hu : Bd 1035 u) : ∀ i, i ≤ 8 → Bd (1010 + 15 * i) (polyA u i)
  | 0, _ => fun v hv => by cases hv; exact Nat.zero_le _
  | i + 1, hi => by
    have ih := bd_polyA hu i (by omega)
    have h1 : Bd (1024 + 15 * i) (fop .mul .f64 u (polyA u i)) := Bd.mul hu ih (by omega) (by omega) (by omega) (by omega) (by omega) (by omega) (by omega)
    have h3 := Bd.sub ((bd_inv i (by omega)).mono (q' := 1024 + 15 * i) (by omega)) h1 (by omega) (by omega)
    exact h3.mono (by omega)

theorem bd_closing {t : Option Nat} (h : Bd 1028 t) : Bd 1141 (closing t) := by
  have hu : Bd 1035 (fop .mul .f64 t t) := Bd.mul h h (by omega) (by omega) (by omega) (by omega) (by omega) (by omega) (by omega)
  have hp := bd_polyA hu 8 (Nat.le_refl _)
  have h1 : Bd 1137 (fop .mul .f64 t (polyA (fop .mul .f64 t t) 8)) := Bd.mul h hp (by omega) (by omega) (by omega) (by omega) (by omega) (by omega) (by omega)
  have h8 : Bd 1026 (some c8) := fun v hv => by cases hv; decide
  have h2 : Bd 1142 (fop .mul .f64 (some c8) (fop .mul .f64 t (polyA (fop .mul .f64 t t) 8))) := Bd.mul h8 h1 (by omega) (by omega) (by omega) (by omega) (by omega) (by omega) (by omega)
  exact Bd.quo (c := 1025) h2 (by unfold isFin; decide) (by decide) (by omega) (by omega) (by omega) (by omega) (by omega) (by omega)

theorem bd_eighth {t : Option Nat} (h : Bd 1025 t) : Bd 1141 (eighthO t) :=
  bd_closing (bd_half (bd_half (bd_half h (by omega) (by omega)) (by omega) (by omega)) (by omega) (by omega))

theorem bd_quarter {a b : Nat} (ha : Bd 1025 (fop .quo .f64 (some b) (some a))) (hb : Bd 1025 (fop .quo .f64 (some a) (some b))) : Bd 1142 (quarterO a b) := by
  unfold quarterO
  split
  · have hq : Bd 1141 (some cQuarter) := fun v hv => by cases hv; decide
    exact Bd.sub hq (bd_eighth ha) (by omega) (by omega)
  · exact (bd_eighth hb).mono (by omega)

/-! ### The program's eighth -/

def fpos : Value → Nat
  | .float _ b => if b < 2 ^ 63 then b else 0
  | _ => 0

theorem oddA_facts : ∀ i, i < 8 → fop .sub .f64 (some (oddA i)) (some 4611686018427387904) = some (oddA (i + 1)) ∧
    (FloatKind.f64.format.order (oddA i) 4607182418800017408 == some .gt || FloatKind.f64.format.order (oddA i) 4607182418800017408 == some .eq) = true ∧ fpos (.float .f64 (oddA (i + 1))) < fpos (.float .f64 (oddA i)) ∧ canon .f64 (oddA i) = some (oddA i) ∧ oddA i < 2 ^ 64 := by decide +kernel
theorem oddA_end : (FloatKind.f64.format.order (oddA 8) 4607182418800017408 == some .gt || FloatKind.f64.format.order (oddA 8) 4607182418800017408 == some .eq) = false := by decide +kernel
theorem oddA_start : (4624633867356078080 : Nat) = oddA 0 := by decide +kernel

set_option maxHeartbeats 1000000 in
theorem implEighth (t : Nat) (w : World) (ht : t < 2 ^ 64) : Calls Try.prog 59 #[.float .f64 t] w (DRet w (eighthO (canon .f64 t))) := by
  have hE : eighthO (canon .f64 t) = closing (halves (canon .f64 t) 3) := rfl
  have HE := Lib.hid hE
  clear hE
  go_enter Try.func59, Try.ntmps59
  go_wp2
  go_loopw [3, 8] (fun p k wr => ∃ i r : Nat, i ≤ 3 ∧ k = .int .i64 (i : Int) ∧ p = .float .f64 r ∧ canon .f64 r = halves (canon .f64 t) i ∧ r < 2 ^ 64 ∧ ∃ m, wr = w.drewN m) (fun _ k _ => 3 - (intOf k).toNat)
  case atStart => exact ⟨0, t, by omega, rfl, rfl, rfl, ht, 0, rfl⟩
  case round =>
    obtain ⟨i, r, hi, rfl, rfl, hr, hrl, m, rfl⟩ := hrel
    have HR := Lib.hid hr
    clear hr
    by_cases h3 : i < 3
    · have hi3 : (i : Int) < 3 := by omega
      have toka : True := trivial; have tokb : True := trivial; have tokd : True := trivial; have toke : True := trivial
      go_wp2_with (first | (go_at_call 66; refine (sqrtAny _ _).mono ?_; rintro e w' ⟨s, ns, rfl, rfl, hc, hs⟩; have HS := Lib.hid hc; clear hc) | (have _t := toka; refine wpList_arith rfl _ _ _ _ _ rfl rfl .f64 _ _ rfl rfl ?_; intro va na hc ha; have Ha := Lib.hid hc; clear hc _t toka) | (have _t := tokb; refine wpList_arith rfl _ _ _ _ _ rfl rfl .f64 _ _ rfl rfl ?_; intro vb nb hc hb; have Hb := Lib.hid hc; clear hc _t tokb) | (have _t := tokd; refine wpList_arith rfl _ _ _ _ _ rfl rfl .f64 _ _ rfl rfl ?_; intro vd nd hc hd; have Hd := Lib.hid hc; clear hc _t tokd) | (have _t := toke; refine wpList_arith rfl _ _ _ _ _ rfl rfl .f64 _ _ rfl rfl ?_; intro ve ne hc he; have He := Lib.hid hc; clear hc _t toke))
      have g : canon .f64 ve = halves (canon .f64 t) (i + 1) := by
        rw [He.out, Hd.out, HS.out, Hb.out, Ha.out, HR.out]; rfl
      go_roundw
      case rel => exact ⟨i + 1, ve, by omega, by go_num, rfl, g, he, _, rfl⟩
      case measure => simp [intOf]; omega
    · obtain rfl : i = 3 := by omega
      have toku : True := trivial
      go_wp2_with (first | (have _t := toku; refine wpList_arith rfl _ _ _ _ _ rfl rfl .f64 _ _ rfl rfl ?_; intro vu nu hc hu; have Hu := Lib.hid hc; clear hc _t toku))
      have hu : canon .f64 vu = fop .mul .f64 (halves (canon .f64 t) 3) (halves (canon .f64 t) 3) := by rw [Hu.out, HR.out]
      have HU := Lib.hid hu
      clear hu Hu
      have hcl : closing (halves (canon .f64 t) 3) = fop .quo .f64 (fop .mul .f64 (some c8) (fop .mul .f64 (halves (canon .f64 t) 3) (polyA (fop .mul .f64 (halves (canon .f64 t) 3) (halves (canon .f64 t) 3)) 8))) (some cTau) := rfl
      have HCL := Lib.hid hcl
      clear hcl
      generalize halves (canon .f64 t) 3 = T at *
      go_loopw [5, 6] (fun p k wr => ∃ i q : Nat, i ≤ 8 ∧ k = .float .f64 (oddA i) ∧ p = .float .f64 q ∧ canon .f64 q = polyA (fop .mul .f64 T T) i ∧ ∃ m, wr = w.drewN m) (fun _ k _ => fpos k)
      case atStart => exact ⟨0, _, by omega, by rw [← oddA_start], rfl, rfl, _, rfl⟩
      case round =>
        obtain ⟨i, q, hi8, rfl, rfl, hq, m2, rfl⟩ := hrel
        have HQ := Lib.hid hq
        clear hq
        by_cases h8 : i < 8
        · obtain ⟨f1, f2, f3, f4, f5⟩ := oddA_facts i h8
          have F1 := Lib.hid f1
          have F3 := Lib.hid f3
          have F4 := Lib.hid f4
          clear f1 f3 f4
          have tokx : True := trivial; have toky : True := trivial; have tokz : True := trivial; have tokk : True := trivial
          go_wp2_with (first | (have _t := tokx; refine wpList_arith rfl _ _ _ _ _ rfl rfl .f64 _ _ rfl rfl ?_; intro vx nx hc hx; have Hx := Lib.hid hc; clear hc _t tokx) | (have _t := toky; refine wpList_arith rfl _ _ _ _ _ rfl rfl .f64 _ _ rfl rfl ?_; intro vy ny hc hy; have Hy := Lib.hid hc; clear hc _t toky) | (have _t := tokz; refine wpList_arith rfl _ _ _ _ _ rfl rfl .f64 _ _ rfl rfl ?_; intro vz nz hc hz; have Hz := Lib.hid hc; clear hc _t tokz) | (have _t := tokk; refine wpList_arith rfl _ _ _ _ _ rfl rfl .f64 _ _ rfl rfl ?_; intro vk nk hc hk; have Hk := Lib.hid hc; clear hc _t tokk))
          have g6 : canon .f64 vz = polyA (fop .mul .f64 T T) (i + 1) := by
            rw [Hz.out, Hx.out, Hy.out, HU.out, HQ.out, F4.out]; rfl
          have g7 : canon .f64 vk = some (oddA (i + 1)) := by rw [Hk.out, F4.out]; exact F1.out
          obtain ⟨g8, _⟩ := canon_some g7
          go_roundw
          case rel => exact ⟨i + 1, vz, by omega, by rw [g8], rfl, g6, _, rfl⟩
          case measure => show fpos (.float .f64 vk) < fpos (.float .f64 (oddA i)); rw [← g8]; exact F3.out
        · obtain rfl : i = 8 := by omega
          have he8 := oddA_end
          have tokf : True := trivial; have tokg : True := trivial; have tokl : True := trivial
          go_wp2_with (first | (have _t := tokf; refine wpList_arith rfl _ _ _ _ _ rfl rfl .f64 _ _ rfl rfl ?_; intro vf nf hc hf; have Hf := Lib.hid hc; clear hc _t tokf) | (have _t := tokg; refine wpList_arith rfl _ _ _ _ _ rfl rfl .f64 _ _ rfl rfl ?_; intro vg ng hc hg; have Hg := Lib.hid hc; clear hc _t tokg) | (have _t := tokl; refine wpList_arith rfl _ _ _ _ _ rfl rfl .f64 _ _ rfl rfl ?_; intro vl nl hc hl; have Hl := Lib.hid hc; clear hc _t tokl))
          go_ret
          refine ⟨vl, _, rfl, rfl, ?_, hl⟩
          rw [Hl.out, Hg.out, Hf.out, HR.out, HQ.out, HE.out, HCL.out]; rfl

end Go.Proofs.Ytdcpkndkehdhiad
