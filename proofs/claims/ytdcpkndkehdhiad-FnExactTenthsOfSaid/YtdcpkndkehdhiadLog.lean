/- The logarithm: as a function, and the walk of the program's. Conditions: none beyond those of each theorem. -/
import Derived.Test.YtdcpkndkehdhiadTenths
namespace Go.Proofs.Ytdcpkndkehdhiad
open Go Ieee Go.RowKit

def oddL (i : Nat) : Nat := floatOfInt .f64 (25 - 2 * (i : Int))
def invL (i : Nat) : Option Nat := fop .quo .f64 (some c1) (some (oddL i))
def polyL (u : Option Nat) : Nat → Option Nat
  | 0 => some 0
  | i + 1 => fop .add .f64 (invL i) (fop .mul .f64 u (polyL u i))
def ratioO (x : Option Nat) : Option Nat := fop .quo .f64 (fop .sub .f64 x (some c1)) (fop .add .f64 x (some c1))
def seriesO (s : Option Nat) : Option Nat := fop .mul .f64 (some 4611686018427387904) (fop .mul .f64 s (polyL (fop .mul .f64 s s) 13))
def logO (r : Nat) : Option Nat := fop .add .f64 (seriesO (ratioO (some (left r)))) (fop .mul .f64 (some (intF (expo r))) (some 4604418534313441775))

theorem oddL_facts : ∀ i, i < 13 → fop .sub .f64 (some (oddL i)) (some 4611686018427387904) = some (oddL (i + 1)) ∧
    (FloatKind.f64.format.order (oddL i) 4607182418800017408 == some .gt || FloatKind.f64.format.order (oddL i) 4607182418800017408 == some .eq) = true ∧ fpos (.float .f64 (oddL (i + 1))) < fpos (.float .f64 (oddL i)) ∧ canon .f64 (oddL i) = some (oddL i) ∧ oddL i < 2 ^ 64 := by decide +kernel
theorem oddL_end : (FloatKind.f64.format.order (oddL 13) 4607182418800017408 == some .gt || FloatKind.f64.format.order (oddL 13) 4607182418800017408 == some .eq) = false := by decide +kernel
theorem oddL_start : (4627730092099895296 : Nat) = oddL 0 := by decide +kernel

theorem left_lt {r : Nat} (h1 : 2 ^ 52 ≤ r) (h2 : r < 2046 * 2 ^ 52) : 4604930618986332160 ≤ left r ∧ left r < 4609434218613702656 ∧ -1030 ≤ expo r ∧ expo r ≤ 1030 := by
  unfold left expo
  refine ⟨?_, ?_, ?_, ?_⟩ <;> omega

set_option maxHeartbeats 1000000 in
theorem implLog (r : Nat) (w : World) (h1 : 2 ^ 52 ≤ r) (h2 : r < 2046 * 2 ^ 52) : Calls Try.prog 38 #[.float .f64 r] w (DRet w (logO r)) := by
  obtain ⟨l1, l2, e1, e2⟩ := left_lt h1 h2
  have hcl := Lib.hid (pos_canon (r := left r) (by omega))
  have hci := Lib.hid (intF_canon e1 e2).1
  have hlog : logO r = fop .add .f64 (fop .mul .f64 (some 4611686018427387904) (fop .mul .f64 (ratioO (some (left r))) (polyL (fop .mul .f64 (ratioO (some (left r))) (ratioO (some (left r)))) 13))) (fop .mul .f64 (some (intF (expo r))) (some 4604418534313441775)) := rfl
  have hra : ratioO (some (left r)) = fop .quo .f64 (fop .sub .f64 (some (left r)) (some c1)) (fop .add .f64 (some (left r)) (some c1)) := rfl
  have HLOG := Lib.hid hlog
  have HRA := Lib.hid hra
  clear hlog hra l1 l2 e1 e2
  have toka : True := trivial; have tokb : True := trivial; have tokd : True := trivial; have toku : True := trivial
  go_enter Try.func38, Try.ntmps38
  go_wp2_with (first | (go_at_call 57; refine (implNear _ _ h1 h2).mono ?_; rintro e w' ⟨n, rfl, rfl⟩) | (have _t := toka; refine wpList_arith rfl _ _ _ _ _ rfl rfl .f64 _ _ rfl rfl ?_; intro va na hc ha; have Ha := Lib.hid hc; clear hc _t toka) | (have _t := tokb; refine wpList_arith rfl _ _ _ _ _ rfl rfl .f64 _ _ rfl rfl ?_; intro vb nb hc hb; have Hb := Lib.hid hc; clear hc _t tokb) | (have _t := tokd; refine wpList_arith rfl _ _ _ _ _ rfl rfl .f64 _ _ rfl rfl ?_; intro vd nd hc hd; have Hd := Lib.hid hc; clear hc _t tokd) | (have _t := toku; refine wpList_arith rfl _ _ _ _ _ rfl rfl .f64 _ _ rfl rfl ?_; intro vu nu hc hu; have Hu := Lib.hid hc; clear hc _t toku))
  have hd0 : canon .f64 vd = ratioO (some (left r)) := by rw [Hd.out, Ha.out, Hb.out, hcl.out, HRA.out]; rfl
  have hu0 : canon .f64 vu = fop .mul .f64 (ratioO (some (left r))) (ratioO (some (left r))) := by rw [Hu.out, hd0]
  have HD := Lib.hid hd0
  have HU := Lib.hid hu0
  clear hd0 hu0 Hu Hd
  generalize ratioO (some (left r)) = T at *
  go_loopw [7, 8] (fun p k wr => ∃ i q : Nat, i ≤ 13 ∧ k = .float .f64 (oddL i) ∧ p = .float .f64 q ∧ canon .f64 q = polyL (fop .mul .f64 T T) i ∧ ∃ m, wr = w.drewN m) (fun _ k _ => fpos k)
  case atStart => exact ⟨0, _, by omega, by rw [← oddL_start], rfl, rfl, _, rfl⟩
  case round =>
    obtain ⟨i, q, hi8, rfl, rfl, hq, m2, rfl⟩ := hrel
    have HQ := Lib.hid hq
    clear hq
    by_cases h8 : i < 13
    · obtain ⟨f1, f2, f3, f4, f5⟩ := oddL_facts i h8
      have F1 := Lib.hid f1
      have F3 := Lib.hid f3
      have F4 := Lib.hid f4
      clear f1 f3 f4
      have tokx : True := trivial; have toky : True := trivial; have tokz : True := trivial; have tokk : True := trivial
      go_wp2_with (first | (have _t := tokx; refine wpList_arith rfl _ _ _ _ _ rfl rfl .f64 _ _ rfl rfl ?_; intro vx nx hc hx; have Hx := Lib.hid hc; clear hc _t tokx) | (have _t := toky; refine wpList_arith rfl _ _ _ _ _ rfl rfl .f64 _ _ rfl rfl ?_; intro vy ny hc hy; have Hy := Lib.hid hc; clear hc _t toky) | (have _t := tokz; refine wpList_arith rfl _ _ _ _ _ rfl rfl .f64 _ _ rfl rfl ?_; intro vz nz hc hz; have Hz := Lib.hid hc; clear hc _t tokz) | (have _t := tokk; refine wpList_arith rfl _ _ _ _ _ rfl rfl .f64 _ _ rfl rfl ?_; intro vk nk hc hk; have Hk := Lib.hid hc; clear hc _t tokk))
      have g6 : canon .f64 vz = polyL (fop .mul .f64 T T) (i + 1) := by
        rw [Hz.out, Hx.out, Hy.out, HU.out, HQ.out, F4.out]; rfl
      have g7 : canon .f64 vk = some (oddL (i + 1)) := by rw [Hk.out, F4.out]; exact F1.out
      obtain ⟨g8, _⟩ := canon_some g7
      go_roundw
      case rel => exact ⟨i + 1, vz, by omega, by rw [g8], rfl, g6, _, rfl⟩
      case measure => show fpos (.float .f64 vk) < fpos (.float .f64 (oddL i)); rw [← g8]; exact F3.out
    · obtain rfl : i = 13 := by omega
      have he8 := oddL_end
      have tokf : True := trivial; have tokg : True := trivial; have tokl : True := trivial; have tokj : True := trivial
      go_wp2_with (first | (have _t := tokf; refine wpList_arith rfl _ _ _ _ _ rfl rfl .f64 _ _ rfl rfl ?_; intro vf nf hc hf; have Hf := Lib.hid hc; clear hc _t tokf) | (have _t := tokg; refine wpList_arith rfl _ _ _ _ _ rfl rfl .f64 _ _ rfl rfl ?_; intro vg ng hc hg; have Hg := Lib.hid hc; clear hc _t tokg) | (have _t := tokl; refine wpList_arith rfl _ _ _ _ _ rfl rfl .f64 _ _ rfl rfl ?_; intro vl nl hc hl; have Hl := Lib.hid hc; clear hc _t tokl) | (have _t := tokj; refine wpList_arith rfl _ _ _ _ _ rfl rfl .f64 _ _ rfl rfl ?_; intro vj nj hc hj; have Hj := Lib.hid hc; clear hc _t tokj))
      go_ret
      refine ⟨vj, _, rfl, rfl, ?_, hj⟩
      rw [Hj.out, Hg.out, Hf.out, Hl.out, HD.out, HQ.out, hci.out, HLOG.out]; rfl

end Go.Proofs.Ytdcpkndkehdhiad
