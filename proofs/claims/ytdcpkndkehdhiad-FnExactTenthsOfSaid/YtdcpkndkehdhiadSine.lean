/- The walks of the sines, the program's and the model's. Conditions: none beyond those of each theorem. -/
import Derived.Test.YtdcpkndkehdhiadWalksE
import Derived.Test.YtdcpkndkehdhiadFl8
namespace Go.Proofs.Ytdcpkndkehdhiad
open Go Ieee Go.RowKit

/-- a 64-bit float comes back, known up to a NaN's bits -/
def DRet (w : World) (S : Option Nat) (e : Ending) (w' : World) : Prop := ∃ r n, e = .returned (.float .f64 r) ∧ w' = w.drewN n ∧ canon .f64 r = S ∧ r < 2 ^ 64

theorem tLt {v c : Nat} {o : Option Nat} {b : Bool} (hc : canon .f64 v = o) (hcc : canon .f64 c = some c) (h : ltO o (some c) = b) : (FloatKind.f64.format.order v c == some .lt) = b := by
  rw [order_canon, hc, hcc]; exact h
theorem tGt {v c : Nat} {o : Option Nat} {b : Bool} (hc : canon .f64 v = o) (hcc : canon .f64 c = some c) (h : gtO o (some c) = b) : (FloatKind.f64.format.order v c == some .gt) = b := by
  rw [order_canon, hc, hcc]; exact h
theorem tGe {v c : Nat} {o : Option Nat} {b : Bool} (hc : canon .f64 v = o) (hcc : canon .f64 c = some c) (h : geO o (some c) = b) : (FloatKind.f64.format.order v c == some .gt || FloatKind.f64.format.order v c == some .eq) = b := by
  rw [order_canon, hc, hcc]; exact h

theorem neg_canon (v : Nat) (hv : v < 2 ^ 64) : canon .f64 (Op.negFloat .f64 v) = (canon .f64 v).map (Op.negFloat .f64) ∧ Op.negFloat .f64 v < 2 ^ 64 := by
  have hlt : Op.negFloat .f64 v < 2 ^ 64 := by
    show v ^^^ 2 ^ 63 < 2 ^ 64
    exact Nat.xor_lt_two_pow hv (by decide)
  have hr : rung Ieee.double (Op.negFloat .f64 v) = rung Ieee.double v := by
    show (v ^^^ 2 ^ 63) % 2 ^ 63 = v % 2 ^ 63
    apply Nat.eq_of_testBit_eq
    intro i
    rw [Nat.testBit_mod_two_pow, Nat.testBit_mod_two_pow, Nat.testBit_xor, Nat.testBit_two_pow]
    by_cases hi : i < 63
    · have : ¬ 63 = i := by omega
      simp [hi, this]
    · simp [hi]
  refine ⟨?_, hlt⟩
  have e0 : FloatKind.f64.format = Ieee.double := rfl
  by_cases hn : isN .f64 v = true
  · have h2 : isN .f64 (Op.negFloat .f64 v) = true := by
      rw [isN_iff] at hn ⊢
      rw [e0] at hn ⊢
      rw [hr]; exact hn
    rw [canon_none.2 h2, canon_none.2 hn]; rfl
  · have hn' : isN .f64 v = false := by simpa using hn
    have h2 : isN .f64 (Op.negFloat .f64 v) = false := isN_of_le (by rw [e0, hr]; exact isN_false hn')
    rw [canon_of_not h2, canon_of_not hn']; rfl

set_option maxHeartbeats 400000 in
theorem implPart (t : Nat) (w : World) (h : rung Ieee.double t < 1075 * 2 ^ 52) :
    Calls Try.prog 30 #[.float .f64 t] w (DRet w (partO t)) := by
  have hcv := fun w' => run_convert_float_int (P := Try.prog) w' 22 2 .f64 .i64 t (wholeOf t) (by rw [Try.underlying22]; rfl) Try.underlying2 (whole_conv h)
  cases hlt : ltO (cutO t) (some 0)
  · have hp : partO t = cutO t := by unfold partO; rw [hlt]; rfl
    rw [hp]
    have HL := Lib.hid hlt
    clear hp hlt
    go_enter Try.func30, Try.ntmps30
    go_wp2_with (refine wpList_arith rfl _ _ _ _ _ rfl rfl .f64 _ _ rfl rfl ?_; intro v n hc hv; have ht := tLt hc rfl HL.out; have HC := Lib.hid hc; clear hc)
    go_ret
    exact ⟨v, _, rfl, rfl, HC.out, hv⟩
  · have hp : partO t = fop .add .f64 (cutO t) (some c1) := by unfold partO; rw [hlt]; rfl
    rw [hp]
    have HL := Lib.hid hlt
    clear hp hlt
    go_enter Try.func30, Try.ntmps30
    go_wp2_with (refine wpList_arith rfl _ _ _ _ _ rfl rfl .f64 _ _ rfl rfl ?_; intro v n hc hv; first | (have ht := tLt hc rfl HL.out; have HC := Lib.hid hc; clear hc) | (have HC2 := Lib.hid hc; clear hc))
    go_ret
    refine ⟨v, _, rfl, rfl, ?_, hv⟩
    rw [HC2.out, HC.out]; rfl

/-- the floats 8, 7, .. 0 -/
def down (i : Nat) : Nat := floatOfInt .f64 (8 - (i : Int))
def twice (i : Nat) : Nat := floatOfInt .f64 (2 * (8 - (i : Int)))
def odd (i : Nat) : Nat := floatOfInt .f64 (2 * (8 - (i : Int)) + 1)

theorem down_facts : ∀ i, i < 8 →
    fop .mul .f64 (some 4611686018427387904) (some (down i)) = some (twice i) ∧ fop .add .f64 (some (twice i)) (some 4607182418800017408) = some (odd i) ∧
    fop .mul .f64 (some (twice i)) (some (odd i)) = some (below i) ∧ fop .sub .f64 (some (down i)) (some 4607182418800017408) = some (down (i + 1)) ∧
    (FloatKind.f64.format.order (down i) 4607182418800017408 == some .gt || FloatKind.f64.format.order (down i) 4607182418800017408 == some .eq) = true ∧ down (i + 1) < down i ∧ canon .f64 (down i) = some (down i) ∧ down i < 2 ^ 64 := by decide +kernel

theorem down_end : (FloatKind.f64.format.order (down 8) 4607182418800017408 == some .gt || FloatKind.f64.format.order (down 8) 4607182418800017408 == some .eq) = false := by decide +kernel

theorem down_start : (4620693217682128896 : Nat) = down 0 := by decide +kernel

def fbits : Value → Nat
  | .float _ b => b
  | _ => 0

set_option maxHeartbeats 1000000 in
theorem implShort (f : Nat) (w : World) : Calls Try.prog 53 #[.float .f64 f] w (DRet w (shortO (canon .f64 f))) := by
  have tokz : True := trivial; have toku : True := trivial
  go_enter Try.func53, Try.ntmps53
  go_wp2_with (first | (have _t := tokz; refine wpList_arith rfl _ _ _ _ _ rfl rfl .f64 _ _ rfl rfl ?_; intro vz nz hc hz; have Hz := Lib.hid hc; clear hc _t tokz) | (have _t := toku; refine wpList_arith rfl _ _ _ _ _ rfl rfl .f64 _ _ rfl rfl ?_; intro vu nu hc hu; have Hu := Lib.hid hc; clear hc _t toku))
  have hz' : canon .f64 vz = fop .mul .f64 (canon .f64 f) (some cTau) := Hz.out
  have hu : canon .f64 vu = fop .mul .f64 (fop .mul .f64 (canon .f64 f) (some cTau)) (fop .mul .f64 (canon .f64 f) (some cTau)) := by
    rw [Hu.out, hz']
  have HU := Lib.hid hu
  have HZ := Lib.hid hz'
  clear hu hz' Hu Hz
  have hsh : shortO (canon .f64 f) = fop .mul .f64 (fop .mul .f64 (canon .f64 f) (some cTau)) (polyO (fop .mul .f64 (fop .mul .f64 (canon .f64 f) (some cTau)) (fop .mul .f64 (canon .f64 f) (some cTau))) 8) := rfl
  have HSH := Lib.hid hsh
  clear hsh
  generalize fop .mul .f64 (canon .f64 f) (some cTau) = Z at *
  go_loopw [5, 6] (fun p k wr => ∃ i r : Nat, i ≤ 8 ∧ k = .float .f64 (down i) ∧ p = .float .f64 r ∧ canon .f64 r = polyO (fop .mul .f64 Z Z) i ∧ ∃ m, wr = w.drewN m) (fun _ k _ => fbits k)
  case atStart => exact ⟨0, _, by omega, by rw [← down_start], rfl, rfl, _, rfl⟩
  case round =>
    obtain ⟨i, r, hi, rfl, rfl, hr, m, rfl⟩ := hrel
    have HR := Lib.hid hr
    clear hr
    by_cases h8 : i < 8
    · obtain ⟨f1, f2, f3, f4, f5, f6, f7, f8⟩ := down_facts i h8
      have F1 := Lib.hid f1
      have F2 := Lib.hid f2
      have F3 := Lib.hid f3
      have F4 := Lib.hid f4
      have F6 := Lib.hid f6
      have F7 := Lib.hid f7
      clear f1 f2 f3 f4 f6 f7
      have toka : True := trivial; have tokb : True := trivial; have tokk : True := trivial; have tokd : True := trivial; have toke : True := trivial; have tokf : True := trivial; have tokg : True := trivial; have tokh : True := trivial
      go_wp2_with (first | (have _t := toka; refine wpList_arith rfl _ _ _ _ _ rfl rfl .f64 _ _ rfl rfl ?_; intro va na hc ha; have Ha := Lib.hid hc; clear hc _t toka) | (have _t := tokb; refine wpList_arith rfl _ _ _ _ _ rfl rfl .f64 _ _ rfl rfl ?_; intro vb nb hc hb; have Hb := Lib.hid hc; clear hc _t tokb) | (have _t := tokk; refine wpList_arith rfl _ _ _ _ _ rfl rfl .f64 _ _ rfl rfl ?_; intro vk nk hc hk; have Hk := Lib.hid hc; clear hc _t tokk) | (have _t := tokd; refine wpList_arith rfl _ _ _ _ _ rfl rfl .f64 _ _ rfl rfl ?_; intro vd nd hc hd; have Hd := Lib.hid hc; clear hc _t tokd) | (have _t := toke; refine wpList_arith rfl _ _ _ _ _ rfl rfl .f64 _ _ rfl rfl ?_; intro ve ne hc he; have He := Lib.hid hc; clear hc _t toke) | (have _t := tokf; refine wpList_arith rfl _ _ _ _ _ rfl rfl .f64 _ _ rfl rfl ?_; intro vf nf hc hf; have Hf := Lib.hid hc; clear hc _t tokf) | (have _t := tokg; refine wpList_arith rfl _ _ _ _ _ rfl rfl .f64 _ _ rfl rfl ?_; intro vg ng hc hg; have Hg := Lib.hid hc; clear hc _t tokg) | (have _t := tokh; refine wpList_arith rfl _ _ _ _ _ rfl rfl .f64 _ _ rfl rfl ?_; intro vh nh hc hh; have Hh := Lib.hid hc; clear hc _t tokh))
      have g2 : canon .f64 vb = some (twice i) := by rw [Hb.out, F7.out]; exact F1.out
      have g3 : canon .f64 vk = some (twice i) := by rw [Hk.out, F7.out]; exact F1.out
      have g4 : canon .f64 vd = some (odd i) := by rw [Hd.out, g3]; exact F2.out
      have g5 : canon .f64 ve = some (below i) := by rw [He.out, g2, g4]; exact F3.out
      have g6 : canon .f64 vg = polyO (fop .mul .f64 Z Z) (i + 1) := by
        rw [Hg.out, Hf.out, Ha.out, g5, HU.out, HR.out]; rfl
      have g7 : canon .f64 vh = some (down (i + 1)) := by rw [Hh.out, F7.out]; exact F4.out
      obtain ⟨g8, _⟩ := canon_some g7
      go_roundw
      case rel => exact ⟨i + 1, vg, by omega, by rw [g8], rfl, g6, _, rfl⟩
      case measure => show fbits (.float .f64 vh) < fbits (.float .f64 (down i)); rw [← g8]; exact F6.out
    · obtain rfl : i = 8 := by omega
      have he := down_end
      have tokp : True := trivial
      go_wp2_with (first | (have _t := tokp; refine wpList_arith rfl _ _ _ _ _ rfl rfl .f64 _ _ rfl rfl ?_; intro vp np hc hp; have Hp := Lib.hid hc; clear hc _t tokp))
      go_ret
      refine ⟨vp, _, rfl, rfl, ?_, hp⟩
      rw [Hp.out, HZ.out, HR.out, HSH.out]
end Go.Proofs.Ytdcpkndkehdhiad
