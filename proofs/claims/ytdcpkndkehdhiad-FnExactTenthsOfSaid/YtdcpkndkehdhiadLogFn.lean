/- The tenths of decibels are a number. Conditions: none beyond those of each theorem. -/
import Derived.Test.YtdcpkndkehdhiadLogBd
namespace Go.Proofs.Ytdcpkndkehdhiad
open Go Ieee

/-- a number with a bound -/
def Fn (q : Nat) (o : Option Nat) : Prop := Bd q o ∧ ∃ v, o = some v

theorem Fn.mono {q q' : Nat} {o : Option Nat} (h : Fn q o) (hq : q ≤ q') : Fn q' o := ⟨h.1.mono hq, h.2⟩

theorem some_mul {x y : Nat} (hx : isFin .f64 x) (hy : isFin .f64 y) : ∃ v, fop .mul .f64 (some x) (some y) = some v := by
  obtain ⟨m, i, e1, _⟩ := fin_read hx
  obtain ⟨n, j, e2, _⟩ := fin_read hy
  refine ⟨Ieee.double.nearest (sgn Ieee.double x ^^ sgn Ieee.double y) (m * n) (Ieee.double.leastPlace + (i : Int) + (Ieee.double.leastPlace + (j : Int))), ?_⟩
  show Ieee.double.mul x y = _
  unfold Format.mul
  rw [show Ieee.double.read x = _ from e1, show Ieee.double.read y = _ from e2]; rfl

theorem some_quo {x y : Nat} (hx : isFin .f64 x) (hy : isFin .f64 y) (h0 : rung Ieee.double y ≠ 0) : ∃ v, fop .quo .f64 (some x) (some y) = some v := by
  obtain ⟨m, i, e1, _⟩ := fin_read hx
  obtain ⟨n, j, e2, v2⟩ := fin_read hy
  have hn : n ≠ 0 := by
    intro e
    rw [e, Nat.zero_mul] at v2
    exact magOf_ne Ieee.double h0 v2.symm
  have hq : fop .quo .f64 (some x) (some y) = ((Datum.number (sgn Ieee.double x) m (Ieee.double.leastPlace + (i : Int))).quotient (Ieee.double.fractionBits + 2) (.number (sgn Ieee.double y) n (Ieee.double.leastPlace + (j : Int)))).map Ieee.double.write := by
    show Ieee.double.div x y = _
    unfold Format.div
    rw [show Ieee.double.read x = _ from e1, show Ieee.double.read y = _ from e2]; rfl
  rw [hq]
  simp only [Datum.quotient, if_neg hn, Option.map_some]
  exact ⟨_, rfl⟩

theorem Fn.add {a b : Option Nat} {p : Nat} (ha : Fn p a) (hb : Fn p b) (hp : 1 ≤ p) (hp2 : p ≤ 2045) : Fn (p + 1) (fop .add .f64 a b) := by
  refine ⟨Bd.add ha.1 hb.1 hp hp2, ?_⟩
  obtain ⟨h1, x, rfl⟩ := ha
  obtain ⟨h2, y, rfl⟩ := hb
  exact ⟨_, add_eq (h1.isFin' (by omega)) (h2.isFin' (by omega))⟩

theorem Fn.mul {a b : Option Nat} {p q r : Nat} (ha : Fn (p + 1) a) (hb : Fn (q + 1) b) (hp2 : p ≤ 2045) (hq2 : q ≤ 2045) (hr : p + q + 1 ≤ r + 1023) (hr2 : r ≤ 2045) : Fn (r + 1) (fop .mul .f64 a b) := by
  refine ⟨Bd.mul' ha.1 hb.1 hp2 hq2 hr hr2, ?_⟩
  obtain ⟨h1, x, rfl⟩ := ha
  obtain ⟨h2, y, rfl⟩ := hb
  exact some_mul (h1.isFin' (by omega)) (h2.isFin' (by omega))

theorem fn_ratio {x : Nat} (h1 : 4604930618986332160 ≤ x) (h2 : x < 4609434218613702656) : Fn 1023 (ratioO (some x)) := by
  refine ⟨bd_ratio h1 h2, ?_⟩
  obtain ⟨f1, f2, f3⟩ := pos_fin (r := x) (by omega)
  have hs : sgn Ieee.double x = false := by
    unfold sgn
    rw [show Ieee.double.signWeight = 2 ^ 63 from rfl, Nat.div_eq_of_lt (by omega)]; rfl
  obtain ⟨d, e4, s4, l4, b4⟩ := one_add hs (q := 1024) (by omega) (by omega) (by rw [f3]; omega)
  obtain ⟨n, hn⟩ : ∃ n, fop .sub .f64 (some x) (some c1) = some n := ⟨_, sub_eq f1 c1_fin⟩
  have hb := bd_less h1 h2 n hn
  unfold ratioO
  rw [add_comm_fin f1 c1_fin, e4, hn]
  exact some_quo (fin_of hb (by omega)) (fin_of b4 (by omega)) (by omega)

theorem invL_some : ∀ i, i < 13 → (invL i).isSome = true := by decide +kernel
theorem fn_invL (i : Nat) (h : i < 13) : Fn 1023 (invL i) := ⟨bd_invL i h, Option.isSome_iff_exists.1 (invL_some i h)⟩

theorem fn_polyL {u : Option Nat} (hu : Fn 1023 u) : ∀ i, i ≤ 13 → Fn (1024 + i) (polyL u i)
  | 0, _ => ⟨fun v hv => by cases hv; exact Nat.zero_le _, 0, rfl⟩
  | i + 1, hi => by
    have ih := fn_polyL hu i (by omega)
    have ih' : Fn (1023 + i + 1) (polyL u i) := ih.mono (by omega)
    have h1 : Fn (1023 + i + 1) (fop .mul .f64 u (polyL u i)) := Fn.mul (p := 1022) hu ih' (by omega) (by omega) (by omega) (by omega)
    have h3 := Fn.add ((fn_invL i (by omega)).mono (q' := 1023 + i + 1) (by omega)) h1 (by omega) (by omega)
    exact h3.mono (by omega)

theorem fn_ten {r : Nat} (h1 : 2 ^ 52 ≤ r) (h2 : r < 2046 * 2 ^ 52) : Fn 1046 (tenO r) := by
  obtain ⟨l1, l2, e1, e2⟩ := left_lt h1 h2
  have hs := fn_ratio l1 l2
  have hu : Fn 1023 (fop .mul .f64 (ratioO (some (left r))) (ratioO (some (left r)))) := Fn.mul (p := 1022) (q := 1022) (r := 1022) hs hs (by omega) (by omega) (by omega) (by omega)
  have hp := fn_polyL hu 13 (Nat.le_refl _)
  have g1 : Fn 1037 (fop .mul .f64 (ratioO (some (left r))) (polyL (fop .mul .f64 (ratioO (some (left r))) (ratioO (some (left r)))) 13)) := Fn.mul (p := 1022) (q := 1036) (r := 1036) hs hp (by omega) (by omega) (by omega) (by omega)
  have g2 : Fn 1024 (some 4611686018427387904) := ⟨fun v hv => by cases hv; decide, _, rfl⟩
  have g3 : Fn 1038 (seriesO (ratioO (some (left r)))) := Fn.mul (p := 1023) (q := 1036) (r := 1037) g2 g1 (by omega) (by omega) (by omega) (by omega)
  have hi : Fn 1034 (some (intF (expo r))) := ⟨fun v hv => by
    cases hv
    have := intF_small (expo r + 1030).toNat (by omega)
    rw [show (((expo r + 1030).toNat : Nat) : Int) - 1030 = expo r by omega] at this
    exact this, _, rfl⟩
  have hl : Fn 1023 (some 4604418534313441775) := ⟨fun v hv => by cases hv; decide, _, rfl⟩
  have h3 : Fn 1034 (fop .mul .f64 (some (intF (expo r))) (some 4604418534313441775)) := Fn.mul (p := 1033) (q := 1022) (r := 1033) hi hl (by omega) (by omega) (by omega) (by omega)
  have h4 : Fn 1039 (logO r) := Fn.add g3 (h3.mono (by omega)) (by omega) (by omega)
  have h5 : Fn 1029 (some 4631308968768463603) := ⟨fun v hv => by cases hv; decide, _, rfl⟩
  have h6 : Fn 1045 (fop .mul .f64 (logO r) (some 4631308968768463603)) := Fn.mul (p := 1038) (q := 1028) (r := 1044) h4 h5 (by omega) (by omega) (by omega) (by omega)
  have h7 : Fn 1045 (some cHalf) := ⟨fun v hv => by cases hv; decide, _, rfl⟩
  exact Fn.add h6 h7 (by omega) (by omega)
end Go.Proofs.Ytdcpkndkehdhiad
