/- math.Floor on finite numbers: what it leaves, and that this fits into 64 bits. Conditions: none beyond those of each theorem. -/
import Derived.Test.YtdcpkndkehdhiadLogBd
namespace Go.Proofs.Ytdcpkndkehdhiad
open Go Ieee Go.RowKit

def floorE (v : Nat) : Nat := FloatKind.f64.encode ((FloatKind.f64.decode v).integral .down)

theorem run_floor (v : Nat) (w : World) (h : isFin .f64 v) : (callFunc 55 #[.float .f64 v]).run Try.prog w = .ok (.value (.float .f64 (floorE v))) w := by
  rw [run_callFunc_extern (e := Extern.MathFloor.toIntegral "math.archFloor" .down) Try.func55 (by kernel_rfl) (by kernel_rfl) (by kernel_rfl) (by kernel_rfl)]
  obtain ⟨m, p, e1, _⟩ := fin_read h
  have e2 : FloatKind.f64.decode v = .number (sgn FloatKind.f64.format v) m (FloatKind.f64.format.leastPlace + (p : Int)) := e1
  have e3 : Extern.MathFloor.toIntegral "math.archFloor" .down #[.float .f64 v] = pure (.float .f64 (floorE v)) := by
    unfold floorE
    show (match FloatKind.f64.decode v with
      | .nan s t => _
      | d => _) = _
    rw [e2]
  rw [e3]; rfl

theorem floorAll (v : Nat) (w : World) (h : isFin .f64 v) : Calls Try.prog 37 #[.float .f64 v] w fun e w' => e = .returned (.float .f64 (floorE v)) ∧ w = w' := by
  have hf := fun w' => run_floor v w' h
  go_enter Try.func37, Try.ntmps37
  go_wp2
  go_ret
  exact ⟨rfl, rfl⟩

theorem down_le (s : Bool) (n d : Nat) : Toward.down.cut s n d ≤ Toward.zero.cut s n d + 1 := by
  unfold Toward.cut
  simp only [Bool.toNat_false, Nat.add_zero]
  have : (s && n % 1 <<< min d (n.log2 + 2) != 0).toNat ≤ 1 := by cases (s && n % 1 <<< min d (n.log2 + 2) != 0) <;> simp
  omega

theorem whole_lt24 {t : Nat} (h : rung Ieee.double t < 1047 * 2 ^ 52) : magOf Ieee.double (rung Ieee.double t) / U1 < 2 ^ 24 := by
  obtain ⟨q, hq⟩ : ∃ q : Nat, 1022 = q := ⟨_, rfl⟩
  have h1 : rung Ieee.double t < (q + 24 + 1) * 2 ^ 52 := by rw [← hq]; exact h
  have := mag_bound (q + 24) h1
  rw [Nat.div_lt_iff_lt_mul U1_pos, U1_pow q hq, ← Nat.pow_add]
  rw [show 24 + (52 + q) = 52 + (q + 24) by omega]; exact this

theorem floor_bd {v : Nat} (h : rung Ieee.double v < 1047 * 2 ^ 52) : rung Ieee.double (floorE v) < 1075 * 2 ^ 52 := by
  have hf : isFin .f64 v := by show rung Ieee.double v < Ieee.double.infRung; rw [dinf]; omega
  obtain ⟨m, p, e1, v1⟩ := fin_read hf
  have e2 : FloatKind.f64.decode v = .number (sgn Ieee.double v) m (Ieee.double.leastPlace + (p : Int)) := e1
  have hw := whole_lt24 h
  rw [← show m * 2 ^ p = magOf Ieee.double (rung Ieee.double v) from v1, ← whole_cut (sgn Ieee.double v) m p] at hw
  have hd := down_le (sgn Ieee.double v) (m <<< (Ieee.double.leastPlace + (p : Int)).toNat) (-(Ieee.double.leastPlace + (p : Int))).toNat
  have hfl : floorE v = Ieee.double.nearest (sgn Ieee.double v) (Toward.down.cut (sgn Ieee.double v) (m <<< (Ieee.double.leastPlace + (p : Int)).toNat) (-(Ieee.double.leastPlace + (p : Int))).toNat) 0 := by
    unfold floorE; rw [e2]; rfl
  rw [hfl]
  generalize Toward.down.cut (sgn Ieee.double v) (m <<< (Ieee.double.leastPlace + (p : Int)).toNat) (-(Ieee.double.leastPlace + (p : Int))).toNat = c at *
  generalize Toward.zero.cut (sgn Ieee.double v) (m <<< (Ieee.double.leastPlace + (p : Int)).toNat) (-(Ieee.double.leastPlace + (p : Int))).toNat = z at *
  have hb := bd_nearest (s := sgn Ieee.double v) (m := c) (e := 0) (q := 1048) (by omega) (by omega) (fun h0 => by
    have : c.log2 < 25 := (Nat.log2_lt h0).2 (by omega)
    omega)
  exact Nat.lt_of_le_of_lt hb (by decide)
end Go.Proofs.Ytdcpkndkehdhiad
