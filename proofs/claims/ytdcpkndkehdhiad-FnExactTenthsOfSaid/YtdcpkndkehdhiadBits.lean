/- What the functions on the bits of a number return, the program's and the model's. Conditions: none beyond those of each theorem. -/
import Derived.Test.YtdcpkndkehdhiadChecked
import Derived.Test.YtdcpkndkehdhiadFl3
namespace Go.Proofs.Ytdcpkndkehdhiad
open Go Ieee Go.RowKit

def bitsOf (b : Nat) : Int := if isN .f32 b = true then 2143289344 else b

theorem neq_self (k : FloatKind) (b : Nat) : (k.format.order b b != some .eq) = isN k b := by
  rw [order_self]; unfold isN; split <;> simp_all

@[go_sem] theorem run_f32bits (b : Nat) (w : World) : (callFunc 67 #[.float .f32 b]).run Try.prog w = .ok (.value (.int .u32 b)) w := by
  rw [run_callFunc_extern (e := Extern.MathFloatBits.float32bits) Try.func67 (by kernel_rfl) (by kernel_rfl) (by kernel_rfl) (by kernel_rfl)]; rfl

theorem isNaN_any (b : Nat) (w : World) : Calls Try.prog 50 #[.float .f64 b] w fun e w' => e = .returned (.bool (isN .f64 b)) ∧ w = w' := by
  have h := neq_self .f64 b
  go_enter Try.func50, Try.ntmps50
  go_wp2
  go_ret
  exact ⟨rfl, rfl⟩

theorem specBits (b : Nat) (w : World) (hb : b < 2 ^ 32) : Calls Try.prog 62 #[.float .f32 b] w fun e w' => e = .returned (.int .i64 (bitsOf b)) ∧ w = w' := by
  have h := neq_self .f32 b
  by_cases hn : isN .f32 b = true
  · go_enter Try.func62, Try.ntmps62
    go_wp2
    go_ret
    exact ⟨by unfold bitsOf; rw [if_pos hn]; rfl, rfl⟩
  · have hn' : isN .f32 b = false := by simpa using hn
    go_enter Try.func62, Try.ntmps62
    go_wp2
    go_ret
    exact ⟨by unfold bitsOf; rw [if_neg hn]; rfl, rfl⟩

theorem isN_conv {src dst : FloatKind} {b v : Nat} (h : canon dst v = fconv src dst (canon src b)) (hf : fits src dst b) (hne : src ≠ dst) : isN dst v = isN src b := by
  unfold isN
  by_cases hn : (src.decode b).isNaN = true
  · rw [canon_none.2 hn] at h
    rw [hn]; exact canon_none.1 h
  · have hn' : (src.decode b).isNaN = false := by simpa using hn
    rw [canon_of_not hn'] at h
    rcases hf with hf | hf | hf
    · exact absurd hf hne
    · exact absurd hf hn
    · obtain ⟨r, hr⟩ := Option.isSome_iff_exists.1 hf
      have h' : canon dst v = some r := h.trans hr
      rw [hn']; exact (canon_some h').2

end Go.Proofs.Ytdcpkndkehdhiad
