/- The walks of the laws on bits that are read back, on subnormal and flushed numbers and on roots. Conditions: none beyond those of each theorem. -/
import Derived.Test.YtabhjnpmmjmaiabWalksB
import Derived.Test.YtabhjnpmmjmaiabIn
import Derived.Test.YtabhjnpmmjmaiabFl5
namespace Go.Proofs.Ytabhjnpmmjmaiab
open Go Ieee Go.RowKit

/-! ### Two numbers that are one, or both NaNs -/

theorem sameFloat_any (a b : Nat) (w : World) (h : canon .f64 a = canon .f64 b) : Calls Try.prog 39 #[.float .f64 a, .float .f64 b] w fun e w' => e = .returned (.bool true) ∧ ∃ n, w' = w.drewN n := by
  have ha := neq_self .f64 a
  have hb := neq_self .f64 b
  by_cases hn : isN .f64 a = true
  · have hn2 : isN .f64 b = true := canon_none.1 (h ▸ canon_none.2 hn)
    have HH := Lib.hid h; clear h
    rw [hn] at ha
    rw [hn2] at hb
    go_enter Try.func39, Try.ntmps39
    go_wp2
    go_ret
    exact ⟨rfl, 0, rfl⟩
  · have hn1 : isN .f64 a = false := by simpa using hn
    have hab : a = b := by
      have h1 : canon .f64 a = some a := canon_of_not hn1
      rw [h1] at h
      exact (canon_some h.symm).1
    subst hab
    clear hb h
    rw [hn1] at ha
    have hs : (FloatKind.f64.format.order a a == some .eq) = true := by rw [cmp_eq .f64 hn1 hn1]; simp
    by_cases hz : (FloatKind.f64.format.order a 0 == some .eq) = true
    · go_enter Try.func39, Try.ntmps39
      go_wp2_with (refine wpList_arith rfl _ _ _ _ _ rfl rfl .f64 _ _ rfl rfl ?_; intro v n hc hv; have HC := Lib.hid hc; clear hc)
      rename_i v1 n1 hv1 HC1
      go_ret
      refine ⟨?_, _, rfl⟩
      have e : FloatKind.f64.format.order v 0 = FloatKind.f64.format.order v1 0 := by rw [order_canon, HC.out, order_canon .f64 v1, HC1.out]
      show Ending.returned (.bool ((FloatKind.f64.format.order v1 0 == some .gt) == (FloatKind.f64.format.order v 0 == some .gt))) = _
      rw [e]; simp
    · have hz' : (FloatKind.f64.format.order a 0 == some .eq) = false := by simpa using hz
      go_enter Try.func39, Try.ntmps39
      go_wp2
      go_ret
      exact ⟨rfl, 0, rfl⟩

theorem hid2 {k : FloatKind} {a b : Nat} {x : Option Nat} (h1 : Hid (canon k a = x)) (h2 : Hid (canon k b = x)) : canon k a = canon k b := h1.out.trans h2.out.symm

/-! ### Bits that are read back -/

def fromV (n : Int) : Value := if 0 ≤ n ∧ n ≤ 4294967295 then .tuple #[.float .f32 n.toNat, .bool true] else .tuple #[.float .f32 0, .bool false]

end Go.Proofs.Ytabhjnpmmjmaiab
