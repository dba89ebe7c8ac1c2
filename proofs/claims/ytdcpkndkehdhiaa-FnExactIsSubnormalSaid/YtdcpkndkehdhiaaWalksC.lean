/- The walks of the laws on bits that are read back, on subnormal and flushed numbers and on roots. Conditions: none beyond those of each theorem. -/
import Derived.Test.YtdcpkndkehdhiaaWalksB
import Derived.Test.YtdcpkndkehdhiaaFl5
namespace Go.Proofs.Ytdcpkndkehdhiaa
open Go Ieee Go.RowKit

/-! ### Two numbers that are one, or both NaNs -/

theorem sameFloat_any (a b : Nat) (w : World) (h : canon .f64 a = canon .f64 b) : Calls Try.prog 19 #[.float .f64 a, .float .f64 b] w fun e w' => e = .returned (.bool true) ∧ ∃ n, w' = w.drewN n := by
  have ha := neq_self .f64 a
  have hb := neq_self .f64 b
  by_cases hn : isN .f64 a = true
  · have hn2 : isN .f64 b = true := canon_none.1 (h ▸ canon_none.2 hn)
    have HH := Lib.hid h; clear h
    rw [hn] at ha
    rw [hn2] at hb
    go_enter Try.func19, Try.ntmps19
    go_wp2
    go_ret
    exact ⟨rfl, 0, rfl⟩
  · have hn1 : isN .f64 a = false := by simpa using hn
    have hab : a = b := by
      have h1 : canon .f64 a = some a := canon_of_not hn1
      rw [h1] at h
      exact (canon_some h.symm).1
    subst hab
    clear hb h
    rw [hn1] at ha
    have hs : (FloatKind.f64.format.order a a == some .eq) = true := by rw [cmp_eq .f64 hn1 hn1]; simp
    by_cases hz : (FloatKind.f64.format.order a 0 == some .eq) = true
    · go_enter Try.func19, Try.ntmps19
      go_wp2_with (refine wpList_arith rfl _ _ _ _ _ rfl rfl .f64 _ _ rfl rfl ?_; intro v n hc hv; have HC := Lib.hid hc; clear hc)
      rename_i v1 n1 hv1 HC1
      go_ret
      refine ⟨?_, _, rfl⟩
      have e : FloatKind.f64.format.order v 0 = FloatKind.f64.format.order v1 0 := by rw [order_canon, HC.out, order_canon .f64 v1, HC1.out]
      show Ending.returned (.bool ((FloatKind.f64.format.order v1 0 == some .gt) == (FloatKind.f64.format.order v 0 == some .gt))) = _
      rw [e]; simp
    · have hz' : (FloatKind.f64.format.order a 0 == some .eq) = false := by simpa using hz
      go_enter Try.func19, Try.ntmps19
      go_wp2
      go_ret
      exact ⟨rfl, 0, rfl⟩

theorem hid2 {k : FloatKind} {a b : Nat} {x : Option Nat} (h1 : Hid (canon k a = x)) (h2 : Hid (canon k b = x)) : canon k a = canon k b := h1.out.trans h2.out.symm

/-! ### Bits that are read back -/

@[go_sem] theorem run_f32from (b : Nat) (w : World) : (callFunc 36 #[.int .u32 (b : Int)]).run Try.prog w = .ok (.value (.float .f32 b)) w := by
  rw [run_callFunc_extern (e := Extern.MathFloatBits.float32frombits) Try.func36 (by kernel_rfl) (by kernel_rfl) (by kernel_rfl) (by kernel_rfl)]; rfl

theorem specFrom (b : Nat) (w : World) (hb : b < 2 ^ 32) : Calls Try.prog 35 #[.int .i64 (b : Int)] w fun e w' => e = .returned (.float .f32 b) ∧ w = w' := by
  have h1 : (b : Int) ≤ 4294967295 := by omega
  go_enter Try.func35, Try.ntmps35
  go_wp2
  go_ret
  exact ⟨rfl, rfl⟩

theorem l00In_any (a lo hi : Int) (w : World) : Calls Try.prog 34 #[.int .i64 a, .int .i64 lo, .int .i64 hi] w fun e w' => e = .returned (.bool (decide (lo ≤ a ∧ a ≤ hi))) ∧ w = w' := by
  by_cases h1 : lo ≤ a
  · by_cases h2 : a ≤ hi
    · have d1 : decide (lo ≤ a) = true := decide_eq_true h1
      have d2 : decide (a ≤ hi) = true := decide_eq_true h2
      go_enter Try.func34, Try.ntmps34
      go_wp2
      go_ret
      exact ⟨by rw [decide_eq_true (show lo ≤ a ∧ a ≤ hi from ⟨h1, h2⟩)]; rfl, rfl⟩
    · have d1 : decide (lo ≤ a) = true := decide_eq_true h1
      have d2 : decide (a ≤ hi) = false := decide_eq_false h2
      go_enter Try.func34, Try.ntmps34
      go_wp2
      go_ret
      exact ⟨rfl, rfl⟩
  · have d1 : decide (lo ≤ a) = false := decide_eq_false h1
    go_enter Try.func34, Try.ntmps34
    go_wp2
    go_ret
    exact ⟨rfl, rfl⟩

def fromV (n : Int) : Value := if 0 ≤ n ∧ n ≤ 4294967295 then .tuple #[.float .f32 n.toNat, .bool true] else .tuple #[.float .f32 0, .bool false]

theorem specFromBits (n : Int) (w : World) : Calls Try.prog 17 #[.int .i64 n] w fun e w' => e = .returned (fromV n) ∧ w = w' := by
  by_cases h : 0 ≤ n ∧ n ≤ 4294967295
  · obtain ⟨b, rfl⟩ : ∃ b : Nat, (b : Int) = n := ⟨n.toNat, by omega⟩
    have hd : decide ((0 : Int) ≤ (b : Int) ∧ (b : Int) ≤ 4294967295) = true := decide_eq_true h
    have hb : b < 2 ^ 32 := by omega
    go_enter Try.func17, Try.ntmps17
    go_wp2_with (first | (go_at_call 34; refine (l00In_any _ _ _ _).mono ?_; rintro e w' ⟨rfl, rfl⟩) | (go_at_call 35; refine (specFrom _ _ hb).mono ?_; rintro e w' ⟨rfl, rfl⟩))
    go_ret2
    exact ⟨by unfold fromV; rw [if_pos h]; rfl, rfl⟩
  · have hd : decide ((0 : Int) ≤ n ∧ n ≤ 4294967295) = false := decide_eq_false h
    go_enter Try.func17, Try.ntmps17
    go_wp2_with (first | (go_at_call 34; refine (l00In_any _ _ _ _).mono ?_; rintro e w' ⟨rfl, rfl⟩))
    go_ret2
    exact ⟨by unfold fromV; rw [if_neg h]; rfl, rfl⟩

theorem implFromBits (n : Int) (w : World) : Calls Try.prog 18 #[.int .i64 n] w fun e w' => e = .returned (fromV n) ∧ w = w' := by
  by_cases h : 0 ≤ n ∧ n ≤ 4294967295
  · obtain ⟨b, rfl⟩ : ∃ b : Nat, (b : Int) = n := ⟨n.toNat, by omega⟩
    have d1 : decide ((b : Int) < 0) = false := by simp
    have d2 : decide ((4294967295 : Int) < (b : Int)) = false := by simp; omega
    have h1 : (b : Int) ≤ 4294967295 := h.2
    go_enter Try.func18, Try.ntmps18
    go_wp2
    go_ret2
    exact ⟨by unfold fromV; rw [if_pos h]; rfl, rfl⟩
  · by_cases h0 : n < 0
    · have d1 : decide (n < 0) = true := decide_eq_true h0
      go_enter Try.func18, Try.ntmps18
      go_wp2
      go_ret2
      exact ⟨by unfold fromV; rw [if_neg h]; rfl, rfl⟩
    · have d1 : decide (n < 0) = false := decide_eq_false h0
      have d2 : decide (4294967295 < n) = true := decide_eq_true (by omega)
      go_enter Try.func18, Try.ntmps18
      go_wp2
      go_ret2
      exact ⟨by unfold fromV; rw [if_neg h]; rfl, rfl⟩

theorem fnExactFromBits_walk (n : Int) (w : World) (_hn : (Lit.int .i64 n).wf = true) :
    Calls Try.prog 6 #[.int .i64 n] w fun e w' => e = .returned (.bool true) ∧ Below w.heap.size w w' := by
  obtain ⟨b, ok, hb, hv⟩ : ∃ (b : Nat) (ok : Bool), b < 2 ^ 32 ∧ fromV n = .tuple #[.float .f32 b, .bool ok] := by
    unfold fromV
    split
    · exact ⟨_, _, by omega, rfl⟩
    · exact ⟨_, _, by omega, rfl⟩
  go_enter Try.func6, Try.ntmps6
  go_wp2_with (first | (go_at_call 17; refine (specFromBits _ _).mono ?_; rintro e w' ⟨rfl, rfl⟩) | (go_at_call 18; refine (implFromBits _ _).mono ?_; rintro e w' ⟨rfl, rfl⟩) | (refine wpList_conv rfl _ _ _ rfl .f32 .f64 (by decide) _ rfl Try.underlying22 Try.underlying29 hb (fits_widen _) ?_; intro v n hc hv; have HC := Lib.hid hc; clear hc) | (go_at_call 19; refine (sameFloat_any _ _ _ (hid2 (by assumption) (by assumption))).mono ?_; rintro e w' ⟨rfl, n, rfl⟩))
  go_ret
  exact ⟨rfl, below_drawn _ _⟩
end Go.Proofs.Ytdcpkndkehdhiaa
