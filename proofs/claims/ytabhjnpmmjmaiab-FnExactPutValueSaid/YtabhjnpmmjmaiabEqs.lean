/- Two lists of floats that are the same are found so. Conditions: none beyond those of each theorem. -/
import Derived.Test.YtabhjnpmmjmaiabWalksC
import Derived.Test.YtabhjnpmmjmaiabLists
import Derived.Test.YtabhjnpmmjmaiabRel
namespace Go.Proofs.Ytabhjnpmmjmaiab
open Go Ieee Go.RowKit

/-- the numbers are the same, all NaNs being one -/
def SameF (xs ys : List Nat) : Prop := xs.length = ys.length ∧ (∀ x ∈ xs, x < 2 ^ 32) ∧ (∀ y ∈ ys, y < 2 ^ 32) ∧ ∀ i (h : i < xs.length) (h' : i < ys.length), canon .f32 xs[i] = canon .f32 ys[i]

theorem SameF.refl {xs : List Nat} (h : ∀ x ∈ xs, x < 2 ^ 32) : SameF xs xs := ⟨rfl, h, h, fun _ _ _ => rfl⟩

set_option maxHeartbeats 1000000 in
theorem eqF32s (a b : Option Addr) (ca cb : Nat) (xs ys : List Nat) (w : World) (ha : RowV w a (fvals xs)) (hb : RowV w b (fvals ys)) (h : SameF xs ys) (hn : xs.length ≤ maxLen) :
    Calls Try.prog 59 #[.slice a xs.length ca, .slice b ys.length cb] w fun e w' => e = .returned (.bool true) ∧ ∃ n, w' = w.drewN n := by
  obtain ⟨hl, hx, hy, hs⟩ := h
  have HY := Lib.hid hl
  rw [← hl]
  clear hl
  unfold maxLen at hn
  generalize hlen : xs.length = n at hn HY ⊢
  have HL := Lib.hid hlen
  clear hlen
  go_enter Try.func59, Try.ntmps59
  go_wp2
  go_loopw [5] (fun i wr => ∃ k : Nat, k ≤ n ∧ i = .int .i64 k ∧ ∃ m, wr = w.drewN m) (fun i _ => n - (intOf i).toNat)
  case atStart => exact ⟨0, Nat.zero_le _, rfl, 0, rfl⟩
  case round =>
    obtain ⟨k, hk, rfl, m, rfl⟩ := hrel
    by_cases hlt : k < n
    · have k1 : k < xs.length := by rw [HL.out]; exact hlt
      have k2 : k < ys.length := by rw [← HY.out]; exact hlt
      obtain ⟨ba, oa, rfl, c1⟩ := ha k _ (fvals_get k1)
      obtain ⟨bb, ob, rfl, c2⟩ := hb k _ (fvals_get k2)
      have hc := hs k k1 k2
      have b1 : xs[k] < 2 ^ FloatKind.f32.format.width := hx _ (List.getElem_mem _)
      have b2 : ys[k] < 2 ^ FloatKind.f32.format.width := hy _ (List.getElem_mem _)
      generalize xs[k] = x at *
      generalize ys[k] = y at *
      have HC := Lib.hid hc
      clear hc hs ha hb
      have hki : ((k : Nat) : Int) < (n : Int) := by omega
      go_wp2_with (refine wp_region_rel (Sp := fun _ _ v => v = .bool true) (by kernel_rfl) (by kernel_rfl) ?_; (repeat (first
        | (refine wpRel_conv rfl .f32 .f64 (by decide) _ rfl Try.underlying32 Try.underlying52 (by assumption) (fits_widen _) ?_; intro v hcv hv K hK; have HV := Lib.hid hcv; clear hcv; go_big_quiet_op; go_big_quiet_on)
        | (refine wpRel_call rfl 39 _ rfl Try.func39 (by kernel_rfl) (by kernel_rfl) [.float .f64 _, .float .f64 _] rfl (fun n => ?_) ?_; (refine (sameFloat_any _ _ _ (conv_same (by assumption) (by assumption) HC rfl)).mono ?_; rintro e w' ⟨rfl, q, rfl⟩; exact ⟨_, rfl, rfl, _, World.drewN_drewN ..⟩); intro v hv K hK; subst hv; go_big_quiet_op; go_big_quiet_on)
        | (refine wpRel_plain rfl rfl ?_; intro K hK; go_big_quiet_op; go_big_quiet_on))); (with_reducible refine wpRel_nil ?_); rintro w' ⟨nq, rfl⟩)
      go_wp2
      go_roundw
      case rel => exact ⟨k + 1, by omega, by go_num, _, rfl⟩
      case measure => simp [intOf]; omega
    · go_wp2
      go_ret
      exact ⟨rfl, _, rfl⟩
end Go.Proofs.Ytabhjnpmmjmaiab
