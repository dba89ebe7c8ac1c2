/- Several texts in one: facts on floats, lists, memory and the functions that the theorems beside this text use. Conditions: none beyond those of each theorem. -/
import Derived.Test.YthlkndjllhdppaaBu4
import Derived.Test.YthlkndjllhdppaaBu2

set_option linter.unusedVariables false

section

namespace Go.Proofs.Ythlkndjllhdppaa
open Go Ieee Go.RowKit
set_option linter.unusedVariables false

def cellB (wd hi x y : Int) : Bool := decide (0 ≤ x ∧ x ≤ wd - 1) && decide (0 ≤ y ∧ y ≤ hi - 1)

theorem cell_in {wd hi x y : Int} (h : cellB wd hi x y = true) : 0 ≤ x ∧ x < wd ∧ 0 ≤ y ∧ y < hi := by
  unfold cellB at h
  simp only [Bool.and_eq_true, decide_eq_true_eq] at h
  omega

theorem index_in {wd hi x y : Int} (h : cellB wd hi x y = true) (h2 : wd * hi ≤ 256) : 0 ≤ wd * y ∧ 0 ≤ x + wd * y ∧ x + wd * y < wd * hi ∧ wd * y ≤ 256 := by
  obtain ⟨a, b, c, d⟩ := cell_in h
  have e : 0 ≤ wd * y := Int.mul_nonneg (by omega) c
  have f : wd * (y + 1) ≤ wd * hi := Int.mul_le_mul_of_nonneg_left (by omega) (by omega)
  rw [Int.mul_add, Int.mul_one] at f
  omega

theorem implHas (wd hi x y : Int) (wb : Bool) (w : World) (s1 : 3 ≤ wd) (s2 : wd ≤ 16) (s3 : 3 ≤ hi) (s4 : hi ≤ 16) : Calls Try.prog 63 #[.agg #[.int .i64 wd, .int .i64 hi, .bool wb], .agg #[.int .i64 x, .int .i64 y]] w fun e w' => e = .returned (.bool (cellB wd hi x y)) ∧ Below w.heap.size w w' := by
  have B := ((Below.refl w.heap.size w).alloc (Nat.le_refl _) (.cells #[.int .i64 wd, .int .i64 hi, .bool wb] 82)).alloc (by simp) (.cells #[.int .i64 x, .int .i64 y] 85)
  have HB := Lib.hid B; clear B
  by_cases k0 : 0 ≤ x
  · skip
    by_cases k1 : x < wd
    · skip
      by_cases k2 : 0 ≤ y
      · skip
        by_cases k3 : y < hi
        · skip
          have HC : Hid (cellB wd hi x y = true) := Lib.hid (by unfold cellB; rw [decide_eq_true (by omega), decide_eq_true (by omega)]; rfl)
          have d0 : decide (0 ≤ x) = true := decide_eq_true k0
          have d1 : decide (x < wd) = true := decide_eq_true k1
          have d2 : decide (0 ≤ y) = true := decide_eq_true k2
          have d3 : decide (y < hi) = true := decide_eq_true k3
          clear k0 k1 k2 k3
          go_enter Try.func63, Try.ntmps63
          go_wp2
          go_ret
          exact ⟨by rw [HC.out]; rfl, HB.out⟩
        · skip
          have HC : Hid (cellB wd hi x y = false) := Lib.hid (by unfold cellB; rw [decide_eq_false (p := 0 ≤ y ∧ y ≤ hi - 1) (by omega), Bool.and_false])
          have d0 : decide (0 ≤ x) = true := decide_eq_true k0
          have d1 : decide (x < wd) = true := decide_eq_true k1
          have d2 : decide (0 ≤ y) = true := decide_eq_true k2
          have d3 : decide (y < hi) = false := decide_eq_false k3
          clear k0 k1 k2 k3
          go_enter Try.func63, Try.ntmps63
          go_wp2
          go_ret
          exact ⟨by rw [HC.out]; rfl, HB.out⟩
      · skip
        have HC : Hid (cellB wd hi x y = false) := Lib.hid (by unfold cellB; rw [decide_eq_false (p := 0 ≤ y ∧ y ≤ hi - 1) (by omega), Bool.and_false])
        have d0 : decide (0 ≤ x) = true := decide_eq_true k0
        have d1 : decide (x < wd) = true := decide_eq_true k1
        have d2 : decide (0 ≤ y) = false := decide_eq_false k2
        clear k0 k1 k2
        go_enter Try.func63, Try.ntmps63
        go_wp2
        go_ret
        exact ⟨by rw [HC.out]; rfl, HB.out⟩
    · skip
      have HC : Hid (cellB wd hi x y = false) := Lib.hid (by unfold cellB; rw [decide_eq_false (by omega)]; rfl)
      have d0 : decide (0 ≤ x) = true := decide_eq_true k0
      have d1 : decide (x < wd) = false := decide_eq_false k1
      clear k0 k1
      go_enter Try.func63, Try.ntmps63
      go_wp2
      go_ret
      exact ⟨by rw [HC.out]; rfl, HB.out⟩
  · skip
    have HC : Hid (cellB wd hi x y = false) := Lib.hid (by unfold cellB; rw [decide_eq_false (by omega)]; rfl)
    have d0 : decide (0 ≤ x) = false := decide_eq_false k0
    clear k0
    go_enter Try.func63, Try.ntmps63
    go_wp2
    go_ret
    exact ⟨by rw [HC.out]; rfl, HB.out⟩

theorem implIndexOf (wd hi x y : Int) (wb : Bool) (w : World) (k1 : 0 ≤ wd * y) (k2 : wd * y ≤ 256) (k3 : 0 ≤ x) (k4 : x ≤ 256) : Calls Try.prog 66 #[.agg #[.int .i64 wd, .int .i64 hi, .bool wb], .agg #[.int .i64 x, .int .i64 y]] w fun e w' => e = .returned (.int .i64 (x + wd * y)) ∧ Below w.heap.size w w' := by
  have B := ((Below.refl w.heap.size w).alloc (Nat.le_refl _) (.cells #[.int .i64 wd, .int .i64 hi, .bool wb] 82)).alloc (by simp) (.cells #[.int .i64 x, .int .i64 y] 85)
  have HB := Lib.hid B; clear B
  go_enter Try.func66, Try.ntmps66
  go_wp2
  go_ret
  exact ⟨rfl, HB.out⟩

theorem specCell (g : Nat) (wd hi x y : Int) (wb : Bool) (v3 v4 : Value) (w : World) (hg : Blk w g #[.int .i64 wd, .int .i64 hi, .bool wb, v3, v4] 29) (s1 : 3 ≤ wd) (s2 : wd ≤ 16) (s3 : 3 ≤ hi) (s4 : hi ≤ 16) : Calls Try.prog 57 #[.pointer (some ⟨g, 0, none⟩), .int .i64 x, .int .i64 y] w fun e w' => e = .returned (.bool (cellB wd hi x y)) ∧ w = w' := by
  obtain ⟨gc, gf⟩ := hg.open
  have hc : cellB wd hi x y = (decide (0 ≤ x ∧ x ≤ wd - 1) && decide (0 ≤ y ∧ y ≤ hi - 1)) := rfl
  rw [hc]; clear hc
  rcases h1 : decide (0 ≤ x ∧ x ≤ wd - 1) with _ | _
  · skip
    go_enter Try.func57, Try.ntmps57
    go_wp2_with (go_at_call 58; refine (l00In_any _ _ _ _).mono ?_; rintro e w' ⟨rfl, rfl⟩)
    go_ret
    exact ⟨rfl, rfl⟩
  rcases h2 : decide (0 ≤ y ∧ y ≤ hi - 1) with _ | _
  · skip
    go_enter Try.func57, Try.ntmps57
    go_wp2_with (go_at_call 58; refine (l00In_any _ _ _ _).mono ?_; rintro e w' ⟨rfl, rfl⟩)
    go_ret
    exact ⟨rfl, rfl⟩
  · skip
    go_enter Try.func57, Try.ntmps57
    go_wp2_with (go_at_call 58; refine (l00In_any _ _ _ _).mono ?_; rintro e w' ⟨rfl, rfl⟩)
    go_ret
    exact ⟨rfl, rfl⟩

end Go.Proofs.Ythlkndjllhdppaa

end
