/- Several texts in one: facts on floats, lists, memory and the functions that the theorems beside this text use. Conditions: none beyond those of each theorem. -/
import Derived.Test.YtkcododhfliobaaBu0
import Derived.Below
import Derived.Test.YtkcododhfliobaaBu2

set_option linter.unusedVariables false

section

namespace Go.Proofs.Ytkcododhfliobaa
open Go Go.RowKit
set_option linter.unusedVariables false

def seedB (n : Int) : Bool := decide (0 ≤ n ∧ n ≤ 2147483647)
def nextF (n : Int) : Int := (1103515245 * n + 12345) % 2147483648

theorem nextF_in (n : Int) : 0 ≤ nextF n ∧ nextF n ≤ 2147483647 := by unfold nextF; omega

theorem specSeed (n : Int) (w : World) : Calls Try.prog 66 #[.int .i64 n] w fun e w' => e = .returned (.bool (seedB n)) ∧ w = w' := by
  go_enter Try.func66, Try.ntmps66
  go_wp2_with (go_at_call 65; refine (l00In_any _ _ _ _).mono ?_; rintro e w' ⟨rfl, rfl⟩)
  go_ret
  exact ⟨by simp [seedB], rfl⟩

theorem implSeed (n : Int) (w : World) : Calls Try.prog 59 #[.int .i64 n] w fun e w' => e = .returned (.bool (seedB n)) ∧ w = w' := by
  by_cases h1 : 0 ≤ n
  · have d1 : decide (0 ≤ n) = true := decide_eq_true h1
    have hs : seedB n = decide (n < 2147483648) := by unfold seedB; rw [decide_eq_decide]; omega
    rw [hs]
    go_enter Try.func59, Try.ntmps59
    go_wp2
    go_ret
    exact ⟨rfl, rfl⟩
  · have d1 : decide (0 ≤ n) = false := decide_eq_false h1
    have hs : seedB n = false := by unfold seedB; rw [decide_eq_false]; omega
    rw [hs]
    go_enter Try.func59, Try.ntmps59
    go_wp2
    go_ret
    exact ⟨rfl, rfl⟩

theorem specNext (n : Int) (w : World) (h0 : 0 ≤ n) (h1 : n ≤ 2147483647) : Calls Try.prog 67 #[.int .i64 n] w fun e w' => e = .returned (.int .i64 (nextF n)) ∧ w = w' := by
  go_enter Try.func67, Try.ntmps67
  go_wp2
  go_ret
  exact ⟨rfl, rfl⟩

theorem implNext (n : Int) (w : World) (h0 : 0 ≤ n) (h1 : n ≤ 2147483647) : Calls Try.prog 68 #[.int .i64 n] w fun e w' => e = .returned (.int .i64 (nextF n)) ∧ w = w' := by
  go_enter Try.func68, Try.ntmps68
  go_wp2
  go_ret
  exact ⟨rfl, rfl⟩

def nextV (n : Int) : Int := if seedB n then nextF n else 0

theorem specNextSeed (n : Int) (w : World) : Calls Try.prog 27 #[.int .i64 n] w fun e w' => e = .returned (.tuple #[.int .i64 (nextV n), .bool (seedB n)]) ∧ w = w' := by
  rcases hs : seedB n with _ | _
  · have hn : nextV n = 0 := by unfold nextV; rw [hs]; rfl
    rw [hn]
    go_enter Try.func27, Try.ntmps27
    go_wp2_with (go_at_call 66; refine (specSeed _ _).mono ?_; rintro e w' ⟨rfl, rfl⟩)
    go_ret2
    exact ⟨rfl, rfl⟩
  · have hn : nextV n = nextF n := by unfold nextV; rw [hs]; rfl
    rw [hn]
    have hr : 0 ≤ n ∧ n ≤ 2147483647 := of_decide_eq_true hs
    go_enter Try.func27, Try.ntmps27
    go_wp2_with (first | (go_at_call 66; refine (specSeed _ _).mono ?_; rintro e w' ⟨rfl, rfl⟩) | (go_at_call 67; refine (specNext _ _ hr.1 hr.2).mono ?_; rintro e w' ⟨rfl, rfl⟩))
    go_ret2
    exact ⟨rfl, rfl⟩

theorem implNextSeed (n : Int) (w : World) : Calls Try.prog 28 #[.int .i64 n] w fun e w' => e = .returned (.tuple #[.int .i64 (nextV n), .bool (seedB n)]) ∧ w = w' := by
  rcases hs : seedB n with _ | _
  · have hn : nextV n = 0 := by unfold nextV; rw [hs]; rfl
    rw [hn]
    go_enter Try.func28, Try.ntmps28
    go_wp2_with (go_at_call 59; refine (implSeed _ _).mono ?_; rintro e w' ⟨rfl, rfl⟩)
    go_ret2
    exact ⟨rfl, rfl⟩
  · have hn : nextV n = nextF n := by unfold nextV; rw [hs]; rfl
    rw [hn]
    have hr : 0 ≤ n ∧ n ≤ 2147483647 := of_decide_eq_true hs
    go_enter Try.func28, Try.ntmps28
    go_wp2_with (first | (go_at_call 59; refine (implSeed _ _).mono ?_; rintro e w' ⟨rfl, rfl⟩) | (go_at_call 68; refine (implNext _ _ hr.1 hr.2).mono ?_; rintro e w' ⟨rfl, rfl⟩))
    go_ret2
    exact ⟨rfl, rfl⟩

theorem fnExactNextSeed_walk (n : Int) (w : World) (hn : (Lit.int .i64 n).wf = true) :
    Calls Try.prog 7 #[.int .i64 n] w fun e w' => e = .returned (.bool true) ∧ Below w.heap.size w w' := by
  go_enter Try.func7, Try.ntmps7
  go_wp2_with (first | (go_at_call 27; refine (specNextSeed _ _).mono ?_; rintro e w' ⟨rfl, rfl⟩) | (go_at_call 28; refine (implNextSeed _ _).mono ?_; rintro e w' ⟨rfl, rfl⟩))
  go_ret
  exact ⟨rfl, Below.refl _ _⟩
end Go.Proofs.Ytkcododhfliobaa

end

section

namespace Go.Proofs.Ytkcododhfliobaa
open Go Ieee Go.RowKit
set_option linter.unusedVariables false

def tickB (n : Int) : Bool := decide (0 ≤ n ∧ n ≤ 1000000)
def waveB (kd wt lg : Int) (tu : Nat) (sd : Int) : Bool := decide (0 ≤ kd ∧ kd ≤ 4) && (tickB wt && (decide (1 ≤ lg ∧ lg ≤ 1000000) && (finB .f32 tu && seedB sd)))

theorem waveB_parts {kd wt lg : Int} {tu : Nat} {sd : Int} (h : waveB kd wt lg tu sd = true) : (0 ≤ kd ∧ kd ≤ 4) ∧ (0 ≤ wt ∧ wt ≤ 1000000) ∧ (1 ≤ lg ∧ lg ≤ 1000000) ∧ finB .f32 tu = true ∧ (0 ≤ sd ∧ sd ≤ 2147483647) := by
  unfold waveB tickB seedB at h
  simp only [Bool.and_eq_true, decide_eq_true_eq] at h
  exact ⟨h.1, h.2.1, h.2.2.1, h.2.2.2.1, h.2.2.2.2⟩

theorem specTick (n : Int) (w : World) : Calls Try.prog 60 #[.int .i64 n] w fun e w' => e = .returned (.bool (tickB n)) ∧ w = w' := by
  go_enter Try.func60, Try.ntmps60
  go_wp2_with (go_at_call 65; refine (l00In_any _ _ _ _).mono ?_; rintro e w' ⟨rfl, rfl⟩)
  go_ret
  exact ⟨by simp [tickB], rfl⟩

theorem implTick (n : Int) (w : World) : Calls Try.prog 57 #[.int .i64 n] w fun e w' => e = .returned (.bool (tickB n)) ∧ w = w' := by
  by_cases h1 : 0 ≤ n
  · have d1 : decide (0 ≤ n) = true := decide_eq_true h1
    have hs : tickB n = decide (n ≤ 1000000) := by unfold tickB; rw [decide_eq_decide]; omega
    rw [hs]
    go_enter Try.func57, Try.ntmps57
    go_wp2
    go_ret
    exact ⟨rfl, rfl⟩
  · have d1 : decide (0 ≤ n) = false := decide_eq_false h1
    have hs : tickB n = false := by unfold tickB; rw [decide_eq_false]; omega
    rw [hs]
    go_enter Try.func57, Try.ntmps57
    go_wp2
    go_ret
    exact ⟨rfl, rfl⟩

set_option maxHeartbeats 4000000 in
theorem specIsWave (g : Nat) (kd wt lg : Int) (tu sz : Nat) (sd : Int) (w : World) (X : Blk w g #[.int .i64 kd, .int .i64 wt, .int .i64 lg, .float .f32 tu, .float .f32 sz, .int .i64 sd] 26) :
    Calls Try.prog 56 #[.pointer (some ⟨g, 0, none⟩)] w fun e w' => e = .returned (.bool (waveB kd wt lg tu sd)) ∧ ∃ n, w' = w.drewN n := by
  rcases H0 : decide (0 ≤ kd ∧ kd ≤ 4) with _ | _
  · skip
    have HV : Hid (waveB kd wt lg tu sd = false) := Lib.hid (by unfold waveB; rw [H0]; rfl)
    rw [HV.out]; clear HV
    obtain ⟨Xc, Xf⟩ := X.open
    go_enter Try.func56, Try.ntmps56
    go_wp2_with (first
        | (go_at_call 65; refine (l00In_any _ _ _ _).mono ?_; rintro e w' ⟨rfl, rfl⟩)
        | (go_at_call 60; refine (specTick _ _).mono ?_; rintro e w' ⟨rfl, rfl⟩)
        | (go_at_call 91; refine (specFinite _ _).mono ?_; rintro e w' ⟨rfl, nq, rfl⟩)
        | (go_at_call 66; refine (specSeed _ _).mono ?_; rintro e w' ⟨rfl, rfl⟩))
    go_ret
    exact ⟨rfl, 0, rfl⟩
  rcases H1 : tickB wt with _ | _
  · skip
    have HV : Hid (waveB kd wt lg tu sd = false) := Lib.hid (by unfold waveB; rw [H0, H1]; rfl)
    rw [HV.out]; clear HV
    obtain ⟨Xc, Xf⟩ := X.open
    go_enter Try.func56, Try.ntmps56
    go_wp2_with (first
        | (go_at_call 65; refine (l00In_any _ _ _ _).mono ?_; rintro e w' ⟨rfl, rfl⟩)
        | (go_at_call 60; refine (specTick _ _).mono ?_; rintro e w' ⟨rfl, rfl⟩)
        | (go_at_call 91; refine (specFinite _ _).mono ?_; rintro e w' ⟨rfl, nq, rfl⟩)
        | (go_at_call 66; refine (specSeed _ _).mono ?_; rintro e w' ⟨rfl, rfl⟩))
    go_ret
    exact ⟨rfl, 0, rfl⟩
  rcases H2 : decide (1 ≤ lg ∧ lg ≤ 1000000) with _ | _
  · skip
    have HV : Hid (waveB kd wt lg tu sd = false) := Lib.hid (by unfold waveB; rw [H0, H1, H2]; rfl)
    rw [HV.out]; clear HV
    obtain ⟨Xc, Xf⟩ := X.open
    go_enter Try.func56, Try.ntmps56
    go_wp2_with (first
        | (go_at_call 65; refine (l00In_any _ _ _ _).mono ?_; rintro e w' ⟨rfl, rfl⟩)
        | (go_at_call 60; refine (specTick _ _).mono ?_; rintro e w' ⟨rfl, rfl⟩)
        | (go_at_call 91; refine (specFinite _ _).mono ?_; rintro e w' ⟨rfl, nq, rfl⟩)
        | (go_at_call 66; refine (specSeed _ _).mono ?_; rintro e w' ⟨rfl, rfl⟩))
    go_ret
    exact ⟨rfl, 0, rfl⟩
  rcases H3 : finB .f32 tu with _ | _
  · skip
    have HV : Hid (waveB kd wt lg tu sd = false) := Lib.hid (by unfold waveB; rw [H0, H1, H2, H3]; rfl)
    rw [HV.out]; clear HV
    obtain ⟨Xc, Xf⟩ := X.open
    go_enter Try.func56, Try.ntmps56
    go_wp2_with (first
        | (go_at_call 65; refine (l00In_any _ _ _ _).mono ?_; rintro e w' ⟨rfl, rfl⟩)
        | (go_at_call 60; refine (specTick _ _).mono ?_; rintro e w' ⟨rfl, rfl⟩)
        | (go_at_call 91; refine (specFinite _ _).mono ?_; rintro e w' ⟨rfl, nq, rfl⟩)
        | (go_at_call 66; refine (specSeed _ _).mono ?_; rintro e w' ⟨rfl, rfl⟩))
    go_ret
    exact ⟨rfl, nq, rfl⟩
  rcases H4 : seedB sd with _ | _
  · skip
    have HV : Hid (waveB kd wt lg tu sd = false) := Lib.hid (by unfold waveB; rw [H0, H1, H2, H3, H4]; rfl)
    rw [HV.out]; clear HV
    obtain ⟨Xc, Xf⟩ := X.open
    go_enter Try.func56, Try.ntmps56
    go_wp2_with (first
        | (go_at_call 65; refine (l00In_any _ _ _ _).mono ?_; rintro e w' ⟨rfl, rfl⟩)
        | (go_at_call 60; refine (specTick _ _).mono ?_; rintro e w' ⟨rfl, rfl⟩)
        | (go_at_call 91; refine (specFinite _ _).mono ?_; rintro e w' ⟨rfl, nq, rfl⟩)
        | (go_at_call 66; refine (specSeed _ _).mono ?_; rintro e w' ⟨rfl, rfl⟩))
    go_ret
    exact ⟨rfl, nq, rfl⟩
  have HV : Hid (waveB kd wt lg tu sd = true) := Lib.hid (by unfold waveB; rw [H0, H1, H2, H3, H4]; rfl)
  rw [HV.out]; clear HV
  obtain ⟨Xc, Xf⟩ := X.open
  go_enter Try.func56, Try.ntmps56
  go_wp2_with (first
      | (go_at_call 65; refine (l00In_any _ _ _ _).mono ?_; rintro e w' ⟨rfl, rfl⟩)
      | (go_at_call 60; refine (specTick _ _).mono ?_; rintro e w' ⟨rfl, rfl⟩)
      | (go_at_call 91; refine (specFinite _ _).mono ?_; rintro e w' ⟨rfl, nq, rfl⟩)
      | (go_at_call 66; refine (specSeed _ _).mono ?_; rintro e w' ⟨rfl, rfl⟩))
  go_ret
  exact ⟨rfl, nq, rfl⟩

set_option maxHeartbeats 4000000 in
theorem implValidWave (kd wt lg : Int) (tu sz : Nat) (sd : Int) (w : World) (hb : tu < 2 ^ 32) :
    Calls Try.prog 15 #[.agg #[.int .i64 kd, .int .i64 wt, .int .i64 lg, .float .f32 tu, .float .f32 sz, .int .i64 sd]] w fun e w' => e = .returned (.bool (waveB kd wt lg tu sd)) ∧ Below w.heap.size w w' := by
  rcases H0 : decide (0 ≤ kd) with _ | _
  · skip
    have HV : Hid (waveB kd wt lg tu sd = false) := Lib.hid (by unfold waveB; rw [decide_eq_false (show ¬ (0 ≤ kd ∧ kd ≤ 4) by simp at H0; omega)]; rfl)
    rw [HV.out]; clear HV
    have X := Blk.new w #[.int .i64 kd, .int .i64 wt, .int .i64 lg, .float .f32 tu, .float .f32 sz, .int .i64 sd] 26
    have HB : Hid (Below w.heap.size w (w.alloc (.cells #[.int .i64 kd, .int .i64 wt, .int .i64 lg, .float .f32 tu, .float .f32 sz, .int .i64 sd] 26))) := Lib.hid ((Below.refl w.heap.size w).alloc (Nat.le_refl _) _)
    go_enter Try.func15, Try.ntmps15
    skip
    obtain ⟨Xc, Xf⟩ := X.open
    go_wp2_with (first
        | (go_at_call 57; refine (implTick _ _).mono ?_; rintro e w' ⟨rfl, rfl⟩)
        | (go_at_call 58; refine (implFinite _ _ hb).mono ?_; rintro e w' ⟨rfl, nq, rfl⟩)
        | (go_at_call 59; refine (implSeed _ _).mono ?_; rintro e w' ⟨rfl, rfl⟩))
    go_ret
    exact ⟨rfl, HB.out⟩
  rcases H1 : decide (kd ≤ 4) with _ | _
  · skip
    have HV : Hid (waveB kd wt lg tu sd = false) := Lib.hid (by unfold waveB; rw [decide_eq_false (show ¬ (0 ≤ kd ∧ kd ≤ 4) by simp at H1; omega)]; rfl)
    rw [HV.out]; clear HV
    have X := Blk.new w #[.int .i64 kd, .int .i64 wt, .int .i64 lg, .float .f32 tu, .float .f32 sz, .int .i64 sd] 26
    have HB : Hid (Below w.heap.size w (w.alloc (.cells #[.int .i64 kd, .int .i64 wt, .int .i64 lg, .float .f32 tu, .float .f32 sz, .int .i64 sd] 26))) := Lib.hid ((Below.refl w.heap.size w).alloc (Nat.le_refl _) _)
    go_enter Try.func15, Try.ntmps15
    skip
    obtain ⟨Xc, Xf⟩ := X.open
    go_wp2_with (first
        | (go_at_call 57; refine (implTick _ _).mono ?_; rintro e w' ⟨rfl, rfl⟩)
        | (go_at_call 58; refine (implFinite _ _ hb).mono ?_; rintro e w' ⟨rfl, nq, rfl⟩)
        | (go_at_call 59; refine (implSeed _ _).mono ?_; rintro e w' ⟨rfl, rfl⟩))
    go_ret
    exact ⟨rfl, HB.out⟩
  rcases H2 : tickB wt with _ | _
  · skip
    have HV : Hid (waveB kd wt lg tu sd = false) := Lib.hid (by unfold waveB; rw [decide_eq_true (show 0 ≤ kd ∧ kd ≤ 4 by simp at H0 H1; omega)]; rw [H2]; rfl)
    rw [HV.out]; clear HV
    have X := Blk.new w #[.int .i64 kd, .int .i64 wt, .int .i64 lg, .float .f32 tu, .float .f32 sz, .int .i64 sd] 26
    have HB : Hid (Below w.heap.size w (w.alloc (.cells #[.int .i64 kd, .int .i64 wt, .int .i64 lg, .float .f32 tu, .float .f32 sz, .int .i64 sd] 26))) := Lib.hid ((Below.refl w.heap.size w).alloc (Nat.le_refl _) _)
    go_enter Try.func15, Try.ntmps15
    skip
    obtain ⟨Xc, Xf⟩ := X.open
    go_wp2_with (first
        | (go_at_call 57; refine (implTick _ _).mono ?_; rintro e w' ⟨rfl, rfl⟩)
        | (go_at_call 58; refine (implFinite _ _ hb).mono ?_; rintro e w' ⟨rfl, nq, rfl⟩)
        | (go_at_call 59; refine (implSeed _ _).mono ?_; rintro e w' ⟨rfl, rfl⟩))
    go_ret
    exact ⟨rfl, HB.out⟩
  rcases H3 : decide (1 ≤ lg) with _ | _
  · skip
    have HV : Hid (waveB kd wt lg tu sd = false) := Lib.hid (by unfold waveB; rw [decide_eq_true (show 0 ≤ kd ∧ kd ≤ 4 by simp at H0 H1; omega)]; rw [decide_eq_false (show ¬ (1 ≤ lg ∧ lg ≤ 1000000) by simp at H3; omega)]; rw [H2]; rfl)
    rw [HV.out]; clear HV
    have X := Blk.new w #[.int .i64 kd, .int .i64 wt, .int .i64 lg, .float .f32 tu, .float .f32 sz, .int .i64 sd] 26
    have HB : Hid (Below w.heap.size w (w.alloc (.cells #[.int .i64 kd, .int .i64 wt, .int .i64 lg, .float .f32 tu, .float .f32 sz, .int .i64 sd] 26))) := Lib.hid ((Below.refl w.heap.size w).alloc (Nat.le_refl _) _)
    go_enter Try.func15, Try.ntmps15
    skip
    obtain ⟨Xc, Xf⟩ := X.open
    go_wp2_with (first
        | (go_at_call 57; refine (implTick _ _).mono ?_; rintro e w' ⟨rfl, rfl⟩)
        | (go_at_call 58; refine (implFinite _ _ hb).mono ?_; rintro e w' ⟨rfl, nq, rfl⟩)
        | (go_at_call 59; refine (implSeed _ _).mono ?_; rintro e w' ⟨rfl, rfl⟩))
    go_ret
    exact ⟨rfl, HB.out⟩
  rcases H4 : decide (lg ≤ 1000000) with _ | _
  · skip
    have HV : Hid (waveB kd wt lg tu sd = false) := Lib.hid (by unfold waveB; rw [decide_eq_true (show 0 ≤ kd ∧ kd ≤ 4 by simp at H0 H1; omega)]; rw [decide_eq_false (show ¬ (1 ≤ lg ∧ lg ≤ 1000000) by simp at H4; omega)]; rw [H2]; rfl)
    rw [HV.out]; clear HV
    have X := Blk.new w #[.int .i64 kd, .int .i64 wt, .int .i64 lg, .float .f32 tu, .float .f32 sz, .int .i64 sd] 26
    have HB : Hid (Below w.heap.size w (w.alloc (.cells #[.int .i64 kd, .int .i64 wt, .int .i64 lg, .float .f32 tu, .float .f32 sz, .int .i64 sd] 26))) := Lib.hid ((Below.refl w.heap.size w).alloc (Nat.le_refl _) _)
    go_enter Try.func15, Try.ntmps15
    skip
    obtain ⟨Xc, Xf⟩ := X.open
    go_wp2_with (first
        | (go_at_call 57; refine (implTick _ _).mono ?_; rintro e w' ⟨rfl, rfl⟩)
        | (go_at_call 58; refine (implFinite _ _ hb).mono ?_; rintro e w' ⟨rfl, nq, rfl⟩)
        | (go_at_call 59; refine (implSeed _ _).mono ?_; rintro e w' ⟨rfl, rfl⟩))
    go_ret
    exact ⟨rfl, HB.out⟩
  rcases H5 : finB .f32 tu with _ | _
  · skip
    have HV : Hid (waveB kd wt lg tu sd = false) := Lib.hid (by unfold waveB; rw [decide_eq_true (show 0 ≤ kd ∧ kd ≤ 4 by simp at H0 H1; omega)]; rw [decide_eq_true (show 1 ≤ lg ∧ lg ≤ 1000000 by simp at H3 H4; omega)]; rw [H2]; rw [H5]; rfl)
    rw [HV.out]; clear HV
    have X := Blk.new w #[.int .i64 kd, .int .i64 wt, .int .i64 lg, .float .f32 tu, .float .f32 sz, .int .i64 sd] 26
    have HB : Hid (Below w.heap.size w (w.alloc (.cells #[.int .i64 kd, .int .i64 wt, .int .i64 lg, .float .f32 tu, .float .f32 sz, .int .i64 sd] 26))) := Lib.hid ((Below.refl w.heap.size w).alloc (Nat.le_refl _) _)
    go_enter Try.func15, Try.ntmps15
    skip
    obtain ⟨Xc, Xf⟩ := X.open
    go_wp2_with (first
        | (go_at_call 57; refine (implTick _ _).mono ?_; rintro e w' ⟨rfl, rfl⟩)
        | (go_at_call 58; refine (implFinite _ _ hb).mono ?_; rintro e w' ⟨rfl, nq, rfl⟩)
        | (go_at_call 59; refine (implSeed _ _).mono ?_; rintro e w' ⟨rfl, rfl⟩))
    go_ret
    exact ⟨rfl, below_drewN HB.out _⟩
  rcases H6 : seedB sd with _ | _
  · skip
    have HV : Hid (waveB kd wt lg tu sd = false) := Lib.hid (by unfold waveB; rw [decide_eq_true (show 0 ≤ kd ∧ kd ≤ 4 by simp at H0 H1; omega)]; rw [decide_eq_true (show 1 ≤ lg ∧ lg ≤ 1000000 by simp at H3 H4; omega)]; rw [H2]; rw [H5]; rw [H6]; rfl)
    rw [HV.out]; clear HV
    have X := Blk.new w #[.int .i64 kd, .int .i64 wt, .int .i64 lg, .float .f32 tu, .float .f32 sz, .int .i64 sd] 26
    have HB : Hid (Below w.heap.size w (w.alloc (.cells #[.int .i64 kd, .int .i64 wt, .int .i64 lg, .float .f32 tu, .float .f32 sz, .int .i64 sd] 26))) := Lib.hid ((Below.refl w.heap.size w).alloc (Nat.le_refl _) _)
    go_enter Try.func15, Try.ntmps15
    skip
    obtain ⟨Xc, Xf⟩ := X.open
    go_wp2_with (first
        | (go_at_call 57; refine (implTick _ _).mono ?_; rintro e w' ⟨rfl, rfl⟩)
        | (go_at_call 58; refine (implFinite _ _ hb).mono ?_; rintro e w' ⟨rfl, nq, rfl⟩)
        | (go_at_call 59; refine (implSeed _ _).mono ?_; rintro e w' ⟨rfl, rfl⟩))
    go_ret
    exact ⟨rfl, below_drewN HB.out _⟩
  have HV : Hid (waveB kd wt lg tu sd = true) := Lib.hid (by unfold waveB; rw [decide_eq_true (show 0 ≤ kd ∧ kd ≤ 4 by simp at H0 H1; omega)]; rw [decide_eq_true (show 1 ≤ lg ∧ lg ≤ 1000000 by simp at H3 H4; omega)]; rw [H2]; rw [H5]; rw [H6]; rfl)
  rw [HV.out]; clear HV
  have X := Blk.new w #[.int .i64 kd, .int .i64 wt, .int .i64 lg, .float .f32 tu, .float .f32 sz, .int .i64 sd] 26
  have HB : Hid (Below w.heap.size w (w.alloc (.cells #[.int .i64 kd, .int .i64 wt, .int .i64 lg, .float .f32 tu, .float .f32 sz, .int .i64 sd] 26))) := Lib.hid ((Below.refl w.heap.size w).alloc (Nat.le_refl _) _)
  go_enter Try.func15, Try.ntmps15
  skip
  obtain ⟨Xc, Xf⟩ := X.open
  go_wp2_with (first
      | (go_at_call 57; refine (implTick _ _).mono ?_; rintro e w' ⟨rfl, rfl⟩)
      | (go_at_call 58; refine (implFinite _ _ hb).mono ?_; rintro e w' ⟨rfl, nq, rfl⟩)
      | (go_at_call 59; refine (implSeed _ _).mono ?_; rintro e w' ⟨rfl, rfl⟩))
  go_ret
  exact ⟨rfl, below_drewN HB.out _⟩

theorem specValidWave (kd wt lg : Int) (tu sz : Nat) (sd : Int) (w : World) : Calls Try.prog 13 #[.agg #[.int .i64 kd, .int .i64 wt, .int .i64 lg, .float .f32 tu, .float .f32 sz, .int .i64 sd]] w fun e w' => e = .returned (.bool (waveB kd wt lg tu sd)) ∧ Below w.heap.size w w' := by
  have X := Blk.new w #[.int .i64 kd, .int .i64 wt, .int .i64 lg, .float .f32 tu, .float .f32 sz, .int .i64 sd] 26
  have HB : Hid (Below w.heap.size w (w.alloc (.cells #[.int .i64 kd, .int .i64 wt, .int .i64 lg, .float .f32 tu, .float .f32 sz, .int .i64 sd] 26))) := Lib.hid ((Below.refl w.heap.size w).alloc (Nat.le_refl _) _)
  go_enter Try.func13, Try.ntmps13
  go_wp2_with (go_at_call 56; refine (specIsWave _ _ _ _ _ _ _ _ X).mono ?_; rintro e w' ⟨rfl, nq, rfl⟩)
  go_ret
  exact ⟨rfl, below_drewN HB.out _⟩

end Go.Proofs.Ytkcododhfliobaa

end

section

namespace Go.Proofs.Ytkcododhfliobaa
open Go Ieee Go.RowKit
set_option linter.unusedVariables false

set_option maxHeartbeats 2000000 in
theorem toWave_any (kd wt lg : Int) (tu sz : Nat) (sd : Int) (w : World) : Calls Try.prog 14 #[.agg #[.int .i64 kd, .int .i64 wt, .int .i64 lg, .float .f32 tu, .float .f32 sz, .int .i64 sd]] w fun e w' => e = .returned (.agg #[.int .i64 kd, .int .i64 wt, .int .i64 lg, .float .f32 tu, .float .f32 sz, .int .i64 sd]) ∧ Below w.heap.size w w' := by
  go_enter Try.func14, Try.ntmps14
  go_wp2
  refine bodyPost_ret (v := .agg #[.int .i64 kd, .int .i64 wt, .int .i64 lg, .float .f32 tu, .float .f32 sz, .int .i64 sd]) (by simp [results, Try.results14, go_sem]) rfl ⟨rfl, ?_⟩
  exact ((((Below.refl w.heap.size w).alloc (Nat.le_refl _) _).alloc (by simp) _).alloc (by simp <;> omega) _)

set_option maxHeartbeats 400000 in
set_option maxRecDepth 100000 in
theorem eqWave_any (kd wt lg : Int) (t1 t2 s1 s2 : Nat) (sd : Int) (w : World) (b1 : t1 < 2 ^ 32) (b2 : t2 < 2 ^ 32) (c1 : s1 < 2 ^ 32) (c2 : s2 < 2 ^ 32) (ht : canon .f32 t1 = canon .f32 t2) (hs : canon .f32 s1 = canon .f32 s2) :
    Calls Try.prog 26 #[.agg #[.int .i64 kd, .int .i64 wt, .int .i64 lg, .float .f32 t1, .float .f32 s1, .int .i64 sd], .agg #[.int .i64 kd, .int .i64 wt, .int .i64 lg, .float .f32 t2, .float .f32 s2, .int .i64 sd]] w fun e w' => e = .returned (.bool true) ∧ Below w.heap.size w w' := by
  have HT := Lib.hid ht; have HS := Lib.hid hs; clear ht hs
  replace b1 : t1 < 2 ^ FloatKind.f32.format.width := b1; replace b2 : t2 < 2 ^ FloatKind.f32.format.width := b2
  replace c1 : s1 < 2 ^ FloatKind.f32.format.width := c1; replace c2 : s2 < 2 ^ FloatKind.f32.format.width := c2
  have HB : Hid (Below w.heap.size w ((w.alloc (.cells #[.int .i64 kd, .int .i64 wt, .int .i64 lg, .float .f32 t1, .float .f32 s1, .int .i64 sd] 26)).alloc (.cells #[.int .i64 kd, .int .i64 wt, .int .i64 lg, .float .f32 t2, .float .f32 s2, .int .i64 sd] 26))) := Lib.hid (((Below.refl w.heap.size w).alloc (Nat.le_refl _) _).alloc (by simp) _)
  go_enter Try.func26, Try.ntmps26
  have tk1 : True := trivial; have tk2 : True := trivial; have tk3 : True := trivial; have tk4 : True := trivial; have tk5 : True := trivial; have tk6 : True := trivial
  go_wp2_with (first
    | (have _t := tk1; refine wpList_conv rfl 22 32 _ rfl .f32 .f64 (by decide) _ rfl Try.underlying22 Try.underlying32 b1 (fits_widen _) ?_; intro v1 n1 e1 g1; have E1 := Lib.hid e1; clear e1 _t tk1)
    | (have _t := tk2; refine wpList_conv rfl 22 32 _ rfl .f32 .f64 (by decide) _ rfl Try.underlying22 Try.underlying32 b2 (fits_widen _) ?_; intro v2 n2 e2 g2; have E2 := Lib.hid e2; clear e2 _t tk2)
    | (have _t := tk3; refine wpList_conv rfl 22 32 _ rfl .f32 .f64 (by decide) _ rfl Try.underlying22 Try.underlying32 c1 (fits_widen _) ?_; intro v3 n3 e3 g3; have E3 := Lib.hid e3; clear e3 _t tk3)
    | (have _t := tk4; refine wpList_conv rfl 22 32 _ rfl .f32 .f64 (by decide) _ rfl Try.underlying22 Try.underlying32 c2 (fits_widen _) ?_; intro v4 n4 e4 g4; have E4 := Lib.hid e4; clear e4 _t tk4)
    | (go_at_call 18; have _t := tk5; clear _t tk5; with_reducible refine (sameFloat_any _ _ _ (conv_same E1 E2 HT (Lib.hid rfl))).mono ?_; rintro e w' ⟨rfl, nq, rfl⟩)
    | (go_at_call 18; have _t := tk6; clear _t tk6; with_reducible refine (sameFloat_any _ _ _ (conv_same E3 E4 HS (Lib.hid rfl))).mono ?_; rintro e w' ⟨rfl, nr, rfl⟩))
  go_ret
  exact ⟨rfl, below_drewN HB.out _⟩

end Go.Proofs.Ytkcododhfliobaa

end

section

namespace Go.Proofs.Ytkcododhfliobaa
open Go Ieee Go.RowKit
set_option linter.unusedVariables false

def laterB (kd wt lg : Int) (tu : Nat) (sd by_ : Int) : Bool := waveB kd wt lg tu sd && (decide (-1000000 ≤ by_ ∧ by_ ≤ 1000000) && tickB (wt + by_))

theorem waveB_later {kd wt lg : Int} {tu : Nat} {sd by_ : Int} (h : waveB kd wt lg tu sd = true) : waveB kd (wt + by_) lg tu sd = tickB (wt + by_) := by
  unfold waveB at *
  simp only [Bool.and_eq_true] at h
  rw [h.1, h.2.2.1, h.2.2.2.1, h.2.2.2.2]
  simp

set_option maxHeartbeats 800000 in
set_option maxRecDepth 100000 in
theorem implLaterNo0 (kd wt lg : Int) (tu sz : Nat) (sd : Int) (by_ : Int) (w : World) (hb : tu < 2 ^ 32) (h0 : waveB kd wt lg tu sd = false) :
    Calls Try.prog 25 #[.agg #[.int .i64 kd, .int .i64 wt, .int .i64 lg, .float .f32 tu, .float .f32 sz, .int .i64 sd], .int .i64 by_] w fun e w' => e = .returned (.tuple #[.agg #[.int .i64 0, .int .i64 0, .int .i64 0, .float .f32 0, .float .f32 0, .int .i64 0], .bool false]) ∧ Below w.heap.size w w' := by
  have X := Blk.new w #[.int .i64 kd, .int .i64 wt, .int .i64 lg, .float .f32 tu, .float .f32 sz, .int .i64 sd] 26
  have HB : Hid (Below w.heap.size w ((w.alloc (.cells #[.int .i64 kd, .int .i64 wt, .int .i64 lg, .float .f32 tu, .float .f32 sz, .int .i64 sd] 26)).alloc (.cells #[.int .i64 0, .int .i64 0, .int .i64 0, .float .f32 0, .float .f32 0, .int .i64 0] 26))) := Lib.hid (((Below.refl w.heap.size w).alloc (Nat.le_refl _) _).alloc (by simp) _)
  obtain ⟨Xc, Xf⟩ := (X.alloc (.cells #[.int .i64 0, .int .i64 0, .int .i64 0, .float .f32 0, .float .f32 0, .int .i64 0] 26)).open
  go_enter Try.func25, Try.ntmps25
  have tk1 : True := trivial; have tk2 : True := trivial
  go_wp2_with fail
  refine (implValidWave _ _ _ _ _ _ _ hb).mono ?_
  rintro e v1 ⟨rfl, q⟩
  rw [h0]
  replace X := (X.alloc (.cells #[.int .i64 0, .int .i64 0, .int .i64 0, .float .f32 0, .float .f32 0, .int .i64 0] 26)).later q
  have Y := (Blk.new1 w (.cells #[.int .i64 kd, .int .i64 wt, .int .i64 lg, .float .f32 tu, .float .f32 sz, .int .i64 sd] 26) #[.int .i64 0, .int .i64 0, .int .i64 0, .float .f32 0, .float .f32 0, .int .i64 0] 26).later q
  replace HB := Lib.hid (HB.out.trans (q.mono HB.out.size))
  clear Xc Xf q
  obtain ⟨Xc, Xf⟩ := X.open; obtain ⟨Yc, Yf⟩ := Y.open
  go_wp2
  refine bodyPost_ret (v := .tuple #[.agg #[.int .i64 0, .int .i64 0, .int .i64 0, .float .f32 0, .float .f32 0, .int .i64 0], .bool false]) (by simp [results, Try.results25, go_sem, Yc]) rfl ⟨rfl, ?_⟩
  exact ((((((HB.out.setCell (p := ⟨w.heap.size + 1, 0, none⟩) (by simp <;> omega) _).setCell (p := ⟨w.heap.size + 1, 1, none⟩) (by simp <;> omega) _).setCell (p := ⟨w.heap.size + 1, 2, none⟩) (by simp <;> omega) _).setCell (p := ⟨w.heap.size + 1, 3, none⟩) (by simp <;> omega) _).setCell (p := ⟨w.heap.size + 1, 4, none⟩) (by simp <;> omega) _).setCell (p := ⟨w.heap.size + 1, 5, none⟩) (by simp <;> omega) _)

set_option maxHeartbeats 800000 in
set_option maxRecDepth 100000 in
theorem implLaterNo1 (kd wt lg : Int) (tu sz : Nat) (sd : Int) (by_ : Int) (w : World) (hb : tu < 2 ^ 32) (h0 : waveB kd wt lg tu sd = true) (h1 : ¬ (-1000000 ≤ by_)) :
    Calls Try.prog 25 #[.agg #[.int .i64 kd, .int .i64 wt, .int .i64 lg, .float .f32 tu, .float .f32 sz, .int .i64 sd], .int .i64 by_] w fun e w' => e = .returned (.tuple #[.agg #[.int .i64 0, .int .i64 0, .int .i64 0, .float .f32 0, .float .f32 0, .int .i64 0], .bool false]) ∧ Below w.heap.size w w' := by
  have hr := (waveB_parts h0).2.1
  have X := Blk.new w #[.int .i64 kd, .int .i64 wt, .int .i64 lg, .float .f32 tu, .float .f32 sz, .int .i64 sd] 26
  have HB : Hid (Below w.heap.size w ((w.alloc (.cells #[.int .i64 kd, .int .i64 wt, .int .i64 lg, .float .f32 tu, .float .f32 sz, .int .i64 sd] 26)).alloc (.cells #[.int .i64 0, .int .i64 0, .int .i64 0, .float .f32 0, .float .f32 0, .int .i64 0] 26))) := Lib.hid (((Below.refl w.heap.size w).alloc (Nat.le_refl _) _).alloc (by simp) _)
  obtain ⟨Xc, Xf⟩ := (X.alloc (.cells #[.int .i64 0, .int .i64 0, .int .i64 0, .float .f32 0, .float .f32 0, .int .i64 0] 26)).open
  go_enter Try.func25, Try.ntmps25
  have tk1 : True := trivial; have tk2 : True := trivial
  go_wp2_with fail
  refine (implValidWave _ _ _ _ _ _ _ hb).mono ?_
  rintro e v1 ⟨rfl, q⟩
  rw [h0]
  replace X := (X.alloc (.cells #[.int .i64 0, .int .i64 0, .int .i64 0, .float .f32 0, .float .f32 0, .int .i64 0] 26)).later q
  have Y := (Blk.new1 w (.cells #[.int .i64 kd, .int .i64 wt, .int .i64 lg, .float .f32 tu, .float .f32 sz, .int .i64 sd] 26) #[.int .i64 0, .int .i64 0, .int .i64 0, .float .f32 0, .float .f32 0, .int .i64 0] 26).later q
  replace HB := Lib.hid (HB.out.trans (q.mono HB.out.size))
  clear Xc Xf q
  obtain ⟨Xc, Xf⟩ := X.open; obtain ⟨Yc, Yf⟩ := Y.open
  go_wp2
  refine bodyPost_ret (v := .tuple #[.agg #[.int .i64 0, .int .i64 0, .int .i64 0, .float .f32 0, .float .f32 0, .int .i64 0], .bool false]) (by simp [results, Try.results25, go_sem, Yc]) rfl ⟨rfl, ?_⟩
  exact ((((((HB.out.setCell (p := ⟨w.heap.size + 1, 0, none⟩) (by simp <;> omega) _).setCell (p := ⟨w.heap.size + 1, 1, none⟩) (by simp <;> omega) _).setCell (p := ⟨w.heap.size + 1, 2, none⟩) (by simp <;> omega) _).setCell (p := ⟨w.heap.size + 1, 3, none⟩) (by simp <;> omega) _).setCell (p := ⟨w.heap.size + 1, 4, none⟩) (by simp <;> omega) _).setCell (p := ⟨w.heap.size + 1, 5, none⟩) (by simp <;> omega) _)

set_option maxHeartbeats 800000 in
set_option maxRecDepth 100000 in
theorem implLaterNo2 (kd wt lg : Int) (tu sz : Nat) (sd : Int) (by_ : Int) (w : World) (hb : tu < 2 ^ 32) (h0 : waveB kd wt lg tu sd = true) (h1 : -1000000 ≤ by_) (h2 : ¬ (by_ ≤ 1000000)) :
    Calls Try.prog 25 #[.agg #[.int .i64 kd, .int .i64 wt, .int .i64 lg, .float .f32 tu, .float .f32 sz, .int .i64 sd], .int .i64 by_] w fun e w' => e = .returned (.tuple #[.agg #[.int .i64 0, .int .i64 0, .int .i64 0, .float .f32 0, .float .f32 0, .int .i64 0], .bool false]) ∧ Below w.heap.size w w' := by
  have hr := (waveB_parts h0).2.1
  have X := Blk.new w #[.int .i64 kd, .int .i64 wt, .int .i64 lg, .float .f32 tu, .float .f32 sz, .int .i64 sd] 26
  have HB : Hid (Below w.heap.size w ((w.alloc (.cells #[.int .i64 kd, .int .i64 wt, .int .i64 lg, .float .f32 tu, .float .f32 sz, .int .i64 sd] 26)).alloc (.cells #[.int .i64 0, .int .i64 0, .int .i64 0, .float .f32 0, .float .f32 0, .int .i64 0] 26))) := Lib.hid (((Below.refl w.heap.size w).alloc (Nat.le_refl _) _).alloc (by simp) _)
  obtain ⟨Xc, Xf⟩ := (X.alloc (.cells #[.int .i64 0, .int .i64 0, .int .i64 0, .float .f32 0, .float .f32 0, .int .i64 0] 26)).open
  go_enter Try.func25, Try.ntmps25
  have tk1 : True := trivial; have tk2 : True := trivial
  go_wp2_with fail
  refine (implValidWave _ _ _ _ _ _ _ hb).mono ?_
  rintro e v1 ⟨rfl, q⟩
  rw [h0]
  replace X := (X.alloc (.cells #[.int .i64 0, .int .i64 0, .int .i64 0, .float .f32 0, .float .f32 0, .int .i64 0] 26)).later q
  have Y := (Blk.new1 w (.cells #[.int .i64 kd, .int .i64 wt, .int .i64 lg, .float .f32 tu, .float .f32 sz, .int .i64 sd] 26) #[.int .i64 0, .int .i64 0, .int .i64 0, .float .f32 0, .float .f32 0, .int .i64 0] 26).later q
  replace HB := Lib.hid (HB.out.trans (q.mono HB.out.size))
  clear Xc Xf q
  obtain ⟨Xc, Xf⟩ := X.open; obtain ⟨Yc, Yf⟩ := Y.open
  go_wp2
  refine bodyPost_ret (v := .tuple #[.agg #[.int .i64 0, .int .i64 0, .int .i64 0, .float .f32 0, .float .f32 0, .int .i64 0], .bool false]) (by simp [results, Try.results25, go_sem, Yc]) rfl ⟨rfl, ?_⟩
  exact ((((((HB.out.setCell (p := ⟨w.heap.size + 1, 0, none⟩) (by simp <;> omega) _).setCell (p := ⟨w.heap.size + 1, 1, none⟩) (by simp <;> omega) _).setCell (p := ⟨w.heap.size + 1, 2, none⟩) (by simp <;> omega) _).setCell (p := ⟨w.heap.size + 1, 3, none⟩) (by simp <;> omega) _).setCell (p := ⟨w.heap.size + 1, 4, none⟩) (by simp <;> omega) _).setCell (p := ⟨w.heap.size + 1, 5, none⟩) (by simp <;> omega) _)

set_option maxHeartbeats 800000 in
set_option maxRecDepth 100000 in
theorem implLaterNo3 (kd wt lg : Int) (tu sz : Nat) (sd : Int) (by_ : Int) (w : World) (hb : tu < 2 ^ 32) (h0 : waveB kd wt lg tu sd = true) (h1 : -1000000 ≤ by_) (h2 : by_ ≤ 1000000) (h3 : tickB (wt + by_) = false) :
    Calls Try.prog 25 #[.agg #[.int .i64 kd, .int .i64 wt, .int .i64 lg, .float .f32 tu, .float .f32 sz, .int .i64 sd], .int .i64 by_] w fun e w' => e = .returned (.tuple #[.agg #[.int .i64 0, .int .i64 0, .int .i64 0, .float .f32 0, .float .f32 0, .int .i64 0], .bool false]) ∧ Below w.heap.size w w' := by
  have hr := (waveB_parts h0).2.1
  have h4 : waveB kd (wt + by_) lg tu sd = false := (waveB_later h0).trans h3
  have X := Blk.new w #[.int .i64 kd, .int .i64 wt, .int .i64 lg, .float .f32 tu, .float .f32 sz, .int .i64 sd] 26
  have HB : Hid (Below w.heap.size w ((w.alloc (.cells #[.int .i64 kd, .int .i64 wt, .int .i64 lg, .float .f32 tu, .float .f32 sz, .int .i64 sd] 26)).alloc (.cells #[.int .i64 0, .int .i64 0, .int .i64 0, .float .f32 0, .float .f32 0, .int .i64 0] 26))) := Lib.hid (((Below.refl w.heap.size w).alloc (Nat.le_refl _) _).alloc (by simp) _)
  obtain ⟨Xc, Xf⟩ := (X.alloc (.cells #[.int .i64 0, .int .i64 0, .int .i64 0, .float .f32 0, .float .f32 0, .int .i64 0] 26)).open
  go_enter Try.func25, Try.ntmps25
  have tk1 : True := trivial; have tk2 : True := trivial
  go_wp2_with fail
  refine (implValidWave _ _ _ _ _ _ _ hb).mono ?_
  rintro e v1 ⟨rfl, q⟩
  rw [h0]
  replace X := (X.alloc (.cells #[.int .i64 0, .int .i64 0, .int .i64 0, .float .f32 0, .float .f32 0, .int .i64 0] 26)).later q
  have Y := (Blk.new1 w (.cells #[.int .i64 kd, .int .i64 wt, .int .i64 lg, .float .f32 tu, .float .f32 sz, .int .i64 sd] 26) #[.int .i64 0, .int .i64 0, .int .i64 0, .float .f32 0, .float .f32 0, .int .i64 0] 26).later q
  replace HB := Lib.hid (HB.out.trans (q.mono HB.out.size))
  clear Xc Xf q
  obtain ⟨Xc, Xf⟩ := X.open; obtain ⟨Yc, Yf⟩ := Y.open
  go_wp2_with fail
  have X2 : Blk (v1.setCell ⟨w.heap.size, 1, none⟩ (.int .i64 (wt + by_))) w.heap.size #[.int .i64 kd, .int .i64 (wt + by_), .int .i64 lg, .float .f32 tu, .float .f32 sz, .int .i64 sd] 26 := X.set 1 (.int .i64 (wt + by_))
  have Y2 := Y.setOther (p := ⟨w.heap.size, 1, none⟩) (by simp <;> omega) (.int .i64 (wt + by_))
  replace HB := Lib.hid (HB.out.setCell (p := ⟨w.heap.size, 1, none⟩) (by simp) (.int .i64 (wt + by_)))
  clear Xc Xf Yc Yf X Y
  generalize v1.setCell ⟨w.heap.size, 1, none⟩ (.int .i64 (wt + by_)) = v2 at *
  refine (implValidWave _ _ _ _ _ _ _ hb).mono ?_
  rintro e v3 ⟨rfl, q⟩
  rw [h4]
  replace X2 := X2.later q; replace Y2 := Y2.later q
  replace HB := Lib.hid (HB.out.trans (q.mono HB.out.size))
  clear q
  obtain ⟨Xc, Xf⟩ := X2.open; obtain ⟨Yc, Yf⟩ := Y2.open
  go_wp2
  refine bodyPost_ret (v := .tuple #[.agg #[.int .i64 0, .int .i64 0, .int .i64 0, .float .f32 0, .float .f32 0, .int .i64 0], .bool false]) (by simp [results, Try.results25, go_sem, Yc]) rfl ⟨rfl, ?_⟩
  exact ((((((HB.out.setCell (p := ⟨w.heap.size + 1, 0, none⟩) (by simp <;> omega) _).setCell (p := ⟨w.heap.size + 1, 1, none⟩) (by simp <;> omega) _).setCell (p := ⟨w.heap.size + 1, 2, none⟩) (by simp <;> omega) _).setCell (p := ⟨w.heap.size + 1, 3, none⟩) (by simp <;> omega) _).setCell (p := ⟨w.heap.size + 1, 4, none⟩) (by simp <;> omega) _).setCell (p := ⟨w.heap.size + 1, 5, none⟩) (by simp <;> omega) _)

set_option maxHeartbeats 800000 in
set_option maxRecDepth 100000 in
theorem implLaterYes (kd wt lg : Int) (tu sz : Nat) (sd : Int) (by_ : Int) (w : World) (hb : tu < 2 ^ 32) (h0 : waveB kd wt lg tu sd = true) (h1 : -1000000 ≤ by_) (h2 : by_ ≤ 1000000) (h3 : tickB (wt + by_) = true) :
    Calls Try.prog 25 #[.agg #[.int .i64 kd, .int .i64 wt, .int .i64 lg, .float .f32 tu, .float .f32 sz, .int .i64 sd], .int .i64 by_] w fun e w' => e = .returned (.tuple #[.agg #[.int .i64 kd, .int .i64 (wt + by_), .int .i64 lg, .float .f32 tu, .float .f32 sz, .int .i64 sd], .bool true]) ∧ Below w.heap.size w w' := by
  have hr := (waveB_parts h0).2.1
  have h4 : waveB kd (wt + by_) lg tu sd = true := (waveB_later h0).trans h3
  have X := Blk.new w #[.int .i64 kd, .int .i64 wt, .int .i64 lg, .float .f32 tu, .float .f32 sz, .int .i64 sd] 26
  have HB : Hid (Below w.heap.size w ((w.alloc (.cells #[.int .i64 kd, .int .i64 wt, .int .i64 lg, .float .f32 tu, .float .f32 sz, .int .i64 sd] 26)).alloc (.cells #[.int .i64 0, .int .i64 0, .int .i64 0, .float .f32 0, .float .f32 0, .int .i64 0] 26))) := Lib.hid (((Below.refl w.heap.size w).alloc (Nat.le_refl _) _).alloc (by simp) _)
  obtain ⟨Xc, Xf⟩ := (X.alloc (.cells #[.int .i64 0, .int .i64 0, .int .i64 0, .float .f32 0, .float .f32 0, .int .i64 0] 26)).open
  go_enter Try.func25, Try.ntmps25
  have tk1 : True := trivial; have tk2 : True := trivial
  go_wp2_with fail
  refine (implValidWave _ _ _ _ _ _ _ hb).mono ?_
  rintro e v1 ⟨rfl, q⟩
  rw [h0]
  replace X := (X.alloc (.cells #[.int .i64 0, .int .i64 0, .int .i64 0, .float .f32 0, .float .f32 0, .int .i64 0] 26)).later q
  have Y := (Blk.new1 w (.cells #[.int .i64 kd, .int .i64 wt, .int .i64 lg, .float .f32 tu, .float .f32 sz, .int .i64 sd] 26) #[.int .i64 0, .int .i64 0, .int .i64 0, .float .f32 0, .float .f32 0, .int .i64 0] 26).later q
  replace HB := Lib.hid (HB.out.trans (q.mono HB.out.size))
  clear Xc Xf q
  obtain ⟨Xc, Xf⟩ := X.open; obtain ⟨Yc, Yf⟩ := Y.open
  go_wp2_with fail
  have X2 : Blk (v1.setCell ⟨w.heap.size, 1, none⟩ (.int .i64 (wt + by_))) w.heap.size #[.int .i64 kd, .int .i64 (wt + by_), .int .i64 lg, .float .f32 tu, .float .f32 sz, .int .i64 sd] 26 := X.set 1 (.int .i64 (wt + by_))
  have Y2 := Y.setOther (p := ⟨w.heap.size, 1, none⟩) (by simp <;> omega) (.int .i64 (wt + by_))
  replace HB := Lib.hid (HB.out.setCell (p := ⟨w.heap.size, 1, none⟩) (by simp) (.int .i64 (wt + by_)))
  clear Xc Xf Yc Yf X Y
  generalize v1.setCell ⟨w.heap.size, 1, none⟩ (.int .i64 (wt + by_)) = v2 at *
  refine (implValidWave _ _ _ _ _ _ _ hb).mono ?_
  rintro e v3 ⟨rfl, q⟩
  rw [h4]
  replace X2 := X2.later q; replace Y2 := Y2.later q
  replace HB := Lib.hid (HB.out.trans (q.mono HB.out.size))
  clear q
  obtain ⟨Xc, Xf⟩ := X2.open; obtain ⟨Yc, Yf⟩ := Y2.open
  go_wp2
  refine bodyPost_ret (v := .tuple #[.agg #[.int .i64 kd, .int .i64 (wt + by_), .int .i64 lg, .float .f32 tu, .float .f32 sz, .int .i64 sd], .bool true]) (by simp [results, Try.results25, go_sem, Yc]) rfl ⟨rfl, ?_⟩
  exact ((((((HB.out.setCell (p := ⟨w.heap.size + 1, 0, none⟩) (by simp <;> omega) _).setCell (p := ⟨w.heap.size + 1, 1, none⟩) (by simp <;> omega) _).setCell (p := ⟨w.heap.size + 1, 2, none⟩) (by simp <;> omega) _).setCell (p := ⟨w.heap.size + 1, 3, none⟩) (by simp <;> omega) _).setCell (p := ⟨w.heap.size + 1, 4, none⟩) (by simp <;> omega) _).setCell (p := ⟨w.heap.size + 1, 5, none⟩) (by simp <;> omega) _)

set_option maxHeartbeats 800000 in
set_option maxRecDepth 100000 in
theorem specLaterNo0 (kd wt lg : Int) (tu sz : Nat) (sd : Int) (by_ : Int) (w : World) (hb : tu < 2 ^ 32) (h0 : waveB kd wt lg tu sd = false) :
    Calls Try.prog 24 #[.agg #[.int .i64 kd, .int .i64 wt, .int .i64 lg, .float .f32 tu, .float .f32 sz, .int .i64 sd], .int .i64 by_] w fun e w' => e = .returned (.tuple #[.agg #[.int .i64 0, .int .i64 0, .int .i64 0, .float .f32 0, .float .f32 0, .int .i64 0], .bool false]) ∧ Below w.heap.size w w' := by
  have X := Blk.new w #[.int .i64 kd, .int .i64 wt, .int .i64 lg, .float .f32 tu, .float .f32 sz, .int .i64 sd] 26
  have HB : Hid (Below w.heap.size w ((w.alloc (.cells #[.int .i64 kd, .int .i64 wt, .int .i64 lg, .float .f32 tu, .float .f32 sz, .int .i64 sd] 26)).alloc (.cells #[.int .i64 0, .int .i64 0, .int .i64 0, .float .f32 0, .float .f32 0, .int .i64 0] 26))) := Lib.hid (((Below.refl w.heap.size w).alloc (Nat.le_refl _) _).alloc (by simp) _)
  obtain ⟨Xc, Xf⟩ := (X.alloc (.cells #[.int .i64 0, .int .i64 0, .int .i64 0, .float .f32 0, .float .f32 0, .int .i64 0] 26)).open
  go_enter Try.func24, Try.ntmps24
  go_wp2_with fail
  refine (specIsWave _ _ _ _ _ _ _ _ (X.alloc (.cells #[.int .i64 0, .int .i64 0, .int .i64 0, .float .f32 0, .float .f32 0, .int .i64 0] 26))).mono ?_
  rintro e v1 ⟨rfl, nq, hw⟩
  rw [h0]
  replace X := (X.alloc (.cells #[.int .i64 0, .int .i64 0, .int .i64 0, .float .f32 0, .float .f32 0, .int .i64 0] 26)).drewN nq
  have Y := (Blk.new1 w (.cells #[.int .i64 kd, .int .i64 wt, .int .i64 lg, .float .f32 tu, .float .f32 sz, .int .i64 sd] 26) #[.int .i64 0, .int .i64 0, .int .i64 0, .float .f32 0, .float .f32 0, .int .i64 0] 26).drewN nq
  replace HB := Lib.hid (below_drewN HB.out nq)
  rw [← hw] at X Y HB; clear hw Xc Xf
  obtain ⟨Xc, Xf⟩ := X.open; obtain ⟨Yc, Yf⟩ := Y.open
  go_wp2_with (first | (go_at_call 65; refine (l00In_any _ _ _ _).mono ?_; rintro e _ ⟨rfl, rfl⟩) | (go_at_call 60; refine (specTick _ _).mono ?_; rintro e _ ⟨rfl, rfl⟩))
  refine bodyPost_ret (v := .tuple #[.agg #[.int .i64 0, .int .i64 0, .int .i64 0, .float .f32 0, .float .f32 0, .int .i64 0], .bool false]) (by simp [results, Try.results24, go_sem, Yc]) rfl ⟨rfl, ?_⟩
  exact ((((((HB.out.setCell (p := ⟨w.heap.size + 1, 0, none⟩) (by simp <;> omega) _).setCell (p := ⟨w.heap.size + 1, 1, none⟩) (by simp <;> omega) _).setCell (p := ⟨w.heap.size + 1, 2, none⟩) (by simp <;> omega) _).setCell (p := ⟨w.heap.size + 1, 3, none⟩) (by simp <;> omega) _).setCell (p := ⟨w.heap.size + 1, 4, none⟩) (by simp <;> omega) _).setCell (p := ⟨w.heap.size + 1, 5, none⟩) (by simp <;> omega) _)

set_option maxHeartbeats 800000 in
set_option maxRecDepth 100000 in
theorem specLaterNo1 (kd wt lg : Int) (tu sz : Nat) (sd : Int) (by_ : Int) (w : World) (hb : tu < 2 ^ 32) (h0 : waveB kd wt lg tu sd = true) (h1 : ¬ (-1000000 ≤ by_ ∧ by_ ≤ 1000000)) :
    Calls Try.prog 24 #[.agg #[.int .i64 kd, .int .i64 wt, .int .i64 lg, .float .f32 tu, .float .f32 sz, .int .i64 sd], .int .i64 by_] w fun e w' => e = .returned (.tuple #[.agg #[.int .i64 0, .int .i64 0, .int .i64 0, .float .f32 0, .float .f32 0, .int .i64 0], .bool false]) ∧ Below w.heap.size w w' := by
  have hr := (waveB_parts h0).2.1
  have d1 : decide (-1000000 ≤ by_ ∧ by_ ≤ 1000000) = false := decide_eq_false h1
  have X := Blk.new w #[.int .i64 kd, .int .i64 wt, .int .i64 lg, .float .f32 tu, .float .f32 sz, .int .i64 sd] 26
  have HB : Hid (Below w.heap.size w ((w.alloc (.cells #[.int .i64 kd, .int .i64 wt, .int .i64 lg, .float .f32 tu, .float .f32 sz, .int .i64 sd] 26)).alloc (.cells #[.int .i64 0, .int .i64 0, .int .i64 0, .float .f32 0, .float .f32 0, .int .i64 0] 26))) := Lib.hid (((Below.refl w.heap.size w).alloc (Nat.le_refl _) _).alloc (by simp) _)
  obtain ⟨Xc, Xf⟩ := (X.alloc (.cells #[.int .i64 0, .int .i64 0, .int .i64 0, .float .f32 0, .float .f32 0, .int .i64 0] 26)).open
  go_enter Try.func24, Try.ntmps24
  go_wp2_with fail
  refine (specIsWave _ _ _ _ _ _ _ _ (X.alloc (.cells #[.int .i64 0, .int .i64 0, .int .i64 0, .float .f32 0, .float .f32 0, .int .i64 0] 26))).mono ?_
  rintro e v1 ⟨rfl, nq, hw⟩
  rw [h0]
  replace X := (X.alloc (.cells #[.int .i64 0, .int .i64 0, .int .i64 0, .float .f32 0, .float .f32 0, .int .i64 0] 26)).drewN nq
  have Y := (Blk.new1 w (.cells #[.int .i64 kd, .int .i64 wt, .int .i64 lg, .float .f32 tu, .float .f32 sz, .int .i64 sd] 26) #[.int .i64 0, .int .i64 0, .int .i64 0, .float .f32 0, .float .f32 0, .int .i64 0] 26).drewN nq
  replace HB := Lib.hid (below_drewN HB.out nq)
  rw [← hw] at X Y HB; clear hw Xc Xf
  obtain ⟨Xc, Xf⟩ := X.open; obtain ⟨Yc, Yf⟩ := Y.open
  go_wp2_with (first | (go_at_call 65; refine (l00In_any _ _ _ _).mono ?_; rintro e _ ⟨rfl, rfl⟩) | (go_at_call 60; refine (specTick _ _).mono ?_; rintro e _ ⟨rfl, rfl⟩))
  refine bodyPost_ret (v := .tuple #[.agg #[.int .i64 0, .int .i64 0, .int .i64 0, .float .f32 0, .float .f32 0, .int .i64 0], .bool false]) (by simp [results, Try.results24, go_sem, Yc]) rfl ⟨rfl, ?_⟩
  exact ((((((HB.out.setCell (p := ⟨w.heap.size + 1, 0, none⟩) (by simp <;> omega) _).setCell (p := ⟨w.heap.size + 1, 1, none⟩) (by simp <;> omega) _).setCell (p := ⟨w.heap.size + 1, 2, none⟩) (by simp <;> omega) _).setCell (p := ⟨w.heap.size + 1, 3, none⟩) (by simp <;> omega) _).setCell (p := ⟨w.heap.size + 1, 4, none⟩) (by simp <;> omega) _).setCell (p := ⟨w.heap.size + 1, 5, none⟩) (by simp <;> omega) _)

set_option maxHeartbeats 800000 in
set_option maxRecDepth 100000 in
theorem specLaterNo2 (kd wt lg : Int) (tu sz : Nat) (sd : Int) (by_ : Int) (w : World) (hb : tu < 2 ^ 32) (h0 : waveB kd wt lg tu sd = true) (h1 : -1000000 ≤ by_ ∧ by_ ≤ 1000000) (h2 : tickB (wt + by_) = false) :
    Calls Try.prog 24 #[.agg #[.int .i64 kd, .int .i64 wt, .int .i64 lg, .float .f32 tu, .float .f32 sz, .int .i64 sd], .int .i64 by_] w fun e w' => e = .returned (.tuple #[.agg #[.int .i64 0, .int .i64 0, .int .i64 0, .float .f32 0, .float .f32 0, .int .i64 0], .bool false]) ∧ Below w.heap.size w w' := by
  have hr := (waveB_parts h0).2.1
  have d1 : decide (-1000000 ≤ by_ ∧ by_ ≤ 1000000) = true := decide_eq_true h1
  have X := Blk.new w #[.int .i64 kd, .int .i64 wt, .int .i64 lg, .float .f32 tu, .float .f32 sz, .int .i64 sd] 26
  have HB : Hid (Below w.heap.size w ((w.alloc (.cells #[.int .i64 kd, .int .i64 wt, .int .i64 lg, .float .f32 tu, .float .f32 sz, .int .i64 sd] 26)).alloc (.cells #[.int .i64 0, .int .i64 0, .int .i64 0, .float .f32 0, .float .f32 0, .int .i64 0] 26))) := Lib.hid (((Below.refl w.heap.size w).alloc (Nat.le_refl _) _).alloc (by simp) _)
  obtain ⟨Xc, Xf⟩ := (X.alloc (.cells #[.int .i64 0, .int .i64 0, .int .i64 0, .float .f32 0, .float .f32 0, .int .i64 0] 26)).open
  go_enter Try.func24, Try.ntmps24
  go_wp2_with fail
  refine (specIsWave _ _ _ _ _ _ _ _ (X.alloc (.cells #[.int .i64 0, .int .i64 0, .int .i64 0, .float .f32 0, .float .f32 0, .int .i64 0] 26))).mono ?_
  rintro e v1 ⟨rfl, nq, hw⟩
  rw [h0]
  replace X := (X.alloc (.cells #[.int .i64 0, .int .i64 0, .int .i64 0, .float .f32 0, .float .f32 0, .int .i64 0] 26)).drewN nq
  have Y := (Blk.new1 w (.cells #[.int .i64 kd, .int .i64 wt, .int .i64 lg, .float .f32 tu, .float .f32 sz, .int .i64 sd] 26) #[.int .i64 0, .int .i64 0, .int .i64 0, .float .f32 0, .float .f32 0, .int .i64 0] 26).drewN nq
  replace HB := Lib.hid (below_drewN HB.out nq)
  rw [← hw] at X Y HB; clear hw Xc Xf
  obtain ⟨Xc, Xf⟩ := X.open; obtain ⟨Yc, Yf⟩ := Y.open
  go_wp2_with (first | (go_at_call 65; refine (l00In_any _ _ _ _).mono ?_; rintro e _ ⟨rfl, rfl⟩) | (go_at_call 60; refine (specTick _ _).mono ?_; rintro e _ ⟨rfl, rfl⟩))
  refine bodyPost_ret (v := .tuple #[.agg #[.int .i64 0, .int .i64 0, .int .i64 0, .float .f32 0, .float .f32 0, .int .i64 0], .bool false]) (by simp [results, Try.results24, go_sem, Yc]) rfl ⟨rfl, ?_⟩
  exact ((((((HB.out.setCell (p := ⟨w.heap.size + 1, 0, none⟩) (by simp <;> omega) _).setCell (p := ⟨w.heap.size + 1, 1, none⟩) (by simp <;> omega) _).setCell (p := ⟨w.heap.size + 1, 2, none⟩) (by simp <;> omega) _).setCell (p := ⟨w.heap.size + 1, 3, none⟩) (by simp <;> omega) _).setCell (p := ⟨w.heap.size + 1, 4, none⟩) (by simp <;> omega) _).setCell (p := ⟨w.heap.size + 1, 5, none⟩) (by simp <;> omega) _)

set_option maxHeartbeats 800000 in
set_option maxRecDepth 100000 in
theorem specLaterYes (kd wt lg : Int) (tu sz : Nat) (sd : Int) (by_ : Int) (w : World) (hb : tu < 2 ^ 32) (h0 : waveB kd wt lg tu sd = true) (h1 : -1000000 ≤ by_ ∧ by_ ≤ 1000000) (h2 : tickB (wt + by_) = true) :
    Calls Try.prog 24 #[.agg #[.int .i64 kd, .int .i64 wt, .int .i64 lg, .float .f32 tu, .float .f32 sz, .int .i64 sd], .int .i64 by_] w fun e w' => e = .returned (.tuple #[.agg #[.int .i64 kd, .int .i64 (wt + by_), .int .i64 lg, .float .f32 tu, .float .f32 sz, .int .i64 sd], .bool true]) ∧ Below w.heap.size w w' := by
  have hr := (waveB_parts h0).2.1
  have d1 : decide (-1000000 ≤ by_ ∧ by_ ≤ 1000000) = true := decide_eq_true h1
  have X := Blk.new w #[.int .i64 kd, .int .i64 wt, .int .i64 lg, .float .f32 tu, .float .f32 sz, .int .i64 sd] 26
  have HB : Hid (Below w.heap.size w ((w.alloc (.cells #[.int .i64 kd, .int .i64 wt, .int .i64 lg, .float .f32 tu, .float .f32 sz, .int .i64 sd] 26)).alloc (.cells #[.int .i64 0, .int .i64 0, .int .i64 0, .float .f32 0, .float .f32 0, .int .i64 0] 26))) := Lib.hid (((Below.refl w.heap.size w).alloc (Nat.le_refl _) _).alloc (by simp) _)
  obtain ⟨Xc, Xf⟩ := (X.alloc (.cells #[.int .i64 0, .int .i64 0, .int .i64 0, .float .f32 0, .float .f32 0, .int .i64 0] 26)).open
  go_enter Try.func24, Try.ntmps24
  go_wp2_with fail
  refine (specIsWave _ _ _ _ _ _ _ _ (X.alloc (.cells #[.int .i64 0, .int .i64 0, .int .i64 0, .float .f32 0, .float .f32 0, .int .i64 0] 26))).mono ?_
  rintro e v1 ⟨rfl, nq, hw⟩
  rw [h0]
  replace X := (X.alloc (.cells #[.int .i64 0, .int .i64 0, .int .i64 0, .float .f32 0, .float .f32 0, .int .i64 0] 26)).drewN nq
  have Y := (Blk.new1 w (.cells #[.int .i64 kd, .int .i64 wt, .int .i64 lg, .float .f32 tu, .float .f32 sz, .int .i64 sd] 26) #[.int .i64 0, .int .i64 0, .int .i64 0, .float .f32 0, .float .f32 0, .int .i64 0] 26).drewN nq
  replace HB := Lib.hid (below_drewN HB.out nq)
  rw [← hw] at X Y HB; clear hw Xc Xf
  obtain ⟨Xc, Xf⟩ := X.open; obtain ⟨Yc, Yf⟩ := Y.open
  go_wp2_with (first | (go_at_call 65; refine (l00In_any _ _ _ _).mono ?_; rintro e _ ⟨rfl, rfl⟩) | (go_at_call 60; refine (specTick _ _).mono ?_; rintro e _ ⟨rfl, rfl⟩))
  refine bodyPost_ret (v := .tuple #[.agg #[.int .i64 kd, .int .i64 (wt + by_), .int .i64 lg, .float .f32 tu, .float .f32 sz, .int .i64 sd], .bool true]) (by simp [results, Try.results24, go_sem, Yc]) rfl ⟨rfl, ?_⟩
  exact (((((((HB.out.setCell (p := ⟨w.heap.size, 1, none⟩) (by simp) _).setCell (p := ⟨w.heap.size + 1, 0, none⟩) (by simp <;> omega) _).setCell (p := ⟨w.heap.size + 1, 1, none⟩) (by simp <;> omega) _).setCell (p := ⟨w.heap.size + 1, 2, none⟩) (by simp <;> omega) _).setCell (p := ⟨w.heap.size + 1, 3, none⟩) (by simp <;> omega) _).setCell (p := ⟨w.heap.size + 1, 4, none⟩) (by simp <;> omega) _).setCell (p := ⟨w.heap.size + 1, 5, none⟩) (by simp <;> omega) _)

end Go.Proofs.Ytkcododhfliobaa

end
