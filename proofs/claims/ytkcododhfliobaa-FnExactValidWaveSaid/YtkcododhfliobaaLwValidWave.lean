/- The walk of the law on ValidWave. Conditions: none beyond those of each theorem. -/
import Derived.Test.YtkcododhfliobaaBu9
namespace Go.Proofs.Ytkcododhfliobaa
open Go Ieee Go.RowKit
set_option linter.unusedVariables false

theorem fnExactValidWave_walk (kd wt lg : Int) (tu sz : Nat) (sd : Int) (w : World) (hb : tu < 2 ^ 32) (hs : sz < 2 ^ 32) :
    Calls Try.prog 3 #[.agg #[.int .i64 kd, .int .i64 wt, .int .i64 lg, .float .f32 tu, .float .f32 sz, .int .i64 sd]] w fun e w' => e = .returned (.bool true) ∧ Below w.heap.size w w' := by
  have A := Blk.new w #[.int .i64 kd, .int .i64 wt, .int .i64 lg, .float .f32 tu, .float .f32 sz, .int .i64 sd] 24
  have HB : Hid (Below w.heap.size w (w.alloc (.cells #[.int .i64 kd, .int .i64 wt, .int .i64 lg, .float .f32 tu, .float .f32 sz, .int .i64 sd] 24))) := Lib.hid ((Below.refl w.heap.size w).alloc (by simp <;> omega) _)
  go_enter Try.func3, Try.ntmps3
  go_wp2_with fail
  generalize (w.alloc (.cells #[.int .i64 kd, .int .i64 wt, .int .i64 lg, .float .f32 tu, .float .f32 sz, .int .i64 sd] 24)) = u1 at *
  refine (toWave_any _ _ _ _ _ _ _).mono ?_
  rintro r u2 ⟨rfl, q⟩
  replace A := A.later q
  replace HB := Lib.hid (HB.out.trans (q.mono HB.out.size))
  clear q
  go_wp2_with fail
  refine (specValidWave _ _ _ _ _ _ _).mono ?_
  rintro r u3 ⟨rfl, q⟩
  replace A := A.later q
  replace HB := Lib.hid (HB.out.trans (q.mono HB.out.size))
  clear q
  obtain ⟨Ac, Af⟩ := A.open
  go_wp2_with fail
  refine (toWave_any _ _ _ _ _ _ _).mono ?_
  rintro r u4 ⟨rfl, q⟩
  clear Ac Af
  replace A := A.later q
  replace HB := Lib.hid (HB.out.trans (q.mono HB.out.size))
  clear q
  go_wp2_with fail
  refine (implValidWave _ _ _ _ _ _ _ hb).mono ?_
  rintro r u5 ⟨rfl, q⟩
  replace A := A.later q
  replace HB := Lib.hid (HB.out.trans (q.mono HB.out.size))
  clear q
  go_wp2
  go_ret
  exact ⟨rfl, HB.out⟩

end Go.Proofs.Ytkcododhfliobaa
