/- The walk of the law on LaterWave. Conditions: none beyond those of each theorem. -/
import Derived.Test.YtkcododhfliobaaBu9
namespace Go.Proofs.Ytkcododhfliobaa
open Go Ieee Go.RowKit
set_option linter.unusedVariables false

set_option maxHeartbeats 1600000 in
set_option maxRecDepth 100000 in
theorem fnExactLaterWave_walk (kd wt lg : Int) (tu sz : Nat) (sd : Int) (by_ : Int) (w : World) (hb : tu < 2 ^ 32) (hs : sz < 2 ^ 32) (wb : (Lit.int .i64 by_).wf = true) :
    Calls Try.prog 6 #[.agg #[.int .i64 kd, .int .i64 wt, .int .i64 lg, .float .f32 tu, .float .f32 sz, .int .i64 sd], .int .i64 by_] w fun e w' => e = .returned (.bool true) ∧ Below w.heap.size w w' := by
  rcases h0 : waveB kd wt lg tu sd with _ | _
  · skip
    have A := Blk.new w #[.int .i64 kd, .int .i64 wt, .int .i64 lg, .float .f32 tu, .float .f32 sz, .int .i64 sd] 24
    have HB : Hid (Below w.heap.size w (w.alloc (.cells #[.int .i64 kd, .int .i64 wt, .int .i64 lg, .float .f32 tu, .float .f32 sz, .int .i64 sd] 24))) := Lib.hid ((Below.refl w.heap.size w).alloc (by simp <;> omega) _)
    go_enter Try.func6, Try.ntmps6
    go_wp2_with fail
    generalize (w.alloc (.cells #[.int .i64 kd, .int .i64 wt, .int .i64 lg, .float .f32 tu, .float .f32 sz, .int .i64 sd] 24)) = u1 at *
    refine (toWave_any _ _ _ _ _ _ _).mono ?_
    rintro r u2 ⟨rfl, q⟩
    replace A := A.later q
    replace HB := Lib.hid (HB.out.trans (q.mono HB.out.size))
    clear q
    go_wp2_with fail
    refine (specLaterNo0 _ _ _ _ _ _ _ _ hb h0).mono ?_
    rintro r u3 ⟨rfl, q⟩
    replace A := A.later q
    replace HB := Lib.hid (HB.out.trans (q.mono HB.out.size))
    clear q
    have Bw := Blk.new u3 #[.int .i64 0, .int .i64 0, .int .i64 0, .float .f32 0, .float .f32 0, .int .i64 0] 26
    have q := below_new u3 (.cells #[.int .i64 0, .int .i64 0, .int .i64 0, .float .f32 0, .float .f32 0, .int .i64 0] 26)
    replace A := A.later q
    replace HB := Lib.hid (HB.out.trans (q.mono HB.out.size))
    clear q
    obtain ⟨Ac, Af⟩ := A.open
    go_wp2_with fail
    generalize (u3.alloc (.cells #[.int .i64 0, .int .i64 0, .int .i64 0, .float .f32 0, .float .f32 0, .int .i64 0] 26)) = u4 at *
    refine (toWave_any _ _ _ _ _ _ _).mono ?_
    rintro r u5 ⟨rfl, q⟩
    clear Ac Af
    replace A := A.later q
    replace Bw := Bw.later q
    replace HB := Lib.hid (HB.out.trans (q.mono HB.out.size))
    clear q
    go_wp2_with fail
    refine (implLaterNo0 _ _ _ _ _ _ _ _ hb h0).mono ?_
    rintro r u6 ⟨rfl, q⟩
    replace A := A.later q
    replace Bw := Bw.later q
    replace HB := Lib.hid (HB.out.trans (q.mono HB.out.size))
    clear q
    have Bi := Blk.new u6 #[.int .i64 0, .int .i64 0, .int .i64 0, .float .f32 0, .float .f32 0, .int .i64 0] 26
    have q := below_new u6 (.cells #[.int .i64 0, .int .i64 0, .int .i64 0, .float .f32 0, .float .f32 0, .int .i64 0] 26)
    replace A := A.later q
    replace Bw := Bw.later q
    replace HB := Lib.hid (HB.out.trans (q.mono HB.out.size))
    clear q
    obtain ⟨Bic, Bif⟩ := Bi.open
    obtain ⟨Bwc, Bwf⟩ := Bw.open
    go_wp2_with fail
    generalize (u6.alloc (.cells #[.int .i64 0, .int .i64 0, .int .i64 0, .float .f32 0, .float .f32 0, .int .i64 0] 26)) = u7 at *
    refine (eqWave_any _ _ _ _ _ _ _ _ _ (by decide) (by decide) (by decide) (by decide) rfl rfl).mono ?_
    rintro r u8 ⟨rfl, q⟩
    clear Bic Bif
    clear Bwc Bwf
    replace A := A.later q
    replace Bw := Bw.later q
    replace Bi := Bi.later q
    replace HB := Lib.hid (HB.out.trans (q.mono HB.out.size))
    clear q
    go_wp2
    go_ret
    exact ⟨rfl, HB.out⟩
  by_cases h1 : -1000000 ≤ by_
  · skip
    by_cases h2 : by_ ≤ 1000000
    · skip
      rcases h3 : tickB (wt + by_) with _ | _
      · skip
        have A := Blk.new w #[.int .i64 kd, .int .i64 wt, .int .i64 lg, .float .f32 tu, .float .f32 sz, .int .i64 sd] 24
        have HB : Hid (Below w.heap.size w (w.alloc (.cells #[.int .i64 kd, .int .i64 wt, .int .i64 lg, .float .f32 tu, .float .f32 sz, .int .i64 sd] 24))) := Lib.hid ((Below.refl w.heap.size w).alloc (by simp <;> omega) _)
        go_enter Try.func6, Try.ntmps6
        go_wp2_with fail
        generalize (w.alloc (.cells #[.int .i64 kd, .int .i64 wt, .int .i64 lg, .float .f32 tu, .float .f32 sz, .int .i64 sd] 24)) = u1 at *
        refine (toWave_any _ _ _ _ _ _ _).mono ?_
        rintro r u2 ⟨rfl, q⟩
        replace A := A.later q
        replace HB := Lib.hid (HB.out.trans (q.mono HB.out.size))
        clear q
        go_wp2_with fail
        refine (specLaterNo2 _ _ _ _ _ _ _ _ hb h0 (by omega) h3).mono ?_
        rintro r u3 ⟨rfl, q⟩
        replace A := A.later q
        replace HB := Lib.hid (HB.out.trans (q.mono HB.out.size))
        clear q
        have Bw := Blk.new u3 #[.int .i64 0, .int .i64 0, .int .i64 0, .float .f32 0, .float .f32 0, .int .i64 0] 26
        have q := below_new u3 (.cells #[.int .i64 0, .int .i64 0, .int .i64 0, .float .f32 0, .float .f32 0, .int .i64 0] 26)
        replace A := A.later q
        replace HB := Lib.hid (HB.out.trans (q.mono HB.out.size))
        clear q
        obtain ⟨Ac, Af⟩ := A.open
        go_wp2_with fail
        generalize (u3.alloc (.cells #[.int .i64 0, .int .i64 0, .int .i64 0, .float .f32 0, .float .f32 0, .int .i64 0] 26)) = u4 at *
        refine (toWave_any _ _ _ _ _ _ _).mono ?_
        rintro r u5 ⟨rfl, q⟩
        clear Ac Af
        replace A := A.later q
        replace Bw := Bw.later q
        replace HB := Lib.hid (HB.out.trans (q.mono HB.out.size))
        clear q
        go_wp2_with fail
        refine (implLaterNo3 _ _ _ _ _ _ _ _ hb h0 (by omega) (by omega) h3).mono ?_
        rintro r u6 ⟨rfl, q⟩
        replace A := A.later q
        replace Bw := Bw.later q
        replace HB := Lib.hid (HB.out.trans (q.mono HB.out.size))
        clear q
        have Bi := Blk.new u6 #[.int .i64 0, .int .i64 0, .int .i64 0, .float .f32 0, .float .f32 0, .int .i64 0] 26
        have q := below_new u6 (.cells #[.int .i64 0, .int .i64 0, .int .i64 0, .float .f32 0, .float .f32 0, .int .i64 0] 26)
        replace A := A.later q
        replace Bw := Bw.later q
        replace HB := Lib.hid (HB.out.trans (q.mono HB.out.size))
        clear q
        obtain ⟨Bic, Bif⟩ := Bi.open
        obtain ⟨Bwc, Bwf⟩ := Bw.open
        go_wp2_with fail
        generalize (u6.alloc (.cells #[.int .i64 0, .int .i64 0, .int .i64 0, .float .f32 0, .float .f32 0, .int .i64 0] 26)) = u7 at *
        refine (eqWave_any _ _ _ _ _ _ _ _ _ (by decide) (by decide) (by decide) (by decide) rfl rfl).mono ?_
        rintro r u8 ⟨rfl, q⟩
        clear Bic Bif
        clear Bwc Bwf
        replace A := A.later q
        replace Bw := Bw.later q
        replace Bi := Bi.later q
        replace HB := Lib.hid (HB.out.trans (q.mono HB.out.size))
        clear q
        go_wp2
        go_ret
        exact ⟨rfl, HB.out⟩
      · skip
        have A := Blk.new w #[.int .i64 kd, .int .i64 wt, .int .i64 lg, .float .f32 tu, .float .f32 sz, .int .i64 sd] 24
        have HB : Hid (Below w.heap.size w (w.alloc (.cells #[.int .i64 kd, .int .i64 wt, .int .i64 lg, .float .f32 tu, .float .f32 sz, .int .i64 sd] 24))) := Lib.hid ((Below.refl w.heap.size w).alloc (by simp <;> omega) _)
        go_enter Try.func6, Try.ntmps6
        go_wp2_with fail
        generalize (w.alloc (.cells #[.int .i64 kd, .int .i64 wt, .int .i64 lg, .float .f32 tu, .float .f32 sz, .int .i64 sd] 24)) = u1 at *
        refine (toWave_any _ _ _ _ _ _ _).mono ?_
        rintro r u2 ⟨rfl, q⟩
        replace A := A.later q
        replace HB := Lib.hid (HB.out.trans (q.mono HB.out.size))
        clear q
        go_wp2_with fail
        refine (specLaterYes _ _ _ _ _ _ _ _ hb h0 (by omega) h3).mono ?_
        rintro r u3 ⟨rfl, q⟩
        replace A := A.later q
        replace HB := Lib.hid (HB.out.trans (q.mono HB.out.size))
        clear q
        have Bw := Blk.new u3 #[.int .i64 kd, .int .i64 (wt + by_), .int .i64 lg, .float .f32 tu, .float .f32 sz, .int .i64 sd] 26
        have q := below_new u3 (.cells #[.int .i64 kd, .int .i64 (wt + by_), .int .i64 lg, .float .f32 tu, .float .f32 sz, .int .i64 sd] 26)
        replace A := A.later q
        replace HB := Lib.hid (HB.out.trans (q.mono HB.out.size))
        clear q
        obtain ⟨Ac, Af⟩ := A.open
        go_wp2_with fail
        generalize (u3.alloc (.cells #[.int .i64 kd, .int .i64 (wt + by_), .int .i64 lg, .float .f32 tu, .float .f32 sz, .int .i64 sd] 26)) = u4 at *
        refine (toWave_any _ _ _ _ _ _ _).mono ?_
        rintro r u5 ⟨rfl, q⟩
        clear Ac Af
        replace A := A.later q
        replace Bw := Bw.later q
        replace HB := Lib.hid (HB.out.trans (q.mono HB.out.size))
        clear q
        go_wp2_with fail
        refine (implLaterYes _ _ _ _ _ _ _ _ hb h0 (by omega) (by omega) h3).mono ?_
        rintro r u6 ⟨rfl, q⟩
        replace A := A.later q
        replace Bw := Bw.later q
        replace HB := Lib.hid (HB.out.trans (q.mono HB.out.size))
        clear q
        have Bi := Blk.new u6 #[.int .i64 kd, .int .i64 (wt + by_), .int .i64 lg, .float .f32 tu, .float .f32 sz, .int .i64 sd] 26
        have q := below_new u6 (.cells #[.int .i64 kd, .int .i64 (wt + by_), .int .i64 lg, .float .f32 tu, .float .f32 sz, .int .i64 sd] 26)
        replace A := A.later q
        replace Bw := Bw.later q
        replace HB := Lib.hid (HB.out.trans (q.mono HB.out.size))
        clear q
        obtain ⟨Bic, Bif⟩ := Bi.open
        obtain ⟨Bwc, Bwf⟩ := Bw.open
        go_wp2_with fail
        generalize (u6.alloc (.cells #[.int .i64 kd, .int .i64 (wt + by_), .int .i64 lg, .float .f32 tu, .float .f32 sz, .int .i64 sd] 26)) = u7 at *
        refine (eqWave_any _ _ _ _ _ _ _ _ _ hb hb hs hs rfl rfl).mono ?_
        rintro r u8 ⟨rfl, q⟩
        clear Bic Bif
        clear Bwc Bwf
        replace A := A.later q
        replace Bw := Bw.later q
        replace Bi := Bi.later q
        replace HB := Lib.hid (HB.out.trans (q.mono HB.out.size))
        clear q
        go_wp2
        go_ret
        exact ⟨rfl, HB.out⟩
    · skip
      have A := Blk.new w #[.int .i64 kd, .int .i64 wt, .int .i64 lg, .float .f32 tu, .float .f32 sz, .int .i64 sd] 24
      have HB : Hid (Below w.heap.size w (w.alloc (.cells #[.int .i64 kd, .int .i64 wt, .int .i64 lg, .float .f32 tu, .float .f32 sz, .int .i64 sd] 24))) := Lib.hid ((Below.refl w.heap.size w).alloc (by simp <;> omega) _)
      go_enter Try.func6, Try.ntmps6
      go_wp2_with fail
      generalize (w.alloc (.cells #[.int .i64 kd, .int .i64 wt, .int .i64 lg, .float .f32 tu, .float .f32 sz, .int .i64 sd] 24)) = u1 at *
      refine (toWave_any _ _ _ _ _ _ _).mono ?_
      rintro r u2 ⟨rfl, q⟩
      replace A := A.later q
      replace HB := Lib.hid (HB.out.trans (q.mono HB.out.size))
      clear q
      go_wp2_with fail
      refine (specLaterNo1 _ _ _ _ _ _ _ _ hb h0 (by omega)).mono ?_
      rintro r u3 ⟨rfl, q⟩
      replace A := A.later q
      replace HB := Lib.hid (HB.out.trans (q.mono HB.out.size))
      clear q
      have Bw := Blk.new u3 #[.int .i64 0, .int .i64 0, .int .i64 0, .float .f32 0, .float .f32 0, .int .i64 0] 26
      have q := below_new u3 (.cells #[.int .i64 0, .int .i64 0, .int .i64 0, .float .f32 0, .float .f32 0, .int .i64 0] 26)
      replace A := A.later q
      replace HB := Lib.hid (HB.out.trans (q.mono HB.out.size))
      clear q
      obtain ⟨Ac, Af⟩ := A.open
      go_wp2_with fail
      generalize (u3.alloc (.cells #[.int .i64 0, .int .i64 0, .int .i64 0, .float .f32 0, .float .f32 0, .int .i64 0] 26)) = u4 at *
      refine (toWave_any _ _ _ _ _ _ _).mono ?_
      rintro r u5 ⟨rfl, q⟩
      clear Ac Af
      replace A := A.later q
      replace Bw := Bw.later q
      replace HB := Lib.hid (HB.out.trans (q.mono HB.out.size))
      clear q
      go_wp2_with fail
      refine (implLaterNo2 _ _ _ _ _ _ _ _ hb h0 (by omega) (by omega)).mono ?_
      rintro r u6 ⟨rfl, q⟩
      replace A := A.later q
      replace Bw := Bw.later q
      replace HB := Lib.hid (HB.out.trans (q.mono HB.out.size))
      clear q
      have Bi := Blk.new u6 #[.int .i64 0, .int .i64 0, .int .i64 0, .float .f32 0, .float .f32 0, .int .i64 0] 26
      have q := below_new u6 (.cells #[.int .i64 0, .int .i64 0, .int .i64 0, .float .f32 0, .float .f32 0, .int .i64 0] 26)
      replace A := A.later q
      replace Bw := Bw.later q
      replace HB := Lib.hid (HB.out.trans (q.mono HB.out.size))
      clear q
      obtain ⟨Bic, Bif⟩ := Bi.open
      obtain ⟨Bwc, Bwf⟩ := Bw.open
      go_wp2_with fail
      generalize (u6.alloc (.cells #[.int .i64 0, .int .i64 0, .int .i64 0, .float .f32 0, .float .f32 0, .int .i64 0] 26)) = u7 at *
      refine (eqWave_any _ _ _ _ _ _ _ _ _ (by decide) (by decide) (by decide) (by decide) rfl rfl).mono ?_
      rintro r u8 ⟨rfl, q⟩
      clear Bic Bif
      clear Bwc Bwf
      replace A := A.later q
      replace Bw := Bw.later q
      replace Bi := Bi.later q
      replace HB := Lib.hid (HB.out.trans (q.mono HB.out.size))
      clear q
      go_wp2
      go_ret
      exact ⟨rfl, HB.out⟩
  · skip
    have A := Blk.new w #[.int .i64 kd, .int .i64 wt, .int .i64 lg, .float .f32 tu, .float .f32 sz, .int .i64 sd] 24
    have HB : Hid (Below w.heap.size w (w.alloc (.cells #[.int .i64 kd, .int .i64 wt, .int .i64 lg, .float .f32 tu, .float .f32 sz, .int .i64 sd] 24))) := Lib.hid ((Below.refl w.heap.size w).alloc (by simp <;> omega) _)
    go_enter Try.func6, Try.ntmps6
    go_wp2_with fail
    generalize (w.alloc (.cells #[.int .i64 kd, .int .i64 wt, .int .i64 lg, .float .f32 tu, .float .f32 sz, .int .i64 sd] 24)) = u1 at *
    refine (toWave_any _ _ _ _ _ _ _).mono ?_
    rintro r u2 ⟨rfl, q⟩
    replace A := A.later q
    replace HB := Lib.hid (HB.out.trans (q.mono HB.out.size))
    clear q
    go_wp2_with fail
    refine (specLaterNo1 _ _ _ _ _ _ _ _ hb h0 (by omega)).mono ?_
    rintro r u3 ⟨rfl, q⟩
    replace A := A.later q
    replace HB := Lib.hid (HB.out.trans (q.mono HB.out.size))
    clear q
    have Bw := Blk.new u3 #[.int .i64 0, .int .i64 0, .int .i64 0, .float .f32 0, .float .f32 0, .int .i64 0] 26
    have q := below_new u3 (.cells #[.int .i64 0, .int .i64 0, .int .i64 0, .float .f32 0, .float .f32 0, .int .i64 0] 26)
    replace A := A.later q
    replace HB := Lib.hid (HB.out.trans (q.mono HB.out.size))
    clear q
    obtain ⟨Ac, Af⟩ := A.open
    go_wp2_with fail
    generalize (u3.alloc (.cells #[.int .i64 0, .int .i64 0, .int .i64 0, .float .f32 0, .float .f32 0, .int .i64 0] 26)) = u4 at *
    refine (toWave_any _ _ _ _ _ _ _).mono ?_
    rintro r u5 ⟨rfl, q⟩
    clear Ac Af
    replace A := A.later q
    replace Bw := Bw.later q
    replace HB := Lib.hid (HB.out.trans (q.mono HB.out.size))
    clear q
    go_wp2_with fail
    refine (implLaterNo1 _ _ _ _ _ _ _ _ hb h0 (by omega)).mono ?_
    rintro r u6 ⟨rfl, q⟩
    replace A := A.later q
    replace Bw := Bw.later q
    replace HB := Lib.hid (HB.out.trans (q.mono HB.out.size))
    clear q
    have Bi := Blk.new u6 #[.int .i64 0, .int .i64 0, .int .i64 0, .float .f32 0, .float .f32 0, .int .i64 0] 26
    have q := below_new u6 (.cells #[.int .i64 0, .int .i64 0, .int .i64 0, .float .f32 0, .float .f32 0, .int .i64 0] 26)
    replace A := A.later q
    replace Bw := Bw.later q
    replace HB := Lib.hid (HB.out.trans (q.mono HB.out.size))
    clear q
    obtain ⟨Bic, Bif⟩ := Bi.open
    obtain ⟨Bwc, Bwf⟩ := Bw.open
    go_wp2_with fail
    generalize (u6.alloc (.cells #[.int .i64 0, .int .i64 0, .int .i64 0, .float .f32 0, .float .f32 0, .int .i64 0] 26)) = u7 at *
    refine (eqWave_any _ _ _ _ _ _ _ _ _ (by decide) (by decide) (by decide) (by decide) rfl rfl).mono ?_
    rintro r u8 ⟨rfl, q⟩
    clear Bic Bif
    clear Bwc Bwf
    replace A := A.later q
    replace Bw := Bw.later q
    replace Bi := Bi.later q
    replace HB := Lib.hid (HB.out.trans (q.mono HB.out.size))
    clear q
    go_wp2
    go_ret
    exact ⟨rfl, HB.out⟩

end Go.Proofs.Ytkcododhfliobaa
