/- The walk of the law on TimesWindow. Conditions: none beyond those of each theorem. -/
import Derived.Test.YthihemfegjaenaaBu24
import Derived.Test.YthihemfegjaenaaBu2
namespace Go.Proofs.Ythihemfegjaenaa
open Go Ieee Go.RowKit
set_option linter.unusedVariables false
set_option linter.unusedSimpArgs false

set_option maxHeartbeats 16000000 in
set_option maxRecDepth 100000 in
theorem fnExactTimesWindow_walk (a0_0 : Option Addr) (c0_0 : Nat) (x0_0 : List Nat) (a1_0 : Option Addr) (c1_0 : Nat) (x1_0 : List Nat) (w : World) (r0_0 : RowV w a0_0 (fvals x0_0)) (b0_0 : ∀ x ∈ x0_0, x < 2 ^ 32) (m0_0 : x0_0.length ≤ maxLen) (r1_0 : RowV w a1_0 (fvals x1_0)) (b1_0 : ∀ x ∈ x1_0, x < 2 ^ 32) (m1_0 : x1_0.length ≤ maxLen) :
    Calls Try.prog 8 #[.slice a0_0 x0_0.length c0_0, .slice a1_0 x1_0.length c1_0] w fun e w' => e = .returned (.bool true) ∧ Below w.heap.size w w' := by
  have HB : Hid (Below w.heap.size w w) := Lib.hid (Below.refl w.heap.size w)
  by_cases hn0 : (x0_0.length : Int) ≤ 1048576
  · skip
    by_cases hn1 : (x1_0.length : Int) ≤ 1048576
    · skip
      have n0_0 : x0_0.length ≤ 1048576 := by omega
      have n1_0 : x1_0.length ≤ 1048576 := by omega
      go_enter Try.func8, Try.ntmps8
      have zh := HB.out.size
      go_wp2_with fail
      refine (tof32s_any _ _ _ _ (r0_0.later HB.out) n0_0).mono ?_
      rintro e V1 ⟨gw0_0, rfl, Cw0⟩
      replace HB := Lib.hid (HB.out.trans (Cw0.below.mono HB.out.size))
      have sz1 : w.heap.size ≤ V1.heap.size := Cw0.below.size
      go_wp2_with fail
      refine (tof32s_any _ _ _ _ (r1_0.later HB.out) n1_0).mono ?_
      rintro e V2 ⟨gw1_0, rfl, Cw1⟩
      replace HB := Lib.hid (HB.out.trans (Cw1.below.mono HB.out.size))
      have sz2 : V1.heap.size ≤ V2.heap.size := Cw1.below.size
      go_wp2_with fail
      refine (specTimesWindowL _ _ _ _ _ _ _ (Cw0.o0.row.later Cw1.below) b0_0 m0_0 Cw1.o0.row b1_0 m1_0).mono ?_
      rintro e V3 ⟨aw, cw, yw, rfl, Gw⟩
      have bw := Gw.below
      replace HB := Lib.hid (HB.out.trans (bw.mono HB.out.size))
      have sz3 : V2.heap.size ≤ V3.heap.size := bw.size
      have Rw := Lib.hid Gw.o.row
      have lww := Gw.o.row.low
      have Sw := Lib.hid Gw.s
      go_wp2_with fail
      refine (tof32s_any _ _ _ _ (r0_0.later HB.out) n0_0).mono ?_
      rintro e V4 ⟨gx0_0, rfl, Cx0⟩
      replace Rw := Lib.hid (Rw.out.later Cx0.below)
      replace HB := Lib.hid (HB.out.trans (Cx0.below.mono HB.out.size))
      have sz4 : V3.heap.size ≤ V4.heap.size := Cx0.below.size
      have O0_0 := Lib.hid Cx0.o0
      have so0_0 := Cx0.o0.span
      go_wp2_with fail
      refine (tof32s_any _ _ _ _ (r1_0.later HB.out) n1_0).mono ?_
      rintro e V5 ⟨gx1_0, rfl, Cx1⟩
      replace Rw := Lib.hid (Rw.out.later Cx1.below)
      replace O0_0 := Lib.hid (O0_0.out.later Cx1.below)
      replace HB := Lib.hid (HB.out.trans (Cx1.below.mono HB.out.size))
      have sz5 : V4.heap.size ≤ V5.heap.size := Cx1.below.size
      have O1_0 := Lib.hid Cx1.o0
      have so1_0 := Cx1.o0.span
      go_wp2_with fail
      refine (implTimesWindowL _ _ _ _ _ _ _ O0_0.out.row b0_0 m0_0 O1_0.out.row b1_0 m1_0).mono ?_
      rintro e V6 ⟨ai, ci, yi, rfl, Gi⟩
      have bi := Gi.below
      replace Rw := Lib.hid (Rw.out.later bi)
      replace O0_0 := Lib.hid (O0_0.out.later bi)
      replace O1_0 := Lib.hid (O1_0.out.later bi)
      replace HB := Lib.hid (HB.out.trans (bi.mono HB.out.size))
      have sz6 : V5.heap.size ≤ V6.heap.size := bi.size
      have Ri := Lib.hid Gi.o
      have spi := Gi.o.span
      have Si := Lib.hid Gi.s
      go_wp2_with fail
      refine (eqF32s _ _ _ _ _ _ _ Ri.out.row Rw.out (Si.out.same Sw.out) (few_max Si.out)).mono ?_
      rintro e V7 ⟨rfl, nq, hw⟩
      have q : Below V6.heap.size V6 V7 := by rw [hw]; exact below_drewN (Below.refl _ _) _
      clear hw
      replace Rw := Lib.hid (Rw.out.later q)
      replace O0_0 := Lib.hid (O0_0.out.later q)
      replace O1_0 := Lib.hid (O1_0.out.later q)
      replace Ri := Lib.hid (Ri.out.later q)
      replace HB := Lib.hid (HB.out.trans (q.mono HB.out.size))
      have sz7 : V6.heap.size ≤ V7.heap.size := q.size
      clear q
      go_wp2_with fail
      refine (tof32s_any _ _ _ _ (r0_0.later HB.out) n0_0).mono ?_
      rintro e V8 ⟨ge0_0, rfl, Ce0⟩
      replace Rw := Lib.hid (Rw.out.later Ce0.below)
      replace O0_0 := Lib.hid (O0_0.out.later Ce0.below)
      replace O1_0 := Lib.hid (O1_0.out.later Ce0.below)
      replace Ri := Lib.hid (Ri.out.later Ce0.below)
      replace HB := Lib.hid (HB.out.trans (Ce0.below.mono HB.out.size))
      have sz8 : V7.heap.size ≤ V8.heap.size := Ce0.below.size
      go_wp2_with fail
      refine (eqf32s_any _ _ _ _ _ _ O0_0.out.row Ce0.o0.row b0_0 m0_0).mono ?_
      rintro e V9 ⟨rfl, q⟩
      replace Rw := Lib.hid (Rw.out.later q)
      replace O0_0 := Lib.hid (O0_0.out.later q)
      replace O1_0 := Lib.hid (O1_0.out.later q)
      replace Ri := Lib.hid (Ri.out.later q)
      replace HB := Lib.hid (HB.out.trans (q.mono HB.out.size))
      have sz9 : V8.heap.size ≤ V9.heap.size := q.size
      clear q
      go_wp2_with fail
      refine (tof32s_any _ _ _ _ (r1_0.later HB.out) n1_0).mono ?_
      rintro e V10 ⟨ge1_0, rfl, Ce1⟩
      replace Rw := Lib.hid (Rw.out.later Ce1.below)
      replace O0_0 := Lib.hid (O0_0.out.later Ce1.below)
      replace O1_0 := Lib.hid (O1_0.out.later Ce1.below)
      replace Ri := Lib.hid (Ri.out.later Ce1.below)
      replace HB := Lib.hid (HB.out.trans (Ce1.below.mono HB.out.size))
      have sz10 : V9.heap.size ≤ V10.heap.size := Ce1.below.size
      go_wp2_with fail
      refine (eqf32s_any _ _ _ _ _ _ O1_0.out.row Ce1.o0.row b1_0 m1_0).mono ?_
      rintro e V11 ⟨rfl, q⟩
      replace Rw := Lib.hid (Rw.out.later q)
      replace O0_0 := Lib.hid (O0_0.out.later q)
      replace O1_0 := Lib.hid (O1_0.out.later q)
      replace Ri := Lib.hid (Ri.out.later q)
      replace HB := Lib.hid (HB.out.trans (q.mono HB.out.size))
      have sz11 : V10.heap.size ≤ V11.heap.size := q.size
      clear q
      go_wp2_with fail
      have MK := markF _ _ x0_0.length (fvals x0_0) (1) _ O0_0.out (by omega) (by simp only [fvals_length]; omega)
      unfold Marked at MK
      simp only [fvals_length] at MK
      refine MK.mono ?_
      clear MK
      rintro e V12 ⟨rfl, Mo, Mg⟩
      have sz12 : V11.heap.size ≤ V12.heap.size := Mg.size
      have ot : Out V11 V12 V3.heap.size V4.heap.size := ⟨Mg.size, fun j hj hd => Mg.block j hj (so0_0.ne hd)⟩
      replace Rw := Lib.hid (Rw.out.outside ot lww (by omega))
      replace O1_0 := Lib.hid (O1_0.out.outside ot so1_0 (by omega))
      replace Ri := Lib.hid (Ri.out.outside ot spi (by omega))
      replace HB := Lib.hid (HB.out.grown Mg HB.out.size (fun k hk => by have h9 := O0_0.out.bound k hk; omega))
      replace O0_0 := Lib.hid Mo
      clear ot Mg Mo
      go_wp2_with fail
      have MK := markF _ _ x1_0.length (fvals x1_0) (1 + (x0_0.length : Int)) _ O1_0.out (by omega) (by simp only [fvals_length]; omega)
      unfold Marked at MK
      simp only [fvals_length] at MK
      refine MK.mono ?_
      clear MK
      rintro e V13 ⟨rfl, Mo, Mg⟩
      have sz13 : V12.heap.size ≤ V13.heap.size := Mg.size
      have ot : Out V12 V13 V4.heap.size V5.heap.size := ⟨Mg.size, fun j hj hd => Mg.block j hj (so1_0.ne hd)⟩
      replace Rw := Lib.hid (Rw.out.outside ot lww (by omega))
      replace O0_0 := Lib.hid (O0_0.out.outside ot so0_0 (by omega))
      replace Ri := Lib.hid (Ri.out.outside ot spi (by omega))
      replace HB := Lib.hid (HB.out.grown Mg HB.out.size (fun k hk => by have h9 := O1_0.out.bound k hk; omega))
      replace O1_0 := Lib.hid Mo
      clear ot Mg Mo
      have dk : ¬ (1 + (x0_0.length : Int) + (x1_0.length : Int) < 0) := by omega
      go_wp2_with fail
      refine (eqF32s _ _ _ _ _ _ _ Ri.out.row Rw.out (Si.out.same Sw.out) (few_max Si.out)).mono ?_
      rintro e V14 ⟨rfl, nq, hw⟩
      have q : Below V13.heap.size V13 V14 := by rw [hw]; exact below_drewN (Below.refl _ _) _
      clear hw
      replace Rw := Lib.hid (Rw.out.later q)
      replace O0_0 := Lib.hid (O0_0.out.later q)
      replace O1_0 := Lib.hid (O1_0.out.later q)
      replace Ri := Lib.hid (Ri.out.later q)
      replace HB := Lib.hid (HB.out.trans (q.mono HB.out.size))
      have sz14 : V13.heap.size ≤ V14.heap.size := q.size
      clear q
      clear dk
      have fyi := Si.out.few
      go_wp2_with fail
      have MK := markF V5.heap.size _ ci (fvals yi) 1 _ Ri.out (by omega) (by simp only [fvals_length]; omega)
      unfold Marked at MK
      simp only [fvals_length] at MK
      refine MK.mono ?_
      clear MK
      rintro e V15 ⟨rfl, Mo, Mg⟩
      have sz15 : V14.heap.size ≤ V15.heap.size := Mg.size
      have ot : Out V14 V15 V5.heap.size V6.heap.size := ⟨Mg.size, fun j hj hd => Mg.block j hj (spi.ne hd)⟩
      replace Rw := Lib.hid (Rw.out.outside ot lww (by omega))
      replace O0_0 := Lib.hid (O0_0.out.outside ot so0_0 (by omega))
      replace O1_0 := Lib.hid (O1_0.out.outside ot so1_0 (by omega))
      replace HB := Lib.hid (HB.out.grown Mg HB.out.size (fun k hk => by have h9 := Ri.out.bound k hk; omega))
      replace Ri := Lib.hid Mo
      clear ot Mg Mo
      go_wp2_with fail
      refine (heldF _ _ yi.length 1 _ Ri.out.row (by omega) (by omega)).mono ?_
      rintro e w' ⟨rfl, hw⟩
      subst hw
      have dm : ¬ ((1 : Int) + (yi.length : Int) < 0) := by omega
      go_wp2_with fail
      refine (tof32s_any _ _ _ _ (r0_0.later HB.out) n0_0).mono ?_
      rintro e V16 ⟨gh0_0, rfl, Ch0⟩
      replace Rw := Lib.hid (Rw.out.later Ch0.below)
      replace O0_0 := Lib.hid (O0_0.out.later Ch0.below)
      replace O1_0 := Lib.hid (O1_0.out.later Ch0.below)
      replace Ri := Lib.hid (Ri.out.later Ch0.below)
      replace HB := Lib.hid (HB.out.trans (Ch0.below.mono HB.out.size))
      have sz16 : V15.heap.size ≤ V16.heap.size := Ch0.below.size
      go_wp2_with fail
      refine (tof32s_any _ _ _ _ (r1_0.later HB.out) n1_0).mono ?_
      rintro e V17 ⟨gh1_0, rfl, Ch1⟩
      replace Rw := Lib.hid (Rw.out.later Ch1.below)
      replace O0_0 := Lib.hid (O0_0.out.later Ch1.below)
      replace O1_0 := Lib.hid (O1_0.out.later Ch1.below)
      replace Ri := Lib.hid (Ri.out.later Ch1.below)
      replace HB := Lib.hid (HB.out.trans (Ch1.below.mono HB.out.size))
      have sz17 : V16.heap.size ≤ V17.heap.size := Ch1.below.size
      go_wp2_with fail
      refine (implTimesWindowL _ _ _ _ _ _ _ (Ch0.o0.row.later Ch1.below) b0_0 m0_0 Ch1.o0.row b1_0 m1_0).mono ?_
      rintro e V18 ⟨ah, ch, yh, rfl, Gh⟩
      have bh := Gh.below
      replace Rw := Lib.hid (Rw.out.later bh)
      replace O0_0 := Lib.hid (O0_0.out.later bh)
      replace O1_0 := Lib.hid (O1_0.out.later bh)
      replace Ri := Lib.hid (Ri.out.later bh)
      replace HB := Lib.hid (HB.out.trans (bh.mono HB.out.size))
      have sz18 : V17.heap.size ≤ V18.heap.size := bh.size
      have Rh := Lib.hid Gh.o
      have sph := Gh.o.span
      have Sh := Lib.hid Gh.s
      go_wp2_with fail
      refine (eqF32s _ _ _ _ _ _ _ Rh.out.row Rw.out (Sh.out.same Sw.out) (few_max Sh.out)).mono ?_
      rintro e V19 ⟨rfl, nq, hw⟩
      have q : Below V18.heap.size V18 V19 := by rw [hw]; exact below_drewN (Below.refl _ _) _
      clear hw
      replace Rw := Lib.hid (Rw.out.later q)
      replace O0_0 := Lib.hid (O0_0.out.later q)
      replace O1_0 := Lib.hid (O1_0.out.later q)
      replace Ri := Lib.hid (Ri.out.later q)
      replace Rh := Lib.hid (Rh.out.later q)
      replace HB := Lib.hid (HB.out.trans (q.mono HB.out.size))
      have sz19 : V18.heap.size ≤ V19.heap.size := q.size
      clear q
      go_wp2_with fail
      refine (heldF _ _ yi.length 1 _ Ri.out.row (by omega) (by omega)).mono ?_
      rintro e w' ⟨rfl, hw⟩
      subst hw
      go_wp2
      go_ret
      exact ⟨rfl, HB.out⟩
    · skip
      have hm1 := m1_0; unfold maxLen at hm1
      have hp1 : (x1_0.length : Int) > 1048576 := by omega
      go_enter Try.func8, Try.ntmps8
      go_wp2
      go_ret
      exact ⟨rfl, HB.out⟩
  · skip
    have hm0 := m0_0; unfold maxLen at hm0
    have hp0 : (x0_0.length : Int) > 1048576 := by omega
    go_enter Try.func8, Try.ntmps8
    go_wp2
    go_ret
    exact ⟨rfl, HB.out⟩
end Go.Proofs.Ythihemfegjaenaa
