/- The walk of the law on SpectrumOf. Conditions: none beyond those of each theorem. -/
import Derived.Test.YthihemfegjaenaaBu27
import Derived.Test.YthihemfegjaenaaBu24
import Derived.Test.YthihemfegjaenaaBu2
namespace Go.Proofs.Ythihemfegjaenaa
open Go Ieee Go.RowKit
set_option linter.unusedVariables false
set_option linter.unusedSimpArgs false

set_option maxHeartbeats 16000000 in
set_option maxRecDepth 100000 in
theorem fnExactSpectrumOf_walk (a0_0 : Option Addr) (c0_0 : Nat) (x0_0 : List Nat) (w : World) (r0_0 : RowV w a0_0 (fvals x0_0)) (b0_0 : ∀ x ∈ x0_0, x < 2 ^ 32) (m0_0 : x0_0.length ≤ maxLen) :
    Calls Try.prog 10 #[.slice a0_0 x0_0.length c0_0] w fun e w' => e = .returned (.bool true) ∧ Below w.heap.size w w' := by
  have HB : Hid (Below w.heap.size w w) := Lib.hid (Below.refl w.heap.size w)
  by_cases hn0 : (x0_0.length : Int) ≤ 1048576
  · skip
    have n0_0 : x0_0.length ≤ 1048576 := by omega
    go_enter Try.func10, Try.ntmps10
    have zh := HB.out.size
    go_wp2_with fail
    refine (tof32s_any _ _ _ _ (r0_0.later HB.out) n0_0).mono ?_
    rintro e V1 ⟨gw0_0, rfl, Cw0⟩
    replace HB := Lib.hid (HB.out.trans (Cw0.below.mono HB.out.size))
    have sz1 : w.heap.size ≤ V1.heap.size := Cw0.below.size
    go_wp2_with fail
    refine (specSpectrumOfL _ _ _ _ Cw0.o0.row b0_0 m0_0).mono ?_
    rintro e V2 ⟨aw, cw, yw, rfl, Gw⟩
    have bw := Gw.below
    replace HB := Lib.hid (HB.out.trans (bw.mono HB.out.size))
    have sz2 : V1.heap.size ≤ V2.heap.size := bw.size
    have Rw := Lib.hid Gw.o.row
    have lww := Gw.o.row.low
    have Sw := Lib.hid Gw.s
    go_wp2_with fail
    refine (tof32s_any _ _ _ _ (r0_0.later HB.out) n0_0).mono ?_
    rintro e V3 ⟨gx0_0, rfl, Cx0⟩
    replace Rw := Lib.hid (Rw.out.later Cx0.below)
    replace HB := Lib.hid (HB.out.trans (Cx0.below.mono HB.out.size))
    have sz3 : V2.heap.size ≤ V3.heap.size := Cx0.below.size
    have O0_0 := Lib.hid Cx0.o0
    have so0_0 := Cx0.o0.span
    go_wp2_with fail
    refine (implSpectrumOfL _ _ _ _ O0_0.out.row b0_0 m0_0).mono ?_
    rintro e V4 ⟨ai, ci, yi, rfl, Gi⟩
    have bi := Gi.below
    replace Rw := Lib.hid (Rw.out.later bi)
    replace O0_0 := Lib.hid (O0_0.out.later bi)
    replace HB := Lib.hid (HB.out.trans (bi.mono HB.out.size))
    have sz4 : V3.heap.size ≤ V4.heap.size := bi.size
    have Ri := Lib.hid Gi.o
    have spi := Gi.o.span
    have Si := Lib.hid Gi.s
    go_wp2_with fail
    refine (eqC64s _ _ _ _ _ _ _ _ Ri.out.row Rw.out Si.out Sw.out).mono ?_
    rintro e V5 ⟨rfl, nq, hw⟩
    have q : Below V4.heap.size V4 V5 := by rw [hw]; exact below_drewN (Below.refl _ _) _
    clear hw
    replace Rw := Lib.hid (Rw.out.later q)
    replace O0_0 := Lib.hid (O0_0.out.later q)
    replace Ri := Lib.hid (Ri.out.later q)
    replace HB := Lib.hid (HB.out.trans (q.mono HB.out.size))
    have sz5 : V4.heap.size ≤ V5.heap.size := q.size
    clear q
    go_wp2_with fail
    refine (tof32s_any _ _ _ _ (r0_0.later HB.out) n0_0).mono ?_
    rintro e V6 ⟨ge0_0, rfl, Ce0⟩
    replace Rw := Lib.hid (Rw.out.later Ce0.below)
    replace O0_0 := Lib.hid (O0_0.out.later Ce0.below)
    replace Ri := Lib.hid (Ri.out.later Ce0.below)
    replace HB := Lib.hid (HB.out.trans (Ce0.below.mono HB.out.size))
    have sz6 : V5.heap.size ≤ V6.heap.size := Ce0.below.size
    go_wp2_with fail
    refine (eqf32s_any _ _ _ _ _ _ O0_0.out.row Ce0.o0.row b0_0 m0_0).mono ?_
    rintro e V7 ⟨rfl, q⟩
    replace Rw := Lib.hid (Rw.out.later q)
    replace O0_0 := Lib.hid (O0_0.out.later q)
    replace Ri := Lib.hid (Ri.out.later q)
    replace HB := Lib.hid (HB.out.trans (q.mono HB.out.size))
    have sz7 : V6.heap.size ≤ V7.heap.size := q.size
    clear q
    go_wp2_with fail
    have MK := markF _ _ x0_0.length (fvals x0_0) (1) _ O0_0.out (by omega) (by simp only [fvals_length]; omega)
    unfold Marked at MK
    simp only [fvals_length] at MK
    refine MK.mono ?_
    clear MK
    rintro e V8 ⟨rfl, Mo, Mg⟩
    have sz8 : V7.heap.size ≤ V8.heap.size := Mg.size
    have ot : Out V7 V8 V2.heap.size V3.heap.size := ⟨Mg.size, fun j hj hd => Mg.block j hj (so0_0.ne hd)⟩
    replace Rw := Lib.hid (Rw.out.outside ot lww (by omega))
    replace Ri := Lib.hid (Ri.out.outside ot spi (by omega))
    replace HB := Lib.hid (HB.out.grown Mg HB.out.size (fun k hk => by have h9 := O0_0.out.bound k hk; omega))
    replace O0_0 := Lib.hid Mo
    clear ot Mg Mo
    have dk : ¬ (1 + (x0_0.length : Int) < 0) := by omega
    go_wp2_with fail
    refine (eqC64s _ _ _ _ _ _ _ _ Ri.out.row Rw.out Si.out Sw.out).mono ?_
    rintro e V9 ⟨rfl, nq, hw⟩
    have q : Below V8.heap.size V8 V9 := by rw [hw]; exact below_drewN (Below.refl _ _) _
    clear hw
    replace Rw := Lib.hid (Rw.out.later q)
    replace O0_0 := Lib.hid (O0_0.out.later q)
    replace Ri := Lib.hid (Ri.out.later q)
    replace HB := Lib.hid (HB.out.trans (q.mono HB.out.size))
    have sz9 : V8.heap.size ≤ V9.heap.size := q.size
    clear q
    clear dk
    have fyi := Si.out.few
    go_wp2_with fail
    have MK := markC V3.heap.size _ ci (cvals yi) 1 _ Ri.out (by omega) (by simp only [cvals_length]; omega)
    unfold MarkedC at MK
    simp only [cvals_length] at MK
    refine MK.mono ?_
    clear MK
    rintro e V10 ⟨rfl, Mo, Mg⟩
    have sz10 : V9.heap.size ≤ V10.heap.size := Mg.size
    have ot : Out V9 V10 V3.heap.size V4.heap.size := ⟨Mg.size, fun j hj hd => Mg.block j hj (spi.ne hd)⟩
    replace Rw := Lib.hid (Rw.out.outside ot lww (by omega))
    replace O0_0 := Lib.hid (O0_0.out.outside ot so0_0 (by omega))
    replace HB := Lib.hid (HB.out.grown Mg HB.out.size (fun k hk => by have h9 := Ri.out.bound k hk; omega))
    replace Ri := Lib.hid Mo
    clear ot Mg Mo
    go_wp2_with fail
    refine (heldC _ _ yi.length 1 _ Ri.out.row (by omega) (by omega)).mono ?_
    rintro e w' ⟨rfl, hw⟩
    subst hw
    have dm : ¬ ((1 : Int) + (yi.length : Int) < 0) := by omega
    go_wp2_with fail
    refine (tof32s_any _ _ _ _ (r0_0.later HB.out) n0_0).mono ?_
    rintro e V11 ⟨gh0_0, rfl, Ch0⟩
    replace Rw := Lib.hid (Rw.out.later Ch0.below)
    replace O0_0 := Lib.hid (O0_0.out.later Ch0.below)
    replace Ri := Lib.hid (Ri.out.later Ch0.below)
    replace HB := Lib.hid (HB.out.trans (Ch0.below.mono HB.out.size))
    have sz11 : V10.heap.size ≤ V11.heap.size := Ch0.below.size
    go_wp2_with fail
    refine (implSpectrumOfL _ _ _ _ Ch0.o0.row b0_0 m0_0).mono ?_
    rintro e V12 ⟨ah, ch, yh, rfl, Gh⟩
    have bh := Gh.below
    replace Rw := Lib.hid (Rw.out.later bh)
    replace O0_0 := Lib.hid (O0_0.out.later bh)
    replace Ri := Lib.hid (Ri.out.later bh)
    replace HB := Lib.hid (HB.out.trans (bh.mono HB.out.size))
    have sz12 : V11.heap.size ≤ V12.heap.size := bh.size
    have Rh := Lib.hid Gh.o
    have sph := Gh.o.span
    have Sh := Lib.hid Gh.s
    go_wp2_with fail
    refine (eqC64s _ _ _ _ _ _ _ _ Rh.out.row Rw.out Sh.out Sw.out).mono ?_
    rintro e V13 ⟨rfl, nq, hw⟩
    have q : Below V12.heap.size V12 V13 := by rw [hw]; exact below_drewN (Below.refl _ _) _
    clear hw
    replace Rw := Lib.hid (Rw.out.later q)
    replace O0_0 := Lib.hid (O0_0.out.later q)
    replace Ri := Lib.hid (Ri.out.later q)
    replace Rh := Lib.hid (Rh.out.later q)
    replace HB := Lib.hid (HB.out.trans (q.mono HB.out.size))
    have sz13 : V12.heap.size ≤ V13.heap.size := q.size
    clear q
    go_wp2_with fail
    refine (heldC _ _ yi.length 1 _ Ri.out.row (by omega) (by omega)).mono ?_
    rintro e w' ⟨rfl, hw⟩
    subst hw
    go_wp2
    go_ret
    exact ⟨rfl, HB.out⟩
  · skip
    have hm0 := m0_0; unfold maxLen at hm0
    have hp0 : (x0_0.length : Int) > 1048576 := by omega
    go_enter Try.func10, Try.ntmps10
    go_wp2
    go_ret
    exact ⟨rfl, HB.out⟩
end Go.Proofs.Ythihemfegjaenaa
