/- The walk of the law on WindowOf. Conditions: none beyond those of each theorem. -/
import Derived.Test.YthihemfegjaenaaBu23
import Derived.Test.YthihemfegjaenaaBu2
namespace Go.Proofs.Ythihemfegjaenaa
open Go Ieee Go.RowKit
set_option linter.unusedVariables false
set_option linter.unusedSimpArgs false

set_option maxHeartbeats 16000000 in
set_option maxRecDepth 100000 in
theorem fnExactWindowOf_walk (a0 : Int) (a1 : Int) (w : World) (w0 : (Lit.int .i64 a0).wf = true) (w1 : (Lit.int .i64 a1).wf = true) :
    Calls Try.prog 7 #[.int .i64 a0, .int .i64 a1] w fun e w' => e = .returned (.bool true) ∧ Below w.heap.size w w' := by
  have HB : Hid (Below w.heap.size w w) := Lib.hid (Below.refl w.heap.size w)
  go_enter Try.func7, Try.ntmps7
  have zh := HB.out.size
  go_wp2_with fail
  refine (specWindowOfL _ _ _ w0 w1).mono ?_
  rintro e V1 ⟨aw, cw, yw, rfl, Gw⟩
  have bw := Gw.below
  replace HB := Lib.hid (HB.out.trans (bw.mono HB.out.size))
  have sz1 : w.heap.size ≤ V1.heap.size := bw.size
  have Rw := Lib.hid Gw.o.row
  have lww := Gw.o.row.low
  have Sw := Lib.hid Gw.s
  go_wp2_with fail
  refine (implWindowOfL _ _ _ w0 w1).mono ?_
  rintro e V2 ⟨ai, ci, yi, rfl, Gi⟩
  have bi := Gi.below
  replace Rw := Lib.hid (Rw.out.later bi)
  replace HB := Lib.hid (HB.out.trans (bi.mono HB.out.size))
  have sz2 : V1.heap.size ≤ V2.heap.size := bi.size
  have Ri := Lib.hid Gi.o
  have spi := Gi.o.span
  have Si := Lib.hid Gi.s
  go_wp2_with fail
  refine (eqF32s _ _ _ _ _ _ _ Ri.out.row Rw.out (Si.out.same Sw.out) (few_max Si.out)).mono ?_
  rintro e V3 ⟨rfl, nq, hw⟩
  have q : Below V2.heap.size V2 V3 := by rw [hw]; exact below_drewN (Below.refl _ _) _
  clear hw
  replace Rw := Lib.hid (Rw.out.later q)
  replace Ri := Lib.hid (Ri.out.later q)
  replace HB := Lib.hid (HB.out.trans (q.mono HB.out.size))
  have sz3 : V2.heap.size ≤ V3.heap.size := q.size
  clear q
  have fyi := Si.out.few
  go_wp2_with fail
  have MK := markF V1.heap.size _ ci (fvals yi) 1 _ Ri.out (by omega) (by simp only [fvals_length]; omega)
  unfold Marked at MK
  simp only [fvals_length] at MK
  refine MK.mono ?_
  clear MK
  rintro e V4 ⟨rfl, Mo, Mg⟩
  have sz4 : V3.heap.size ≤ V4.heap.size := Mg.size
  have ot : Out V3 V4 V1.heap.size V2.heap.size := ⟨Mg.size, fun j hj hd => Mg.block j hj (spi.ne hd)⟩
  replace Rw := Lib.hid (Rw.out.outside ot lww (by omega))
  replace HB := Lib.hid (HB.out.grown Mg HB.out.size (fun k hk => by have h9 := Ri.out.bound k hk; omega))
  replace Ri := Lib.hid Mo
  clear ot Mg Mo
  go_wp2_with fail
  refine (heldF _ _ yi.length 1 _ Ri.out.row (by omega) (by omega)).mono ?_
  rintro e w' ⟨rfl, hw⟩
  subst hw
  have dm : ¬ ((1 : Int) + (yi.length : Int) < 0) := by omega
  go_wp2_with fail
  refine (implWindowOfL _ _ _ w0 w1).mono ?_
  rintro e V5 ⟨ah, ch, yh, rfl, Gh⟩
  have bh := Gh.below
  replace Rw := Lib.hid (Rw.out.later bh)
  replace Ri := Lib.hid (Ri.out.later bh)
  replace HB := Lib.hid (HB.out.trans (bh.mono HB.out.size))
  have sz5 : V4.heap.size ≤ V5.heap.size := bh.size
  have Rh := Lib.hid Gh.o
  have sph := Gh.o.span
  have Sh := Lib.hid Gh.s
  go_wp2_with fail
  refine (eqF32s _ _ _ _ _ _ _ Rh.out.row Rw.out (Sh.out.same Sw.out) (few_max Sh.out)).mono ?_
  rintro e V6 ⟨rfl, nq, hw⟩
  have q : Below V5.heap.size V5 V6 := by rw [hw]; exact below_drewN (Below.refl _ _) _
  clear hw
  replace Rw := Lib.hid (Rw.out.later q)
  replace Ri := Lib.hid (Ri.out.later q)
  replace Rh := Lib.hid (Rh.out.later q)
  replace HB := Lib.hid (HB.out.trans (q.mono HB.out.size))
  have sz6 : V5.heap.size ≤ V6.heap.size := q.size
  clear q
  go_wp2_with fail
  refine (heldF _ _ yi.length 1 _ Ri.out.row (by omega) (by omega)).mono ?_
  rintro e w' ⟨rfl, hw⟩
  subst hw
  go_wp2
  go_ret
  exact ⟨rfl, HB.out⟩
end Go.Proofs.Ythihemfegjaenaa
