/- The walk of the law on PlainSheet. Conditions: none beyond those of each theorem. -/
import Derived.Test.YtkcododhfliobabBu6
import Derived.Test.YtkcododhfliobabPlain2
import Derived.Test.YtkcododhfliobabBu2
namespace Go.Proofs.Ytkcododhfliobab
open Go Ieee Go.RowKit
set_option linter.unusedVariables false

set_option maxHeartbeats 16000000 in
set_option maxRecDepth 100000 in
theorem fnExactPlainSheet_walk (a0 : Int) (a1 : Int) (a2 : Bool) (a3 : Nat) (w : World) (w0 : (Lit.int .i64 a0).wf = true) (w1 : (Lit.int .i64 a1).wf = true) (w3 : a3 < 2 ^ 32) :
    Calls Try.prog 4 #[.int .i64 a0, .int .i64 a1, .bool a2, .float .f32 a3] w fun e w' => e = .returned (.bool true) ∧ Below w.heap.size w w' := by
  have HB : Hid (Below w.heap.size w w) := Lib.hid (Below.refl w.heap.size w)
  go_enter Try.func4, Try.ntmps4
  have zh := HB.out.size
  go_wp2_with fail
  refine (specPlainSheetL _ _ _ _ _ w0 w1 w3).mono ?_
  rintro e V1 ⟨aw0, aw1, cw0, cw1, yw0, yw1, rfl, Gw⟩
  have bw := Gw.below
  have szbw := bw.size
  replace HB := Lib.hid (HB.out.trans (bw.mono HB.out.size))
  have Rw0 := Lib.hid Gw.o0
  have lww0 := Gw.o0.low
  have Rw1 := Lib.hid Gw.o1
  have lww1 := Gw.o1.low
  have Sw0 := Lib.hid Gw.s0
  have Sw1 := Lib.hid Gw.s1
  have Bw := Blk.new V1 #[.int .i64 (ifI (plainB a0 a1 a3) a0), .int .i64 (ifI (plainB a0 a1 a3) a1), .bool (ifB (plainB a0 a1 a3) a2), .slice aw0 yw0.length cw0, .slice aw1 yw1.length cw1] 32
  have q := below_new V1 (.cells #[.int .i64 (ifI (plainB a0 a1 a3) a0), .int .i64 (ifI (plainB a0 a1 a3) a1), .bool (ifB (plainB a0 a1 a3) a2), .slice aw0 yw0.length cw0, .slice aw1 yw1.length cw1] 32)
  replace Rw0 := Lib.hid (Rw0.out.later q)
  replace Rw1 := Lib.hid (Rw1.out.later q)
  replace HB := Lib.hid (HB.out.trans (q.mono HB.out.size))
  clear q
  go_wp2_with fail
  generalize V1.alloc (.cells #[.int .i64 (ifI (plainB a0 a1 a3) a0), .int .i64 (ifI (plainB a0 a1 a3) a1), .bool (ifB (plainB a0 a1 a3) a2), .slice aw0 yw0.length cw0, .slice aw1 yw1.length cw1] 32) = V2 at *
  have sz2 : V1.heap.size < V2.heap.size := Bw.lt
  refine (implPlainSheetL _ _ _ _ _ w0 w1 w3).mono ?_
  rintro e V3 ⟨ai0, ai1, ci0, ci1, yi0, yi1, rfl, Gi⟩
  have bi := Gi.below
  replace Bw := Bw.later bi
  replace Rw0 := Lib.hid (Rw0.out.later bi)
  replace Rw1 := Lib.hid (Rw1.out.later bi)
  replace HB := Lib.hid (HB.out.trans (bi.mono HB.out.size))
  have sz3 : V2.heap.size ≤ V3.heap.size := bi.size
  have Ri0 := Lib.hid Gi.o0
  have spi0 := Gi.o0.span
  have Ri1 := Lib.hid Gi.o1
  have spi1 := Gi.o1.span
  have Si0 := Lib.hid Gi.s0
  have Si1 := Lib.hid Gi.s1
  have Bi := Blk.new V3 #[.int .i64 (ifI (plainB a0 a1 a3) a0), .int .i64 (ifI (plainB a0 a1 a3) a1), .bool (ifB (plainB a0 a1 a3) a2), .slice ai0 yi0.length ci0, .slice ai1 yi1.length ci1] 32
  have q := below_new V3 (.cells #[.int .i64 (ifI (plainB a0 a1 a3) a0), .int .i64 (ifI (plainB a0 a1 a3) a1), .bool (ifB (plainB a0 a1 a3) a2), .slice ai0 yi0.length ci0, .slice ai1 yi1.length ci1] 32)
  replace Bw := Bw.later q
  replace Rw0 := Lib.hid (Rw0.out.later q)
  replace Rw1 := Lib.hid (Rw1.out.later q)
  replace Ri0 := Lib.hid (Ri0.out.later q)
  replace Ri1 := Lib.hid (Ri1.out.later q)
  replace HB := Lib.hid (HB.out.trans (q.mono HB.out.size))
  clear q
  obtain ⟨Bic, Bif⟩ := Bi.open
  obtain ⟨Bwc, Bwf⟩ := Bw.open
  go_wp2_with fail
  generalize V3.alloc (.cells #[.int .i64 (ifI (plainB a0 a1 a3) a0), .int .i64 (ifI (plainB a0 a1 a3) a1), .bool (ifB (plainB a0 a1 a3) a2), .slice ai0 yi0.length ci0, .slice ai1 yi1.length ci1] 32) = V4 at *
  have sz4 : V3.heap.size < V4.heap.size := Bi.lt
  clear Bic Bif
  clear Bwc Bwf
  refine (eqSheet_any _ _ _ _ _ _ _ _ _ _ _ _ _ _ _ _ Ri0.out.row Ri1.out.row Rw0.out Rw1.out (Si0.out.same Sw0.out) (Si1.out.same Sw1.out) (few_max Si0.out) (few_max Si1.out)).mono ?_
  rintro e V5 ⟨rfl, q⟩
  replace Bw := Bw.later q
  replace Bi := Bi.later q
  replace Rw0 := Lib.hid (Rw0.out.later q)
  replace Rw1 := Lib.hid (Rw1.out.later q)
  replace Ri0 := Lib.hid (Ri0.out.later q)
  replace Ri1 := Lib.hid (Ri1.out.later q)
  replace HB := Lib.hid (HB.out.trans (q.mono HB.out.size))
  have sz5 : V4.heap.size ≤ V5.heap.size := q.size
  clear q
  have fy0 := Si0.out.few
  have fy1 := Si1.out.few
  obtain ⟨Bic, Bif⟩ := Bi.open
  go_wp2_with fail
  have MK := markSheet_any V2.heap.size (ifI (plainB a0 a1 a3) a0) (ifI (plainB a0 a1 a3) a1) (ifB (plainB a0 a1 a3) a2) _ _ (ci0) (ci1) (fvals yi0) (fvals yi1) 1 _ (by omega) Ri0.out Ri1.out Gi.p01 (by omega) (by simp only [fvals_length]; omega)
  simp only [fvals_length] at MK
  refine MK.mono ?_
  clear MK
  rintro e V6 ⟨rfl, M⟩
  clear Bic Bif
  have sz6 : V5.heap.size ≤ V6.heap.size := M.below.size
  have ot : Out V5 V6 V2.heap.size V3.heap.size := ⟨M.below.size, fun j hj hd => M.keep j hj (spi0.ne hd) (spi1.ne hd)⟩
  replace Bw := Bw.out ot (by omega)
  replace Bi := Bi.out ot (by omega)
  replace Rw0 := Lib.hid (Rw0.out.outside ot lww0 (by omega))
  replace Rw1 := Lib.hid (Rw1.out.outside ot lww1 (by omega))
  replace Ri0 := Lib.hid M.o0
  replace Ri1 := Lib.hid M.o1
  replace HB := Lib.hid (HB.out.trans (M.below.mono (by omega)))
  clear ot M
  obtain ⟨Bic, Bif⟩ := Bi.open
  go_wp2_with fail
  refine (heldSheet_any (ifI (plainB a0 a1 a3) a0) (ifI (plainB a0 a1 a3) a1) (ifB (plainB a0 a1 a3) a2) _ _ _ _ yi0.length yi1.length 1 _ Ri0.out.row Ri1.out.row (by omega) (by omega)).mono ?_
  rintro e V7 ⟨rfl, q⟩
  clear Bic Bif
  replace Bw := Bw.later q
  replace Bi := Bi.later q
  replace Rw0 := Lib.hid (Rw0.out.later q)
  replace Rw1 := Lib.hid (Rw1.out.later q)
  replace Ri0 := Lib.hid (Ri0.out.later q)
  replace Ri1 := Lib.hid (Ri1.out.later q)
  replace HB := Lib.hid (HB.out.trans (q.mono HB.out.size))
  have sz7 : V6.heap.size ≤ V7.heap.size := q.size
  clear q
  have dm : ¬ (1 + (yi0.length : Int) + (yi1.length : Int) < 0) := by omega
  go_wp2_with fail
  refine (implPlainSheetL _ _ _ _ _ w0 w1 w3).mono ?_
  rintro e V8 ⟨ah0, ah1, ch0, ch1, yh0, yh1, rfl, Gh⟩
  have bh := Gh.below
  replace Bw := Bw.later bh
  replace Bi := Bi.later bh
  replace Rw0 := Lib.hid (Rw0.out.later bh)
  replace Rw1 := Lib.hid (Rw1.out.later bh)
  replace Ri0 := Lib.hid (Ri0.out.later bh)
  replace Ri1 := Lib.hid (Ri1.out.later bh)
  replace HB := Lib.hid (HB.out.trans (bh.mono HB.out.size))
  have sz8 : V7.heap.size ≤ V8.heap.size := bh.size
  have Rh0 := Lib.hid Gh.o0
  have sph0 := Gh.o0.span
  have Rh1 := Lib.hid Gh.o1
  have sph1 := Gh.o1.span
  have Bh := Blk.new V8 #[.int .i64 (ifI (plainB a0 a1 a3) a0), .int .i64 (ifI (plainB a0 a1 a3) a1), .bool (ifB (plainB a0 a1 a3) a2), .slice ah0 yh0.length ch0, .slice ah1 yh1.length ch1] 32
  have q := below_new V8 (.cells #[.int .i64 (ifI (plainB a0 a1 a3) a0), .int .i64 (ifI (plainB a0 a1 a3) a1), .bool (ifB (plainB a0 a1 a3) a2), .slice ah0 yh0.length ch0, .slice ah1 yh1.length ch1] 32)
  replace Bw := Bw.later q
  replace Bi := Bi.later q
  replace Rw0 := Lib.hid (Rw0.out.later q)
  replace Rw1 := Lib.hid (Rw1.out.later q)
  replace Ri0 := Lib.hid (Ri0.out.later q)
  replace Ri1 := Lib.hid (Ri1.out.later q)
  replace Rh0 := Lib.hid (Rh0.out.later q)
  replace Rh1 := Lib.hid (Rh1.out.later q)
  replace HB := Lib.hid (HB.out.trans (q.mono HB.out.size))
  clear q
  obtain ⟨Bhc, Bhf⟩ := Bh.open
  obtain ⟨Bwc, Bwf⟩ := Bw.open
  go_wp2_with fail
  generalize V8.alloc (.cells #[.int .i64 (ifI (plainB a0 a1 a3) a0), .int .i64 (ifI (plainB a0 a1 a3) a1), .bool (ifB (plainB a0 a1 a3) a2), .slice ah0 yh0.length ch0, .slice ah1 yh1.length ch1] 32) = V9 at *
  have sz9 : V8.heap.size < V9.heap.size := Bh.lt
  have Sh0 := Lib.hid Gh.s0
  have Sh1 := Lib.hid Gh.s1
  clear Bhc Bhf
  clear Bwc Bwf
  refine (eqSheet_any _ _ _ _ _ _ _ _ _ _ _ _ _ _ _ _ Rh0.out.row Rh1.out.row Rw0.out Rw1.out (Sh0.out.same Sw0.out) (Sh1.out.same Sw1.out) (few_max Sh0.out) (few_max Sh1.out)).mono ?_
  rintro e V10 ⟨rfl, q⟩
  replace Bw := Bw.later q
  replace Bi := Bi.later q
  replace Bh := Bh.later q
  replace Rw0 := Lib.hid (Rw0.out.later q)
  replace Rw1 := Lib.hid (Rw1.out.later q)
  replace Ri0 := Lib.hid (Ri0.out.later q)
  replace Ri1 := Lib.hid (Ri1.out.later q)
  replace Rh0 := Lib.hid (Rh0.out.later q)
  replace Rh1 := Lib.hid (Rh1.out.later q)
  replace HB := Lib.hid (HB.out.trans (q.mono HB.out.size))
  have sz10 : V9.heap.size ≤ V10.heap.size := q.size
  clear q
  obtain ⟨Bic, Bif⟩ := Bi.open
  go_wp2_with fail
  refine (heldSheet_any (ifI (plainB a0 a1 a3) a0) (ifI (plainB a0 a1 a3) a1) (ifB (plainB a0 a1 a3) a2) _ _ _ _ yi0.length yi1.length 1 _ Ri0.out.row Ri1.out.row (by omega) (by omega)).mono ?_
  rintro e V11 ⟨rfl, q⟩
  clear Bic Bif
  replace Bw := Bw.later q
  replace Bi := Bi.later q
  replace Bh := Bh.later q
  replace Rw0 := Lib.hid (Rw0.out.later q)
  replace Rw1 := Lib.hid (Rw1.out.later q)
  replace Ri0 := Lib.hid (Ri0.out.later q)
  replace Ri1 := Lib.hid (Ri1.out.later q)
  replace Rh0 := Lib.hid (Rh0.out.later q)
  replace Rh1 := Lib.hid (Rh1.out.later q)
  replace HB := Lib.hid (HB.out.trans (q.mono HB.out.size))
  have sz11 : V10.heap.size ≤ V11.heap.size := q.size
  clear q
  go_wp2
  go_ret
  exact ⟨rfl, HB.out⟩
end Go.Proofs.Ytkcododhfliobab
