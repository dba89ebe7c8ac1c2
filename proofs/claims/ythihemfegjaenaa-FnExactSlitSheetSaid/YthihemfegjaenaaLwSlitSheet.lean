/- The walk of the law on SlitSheet. Conditions: none beyond those of each theorem. -/
import Derived.Test.YthihemfegjaenaaBu6
import Derived.Test.YthihemfegjaenaaBu25
import Derived.Test.YthihemfegjaenaaBu24
import Derived.Test.YthihemfegjaenaaKit4
import Derived.Test.YthihemfegjaenaaBu17
namespace Go.Proofs.Ythihemfegjaenaa
open Go Ieee Go.RowKit
set_option linter.unusedVariables false
set_option linter.unusedSimpArgs false

set_option maxHeartbeats 16000000 in
set_option maxRecDepth 100000 in
theorem fnExactSlitSheet_walk (wd0 : Int) (hi0 : Int) (wr0 : Bool) (a0_0 a0_1 : Option Addr) (c0_0 c0_1 : Nat) (x0_0 x0_1 : List Nat) (a1 : Int) (a2_0 : Option Addr) (c2_0 : Nat) (x2_0 : List Int) (w : World) (r0_0 : RowV w a0_0 (fvals x0_0)) (r0_1 : RowV w a0_1 (fvals x0_1)) (b0_0 : ∀ x ∈ x0_0, x < 2 ^ 32) (b0_1 : ∀ x ∈ x0_1, x < 2 ^ 32) (m0_0 : x0_0.length ≤ maxLen) (m0_1 : x0_1.length ≤ maxLen) (w1 : (Lit.int .i64 a1).wf = true) (r2_0 : RowV w a2_0 (ivals x2_0)) (m2_0 : x2_0.length ≤ maxLen) :
    Calls Try.prog 6 #[.agg #[.int .i64 wd0, .int .i64 hi0, .bool wr0, .slice a0_0 x0_0.length c0_0, .slice a0_1 x0_1.length c0_1], .int .i64 a1, .slice a2_0 x2_0.length c2_0] w fun e w' => e = .returned (.bool true) ∧ Below w.heap.size w w' := by
  have A0 := Blk.new w #[.int .i64 wd0, .int .i64 hi0, .bool wr0, .slice a0_0 x0_0.length c0_0, .slice a0_1 x0_1.length c0_1] 24
  have HB : Hid (Below w.heap.size w (w.alloc (.cells #[.int .i64 wd0, .int .i64 hi0, .bool wr0, .slice a0_0 x0_0.length c0_0, .slice a0_1 x0_1.length c0_1] 24))) := Lib.hid ((Below.refl w.heap.size w).alloc (by simp <;> omega) _)
  by_cases hn2 : (x2_0.length : Int) ≤ 1048576
  · skip
    by_cases hs0 : (x0_0.length : Int) + (x0_1.length : Int) ≤ 1048576
    · skip
      have n0_0 : x0_0.length ≤ 1048576 := by omega
      have n0_1 : x0_1.length ≤ 1048576 := by omega
      have n2_0 : x2_0.length ≤ 1048576 := by omega
      go_enter Try.func6, Try.ntmps6
      go_wp2_with fail
      generalize (w.alloc (.cells #[.int .i64 wd0, .int .i64 hi0, .bool wr0, .slice a0_0 x0_0.length c0_0, .slice a0_1 x0_1.length c0_1] 24)) = V1 at *
      obtain ⟨A0c, A0f⟩ := A0.open
      refine (szSheet_yes _ _ _ _ _ _ _ _ _ _ _ hs0 (by omega)).mono ?_
      rintro e V2 ⟨rfl, q⟩
      clear A0c A0f
      replace A0 := A0.later q
      replace HB := Lib.hid (HB.out.trans (q.mono HB.out.size))
      clear q
      have za0 := A0.lt
      have zh := HB.out.size
      obtain ⟨A0c, A0f⟩ := A0.open
      go_wp2_with fail
      clear hs0
      clear A0c A0f
      refine (toSheet_any _ _ _ _ _ _ _ _ _ _ (r0_0.later HB.out) (r0_1.later HB.out) n0_0 n0_1).mono ?_
      rintro e V3 ⟨gw0_0, gw0_1, rfl, Cw0⟩
      replace A0 := A0.later Cw0.below
      replace HB := Lib.hid (HB.out.trans (Cw0.below.mono HB.out.size))
      have sz3 : V2.heap.size ≤ V3.heap.size := Cw0.below.size
      go_wp2_with fail
      refine (toi64s_any _ _ _ _ (r2_0.later HB.out) n2_0).mono ?_
      rintro e V4 ⟨gw2_0, rfl, Cw2⟩
      replace A0 := A0.later Cw2.below
      replace HB := Lib.hid (HB.out.trans (Cw2.below.mono HB.out.size))
      have sz4 : V3.heap.size ≤ V4.heap.size := Cw2.below.size
      go_wp2_with fail
      refine (specSlitSheetL _ _ _ _ _ _ _ _ _ _ _ _ _ _ (Cw0.o0.row.later Cw2.below) (Cw0.o1.row.later Cw2.below) b0_0 b0_1 m0_0 m0_1 w1 Cw2.o0.row m2_0).mono ?_
      rintro e V5 ⟨aw0, aw1, cw0, cw1, yw0, yw1, rfl, Gw⟩
      have bw := Gw.below
      replace A0 := A0.later bw
      replace HB := Lib.hid (HB.out.trans (bw.mono HB.out.size))
      have sz5 : V4.heap.size ≤ V5.heap.size := bw.size
      have Rw0 := Lib.hid Gw.o0
      have lww0 := Gw.o0.low
      have Rw1 := Lib.hid Gw.o1
      have lww1 := Gw.o1.low
      have Sw0 := Lib.hid Gw.s0
      have Sw1 := Lib.hid Gw.s1
      have Bw := Blk.new V5 #[.int .i64 (ifI (slitB wd0 hi0 x0_0 x0_1 a1 x2_0) wd0), .int .i64 (ifI (slitB wd0 hi0 x0_0 x0_1 a1 x2_0) hi0), .bool (ifB (slitB wd0 hi0 x0_0 x0_1 a1 x2_0) wr0), .slice aw0 yw0.length cw0, .slice aw1 yw1.length cw1] 29
      have q := below_new V5 (.cells #[.int .i64 (ifI (slitB wd0 hi0 x0_0 x0_1 a1 x2_0) wd0), .int .i64 (ifI (slitB wd0 hi0 x0_0 x0_1 a1 x2_0) hi0), .bool (ifB (slitB wd0 hi0 x0_0 x0_1 a1 x2_0) wr0), .slice aw0 yw0.length cw0, .slice aw1 yw1.length cw1] 29)
      replace A0 := A0.later q
      replace Rw0 := Lib.hid (Rw0.out.later q)
      replace Rw1 := Lib.hid (Rw1.out.later q)
      replace HB := Lib.hid (HB.out.trans (q.mono HB.out.size))
      clear q
      obtain ⟨A0c, A0f⟩ := A0.open
      go_wp2_with fail
      generalize V5.alloc (.cells #[.int .i64 (ifI (slitB wd0 hi0 x0_0 x0_1 a1 x2_0) wd0), .int .i64 (ifI (slitB wd0 hi0 x0_0 x0_1 a1 x2_0) hi0), .bool (ifB (slitB wd0 hi0 x0_0 x0_1 a1 x2_0) wr0), .slice aw0 yw0.length cw0, .slice aw1 yw1.length cw1] 29) = V6 at *
      have sz6 : V5.heap.size < V6.heap.size := Bw.lt
      refine (toSheet_any _ _ _ _ _ _ _ _ _ _ (r0_0.later HB.out) (r0_1.later HB.out) n0_0 n0_1).mono ?_
      rintro e V7 ⟨gx0_0, gx0_1, rfl, Cx0⟩
      clear A0c A0f
      replace A0 := A0.later Cx0.below
      replace Bw := Bw.later Cx0.below
      replace Rw0 := Lib.hid (Rw0.out.later Cx0.below)
      replace Rw1 := Lib.hid (Rw1.out.later Cx0.below)
      replace HB := Lib.hid (HB.out.trans (Cx0.below.mono HB.out.size))
      have sz7 : V6.heap.size ≤ V7.heap.size := Cx0.below.size
      have O0_0 := Lib.hid Cx0.o0
      have so0_0 := Cx0.o0.span
      have O0_1 := Lib.hid Cx0.o1
      have so0_1 := Cx0.o1.span
      have ll0_0 := Cx0.l0
      have X0 := Blk.new V7 #[.int .i64 wd0, .int .i64 hi0, .bool wr0, .slice (some ⟨gx0_0, 0, none⟩) x0_0.length x0_0.length, .slice (some ⟨gx0_1, 0, none⟩) x0_1.length x0_1.length] 29
      have q := below_new V7 (.cells #[.int .i64 wd0, .int .i64 hi0, .bool wr0, .slice (some ⟨gx0_0, 0, none⟩) x0_0.length x0_0.length, .slice (some ⟨gx0_1, 0, none⟩) x0_1.length x0_1.length] 29)
      replace A0 := A0.later q
      replace Bw := Bw.later q
      replace Rw0 := Lib.hid (Rw0.out.later q)
      replace Rw1 := Lib.hid (Rw1.out.later q)
      replace O0_0 := Lib.hid (O0_0.out.later q)
      replace O0_1 := Lib.hid (O0_1.out.later q)
      replace HB := Lib.hid (HB.out.trans (q.mono HB.out.size))
      clear q
      go_wp2_with fail
      generalize V7.alloc (.cells #[.int .i64 wd0, .int .i64 hi0, .bool wr0, .slice (some ⟨gx0_0, 0, none⟩) x0_0.length x0_0.length, .slice (some ⟨gx0_1, 0, none⟩) x0_1.length x0_1.length] 29) = V8 at *
      have sz8 : V7.heap.size < V8.heap.size := X0.lt
      refine (toi64s_any _ _ _ _ (r2_0.later HB.out) n2_0).mono ?_
      rintro e V9 ⟨gx2_0, rfl, Cx2⟩
      replace A0 := A0.later Cx2.below
      replace Bw := Bw.later Cx2.below
      replace X0 := X0.later Cx2.below
      replace Rw0 := Lib.hid (Rw0.out.later Cx2.below)
      replace Rw1 := Lib.hid (Rw1.out.later Cx2.below)
      replace O0_0 := Lib.hid (O0_0.out.later Cx2.below)
      replace O0_1 := Lib.hid (O0_1.out.later Cx2.below)
      replace HB := Lib.hid (HB.out.trans (Cx2.below.mono HB.out.size))
      have sz9 : V8.heap.size ≤ V9.heap.size := Cx2.below.size
      have O2_0 := Lib.hid Cx2.o0
      have so2_0 := Cx2.o0.span
      obtain ⟨X0c, X0f⟩ := X0.open
      go_wp2_with fail
      clear X0c X0f
      refine (implSlitSheetL _ _ _ _ _ _ _ _ _ _ _ _ _ _ O0_0.out.row O0_1.out.row b0_0 b0_1 m0_0 m0_1 w1 O2_0.out.row m2_0).mono ?_
      rintro e V10 ⟨ai0, ai1, ci0, ci1, yi0, yi1, rfl, Gi⟩
      have bi := Gi.below
      replace A0 := A0.later bi
      replace Bw := Bw.later bi
      replace X0 := X0.later bi
      replace Rw0 := Lib.hid (Rw0.out.later bi)
      replace Rw1 := Lib.hid (Rw1.out.later bi)
      replace O0_0 := Lib.hid (O0_0.out.later bi)
      replace O0_1 := Lib.hid (O0_1.out.later bi)
      replace O2_0 := Lib.hid (O2_0.out.later bi)
      replace HB := Lib.hid (HB.out.trans (bi.mono HB.out.size))
      have sz10 : V9.heap.size ≤ V10.heap.size := bi.size
      have Ri0 := Lib.hid Gi.o0
      have spi0 := Gi.o0.span
      have Ri1 := Lib.hid Gi.o1
      have spi1 := Gi.o1.span
      have Si0 := Lib.hid Gi.s0
      have Si1 := Lib.hid Gi.s1
      have Bi := Blk.new V10 #[.int .i64 (ifI (slitB wd0 hi0 x0_0 x0_1 a1 x2_0) wd0), .int .i64 (ifI (slitB wd0 hi0 x0_0 x0_1 a1 x2_0) hi0), .bool (ifB (slitB wd0 hi0 x0_0 x0_1 a1 x2_0) wr0), .slice ai0 yi0.length ci0, .slice ai1 yi1.length ci1] 29
      have q := below_new V10 (.cells #[.int .i64 (ifI (slitB wd0 hi0 x0_0 x0_1 a1 x2_0) wd0), .int .i64 (ifI (slitB wd0 hi0 x0_0 x0_1 a1 x2_0) hi0), .bool (ifB (slitB wd0 hi0 x0_0 x0_1 a1 x2_0) wr0), .slice ai0 yi0.length ci0, .slice ai1 yi1.length ci1] 29)
      replace A0 := A0.later q
      replace Bw := Bw.later q
      replace X0 := X0.later q
      replace Rw0 := Lib.hid (Rw0.out.later q)
      replace Rw1 := Lib.hid (Rw1.out.later q)
      replace O0_0 := Lib.hid (O0_0.out.later q)
      replace O0_1 := Lib.hid (O0_1.out.later q)
      replace O2_0 := Lib.hid (O2_0.out.later q)
      replace Ri0 := Lib.hid (Ri0.out.later q)
      replace Ri1 := Lib.hid (Ri1.out.later q)
      replace HB := Lib.hid (HB.out.trans (q.mono HB.out.size))
      clear q
      obtain ⟨Bic, Bif⟩ := Bi.open
      obtain ⟨Bwc, Bwf⟩ := Bw.open
      go_wp2_with fail
      generalize V10.alloc (.cells #[.int .i64 (ifI (slitB wd0 hi0 x0_0 x0_1 a1 x2_0) wd0), .int .i64 (ifI (slitB wd0 hi0 x0_0 x0_1 a1 x2_0) hi0), .bool (ifB (slitB wd0 hi0 x0_0 x0_1 a1 x2_0) wr0), .slice ai0 yi0.length ci0, .slice ai1 yi1.length ci1] 29) = V11 at *
      have sz11 : V10.heap.size < V11.heap.size := Bi.lt
      clear Bic Bif
      clear Bwc Bwf
      refine (eqSheet_any _ _ _ _ _ _ _ _ _ _ _ _ _ _ _ _ Ri0.out.row Ri1.out.row Rw0.out Rw1.out (Si0.out.same Sw0.out) (Si1.out.same Sw1.out) (few_max Si0.out) (few_max Si1.out)).mono ?_
      rintro e V12 ⟨rfl, q⟩
      replace A0 := A0.later q
      replace Bw := Bw.later q
      replace X0 := X0.later q
      replace Bi := Bi.later q
      replace Rw0 := Lib.hid (Rw0.out.later q)
      replace Rw1 := Lib.hid (Rw1.out.later q)
      replace O0_0 := Lib.hid (O0_0.out.later q)
      replace O0_1 := Lib.hid (O0_1.out.later q)
      replace O2_0 := Lib.hid (O2_0.out.later q)
      replace Ri0 := Lib.hid (Ri0.out.later q)
      replace Ri1 := Lib.hid (Ri1.out.later q)
      replace HB := Lib.hid (HB.out.trans (q.mono HB.out.size))
      have sz12 : V11.heap.size ≤ V12.heap.size := q.size
      clear q
      obtain ⟨X0c, X0f⟩ := X0.open
      obtain ⟨A0c, A0f⟩ := A0.open
      go_wp2_with fail
      clear X0c X0f
      clear A0c A0f
      go_region_held3 (fun w' => (∀ i, w'.cell? ⟨V7.heap.size, i, none⟩ = (#[.int .i64 wd0, .int .i64 hi0, .bool wr0, .slice (some ⟨gx0_0, 0, none⟩) x0_0.length x0_0.length, .slice (some ⟨gx0_1, 0, none⟩) x0_1.length x0_1.length] : Array Value)[i]?) ∧ (∀ i, w'.cell? ⟨w.heap.size, i, none⟩ = (#[.int .i64 wd0, .int .i64 hi0, .bool wr0, .slice a0_0 x0_0.length c0_0, .slice a0_1 x0_1.length c0_1] : Array Value)[i]?) ∧ Below V12.heap.size V12 w') (first | with_reducible exact keep2_start X0 A0 | with_reducible exact keep2_later X0 A0 (by assumption) (by assumption))
        (first
          | (go_at_call 13; (with_reducible refine (toSheet_any _ _ _ _ _ _ _ _ _ _ (row_held2 r0_0 HB.out (by assumption)) (row_held2 r0_1 HB.out (by assumption)) n0_0 n0_1).mono ?_); rintro e V13 ⟨ge0_0, ge0_1, rfl, Ce0⟩; have qa0 := Ce0.below)
          | (go_at_call 16; (with_reducible refine (eqSheet_any _ _ _ _ _ _ _ _ _ _ _ _ _ _ _ _ (row_held2 O0_0.out.row (Below.refl _ _) (by assumption)) (row_held2 O0_1.out.row (Below.refl _ _) (by assumption)) Ce0.o0.row Ce0.o1.row (SameF.refl b0_0) (SameF.refl b0_1) m0_0 m0_1).mono ?_); rintro e V14 ⟨rfl, qa1⟩))
      have q := (below_next (below_next (below_drew V12) qa0) qa1)
      replace A0 := A0.later q
      replace Bw := Bw.later q
      replace X0 := X0.later q
      replace Bi := Bi.later q
      replace Rw0 := Lib.hid (Rw0.out.later q)
      replace Rw1 := Lib.hid (Rw1.out.later q)
      replace O0_0 := Lib.hid (O0_0.out.later q)
      replace O0_1 := Lib.hid (O0_1.out.later q)
      replace O2_0 := Lib.hid (O2_0.out.later q)
      replace Ri0 := Lib.hid (Ri0.out.later q)
      replace Ri1 := Lib.hid (Ri1.out.later q)
      replace HB := Lib.hid (HB.out.trans (q.mono HB.out.size))
      have sz14 : V12.heap.size ≤ V14.heap.size := q.size
      clear q
      go_wp2_with fail
      refine (toi64s_any _ _ _ _ (r2_0.later HB.out) n2_0).mono ?_
      rintro e V15 ⟨ge2_0, rfl, Ce2⟩
      replace A0 := A0.later Ce2.below
      replace Bw := Bw.later Ce2.below
      replace X0 := X0.later Ce2.below
      replace Bi := Bi.later Ce2.below
      replace Rw0 := Lib.hid (Rw0.out.later Ce2.below)
      replace Rw1 := Lib.hid (Rw1.out.later Ce2.below)
      replace O0_0 := Lib.hid (O0_0.out.later Ce2.below)
      replace O0_1 := Lib.hid (O0_1.out.later Ce2.below)
      replace O2_0 := Lib.hid (O2_0.out.later Ce2.below)
      replace Ri0 := Lib.hid (Ri0.out.later Ce2.below)
      replace Ri1 := Lib.hid (Ri1.out.later Ce2.below)
      replace HB := Lib.hid (HB.out.trans (Ce2.below.mono HB.out.size))
      have sz15 : V14.heap.size ≤ V15.heap.size := Ce2.below.size
      go_wp2_with fail
      refine (eqi64s_any _ _ _ _ _ _ O2_0.out.row Ce2.o0.row m2_0).mono ?_
      rintro e V16 ⟨rfl, q⟩
      replace A0 := A0.later q
      replace Bw := Bw.later q
      replace X0 := X0.later q
      replace Bi := Bi.later q
      replace Rw0 := Lib.hid (Rw0.out.later q)
      replace Rw1 := Lib.hid (Rw1.out.later q)
      replace O0_0 := Lib.hid (O0_0.out.later q)
      replace O0_1 := Lib.hid (O0_1.out.later q)
      replace O2_0 := Lib.hid (O2_0.out.later q)
      replace Ri0 := Lib.hid (Ri0.out.later q)
      replace Ri1 := Lib.hid (Ri1.out.later q)
      replace HB := Lib.hid (HB.out.trans (q.mono HB.out.size))
      have sz16 : V15.heap.size ≤ V16.heap.size := q.size
      clear q
      obtain ⟨X0c, X0f⟩ := X0.open
      go_wp2_with fail
      have MK := markSheet_any V6.heap.size wd0 hi0 wr0 _ _ (x0_0.length) (x0_1.length) (fvals x0_0) (fvals x0_1) (1) _ (by omega) O0_0.out O0_1.out (apart_ne (by omega)) (by omega) (by simp only [fvals_length]; omega)
      simp only [fvals_length] at MK
      refine MK.mono ?_
      clear MK
      rintro e V17 ⟨rfl, M⟩
      clear X0c X0f
      have sz17 : V16.heap.size ≤ V17.heap.size := M.below.size
      have ot : Out V16 V17 V6.heap.size V7.heap.size := ⟨M.below.size, fun j hj hd => M.keep j hj (so0_0.ne hd) (so0_1.ne hd)⟩
      replace A0 := A0.out ot (by omega)
      replace Bw := Bw.out ot (by omega)
      replace X0 := X0.out ot (by omega)
      replace Bi := Bi.out ot (by omega)
      replace Rw0 := Lib.hid (Rw0.out.outside ot lww0 (by omega))
      replace Rw1 := Lib.hid (Rw1.out.outside ot lww1 (by omega))
      replace O2_0 := Lib.hid (O2_0.out.outside ot so2_0 (by omega))
      replace Ri0 := Lib.hid (Ri0.out.outside ot spi0 (by omega))
      replace Ri1 := Lib.hid (Ri1.out.outside ot spi1 (by omega))
      replace O0_0 := Lib.hid M.o0
      replace O0_1 := Lib.hid M.o1
      replace HB := Lib.hid (HB.out.trans (M.below.mono (by omega)))
      clear ot M
      go_wp2_with fail
      have MK := markI _ _ x2_0.length (ivals x2_0) (1 + (x0_0.length : Int) + (x0_1.length : Int)) _ O2_0.out (by omega) (by simp only [ivals_length]; omega)
      unfold MarkedI at MK
      simp only [ivals_length] at MK
      refine MK.mono ?_
      clear MK
      rintro e V18 ⟨rfl, Mo, Mg⟩
      have sz18 : V17.heap.size ≤ V18.heap.size := Mg.size
      have ot : Out V17 V18 V8.heap.size V9.heap.size := ⟨Mg.size, fun j hj hd => Mg.block j hj (so2_0.ne hd)⟩
      replace A0 := A0.out ot (by omega)
      replace Bw := Bw.out ot (by omega)
      replace X0 := X0.out ot (by omega)
      replace Bi := Bi.out ot (by omega)
      replace Rw0 := Lib.hid (Rw0.out.outside ot lww0 (by omega))
      replace Rw1 := Lib.hid (Rw1.out.outside ot lww1 (by omega))
      replace O0_0 := Lib.hid (O0_0.out.outside ot so0_0 (by omega))
      replace O0_1 := Lib.hid (O0_1.out.outside ot so0_1 (by omega))
      replace Ri0 := Lib.hid (Ri0.out.outside ot spi0 (by omega))
      replace Ri1 := Lib.hid (Ri1.out.outside ot spi1 (by omega))
      replace HB := Lib.hid (HB.out.grown Mg HB.out.size (fun k hk => by have h9 := O2_0.out.bound k hk; omega))
      replace O2_0 := Lib.hid Mo
      clear ot Mg Mo
      have dk : ¬ (1 + (x0_0.length : Int) + (x0_1.length : Int) + (x2_0.length : Int) < 0) := by omega
      obtain ⟨Bic, Bif⟩ := Bi.open
      obtain ⟨Bwc, Bwf⟩ := Bw.open
      go_wp2_with fail
      refine (eqSheet_any _ _ _ _ _ _ _ _ _ _ _ _ _ _ _ _ Ri0.out.row Ri1.out.row Rw0.out Rw1.out (Si0.out.same Sw0.out) (Si1.out.same Sw1.out) (few_max Si0.out) (few_max Si1.out)).mono ?_
      rintro e V19 ⟨rfl, q⟩
      clear Bic Bif
      clear Bwc Bwf
      replace A0 := A0.later q
      replace Bw := Bw.later q
      replace X0 := X0.later q
      replace Bi := Bi.later q
      replace Rw0 := Lib.hid (Rw0.out.later q)
      replace Rw1 := Lib.hid (Rw1.out.later q)
      replace O0_0 := Lib.hid (O0_0.out.later q)
      replace O0_1 := Lib.hid (O0_1.out.later q)
      replace O2_0 := Lib.hid (O2_0.out.later q)
      replace Ri0 := Lib.hid (Ri0.out.later q)
      replace Ri1 := Lib.hid (Ri1.out.later q)
      replace HB := Lib.hid (HB.out.trans (q.mono HB.out.size))
      have sz19 : V18.heap.size ≤ V19.heap.size := q.size
      clear q
      clear dk
      have fy0 := Si0.out.few
      have fy1 := Si1.out.few
      obtain ⟨Bic, Bif⟩ := Bi.open
      go_wp2_with fail
      have MK := markSheet_any V9.heap.size (ifI (slitB wd0 hi0 x0_0 x0_1 a1 x2_0) wd0) (ifI (slitB wd0 hi0 x0_0 x0_1 a1 x2_0) hi0) (ifB (slitB wd0 hi0 x0_0 x0_1 a1 x2_0) wr0) _ _ (ci0) (ci1) (fvals yi0) (fvals yi1) 1 _ (by omega) Ri0.out Ri1.out Gi.p01 (by omega) (by simp only [fvals_length]; omega)
      simp only [fvals_length] at MK
      refine MK.mono ?_
      clear MK
      rintro e V20 ⟨rfl, M⟩
      clear Bic Bif
      have sz20 : V19.heap.size ≤ V20.heap.size := M.below.size
      have ot : Out V19 V20 V9.heap.size V10.heap.size := ⟨M.below.size, fun j hj hd => M.keep j hj (spi0.ne hd) (spi1.ne hd)⟩
      replace A0 := A0.out ot (by omega)
      replace Bw := Bw.out ot (by omega)
      replace X0 := X0.out ot (by omega)
      replace Bi := Bi.out ot (by omega)
      replace Rw0 := Lib.hid (Rw0.out.outside ot lww0 (by omega))
      replace Rw1 := Lib.hid (Rw1.out.outside ot lww1 (by omega))
      replace O0_0 := Lib.hid (O0_0.out.outside ot so0_0 (by omega))
      replace O0_1 := Lib.hid (O0_1.out.outside ot so0_1 (by omega))
      replace O2_0 := Lib.hid (O2_0.out.outside ot so2_0 (by omega))
      replace Ri0 := Lib.hid M.o0
      replace Ri1 := Lib.hid M.o1
      replace HB := Lib.hid (HB.out.trans (M.below.mono (by omega)))
      clear ot M
      obtain ⟨Bic, Bif⟩ := Bi.open
      go_wp2_with fail
      refine (heldSheet_any (ifI (slitB wd0 hi0 x0_0 x0_1 a1 x2_0) wd0) (ifI (slitB wd0 hi0 x0_0 x0_1 a1 x2_0) hi0) (ifB (slitB wd0 hi0 x0_0 x0_1 a1 x2_0) wr0) _ _ _ _ yi0.length yi1.length 1 _ Ri0.out.row Ri1.out.row (by omega) (by omega)).mono ?_
      rintro e V21 ⟨rfl, q⟩
      clear Bic Bif
      replace A0 := A0.later q
      replace Bw := Bw.later q
      replace X0 := X0.later q
      replace Bi := Bi.later q
      replace Rw0 := Lib.hid (Rw0.out.later q)
      replace Rw1 := Lib.hid (Rw1.out.later q)
      replace O0_0 := Lib.hid (O0_0.out.later q)
      replace O0_1 := Lib.hid (O0_1.out.later q)
      replace O2_0 := Lib.hid (O2_0.out.later q)
      replace Ri0 := Lib.hid (Ri0.out.later q)
      replace Ri1 := Lib.hid (Ri1.out.later q)
      replace HB := Lib.hid (HB.out.trans (q.mono HB.out.size))
      have sz21 : V20.heap.size ≤ V21.heap.size := q.size
      clear q
      have dm : ¬ (1 + (yi0.length : Int) + (yi1.length : Int) < 0) := by omega
      obtain ⟨A0c, A0f⟩ := A0.open
      go_wp2_with fail
      refine (toSheet_any _ _ _ _ _ _ _ _ _ _ (r0_0.later HB.out) (r0_1.later HB.out) n0_0 n0_1).mono ?_
      rintro e V22 ⟨gh0_0, gh0_1, rfl, Ch0⟩
      clear A0c A0f
      replace A0 := A0.later Ch0.below
      replace Bw := Bw.later Ch0.below
      replace X0 := X0.later Ch0.below
      replace Bi := Bi.later Ch0.below
      replace Rw0 := Lib.hid (Rw0.out.later Ch0.below)
      replace Rw1 := Lib.hid (Rw1.out.later Ch0.below)
      replace O0_0 := Lib.hid (O0_0.out.later Ch0.below)
      replace O0_1 := Lib.hid (O0_1.out.later Ch0.below)
      replace O2_0 := Lib.hid (O2_0.out.later Ch0.below)
      replace Ri0 := Lib.hid (Ri0.out.later Ch0.below)
      replace Ri1 := Lib.hid (Ri1.out.later Ch0.below)
      replace HB := Lib.hid (HB.out.trans (Ch0.below.mono HB.out.size))
      have sz22 : V21.heap.size ≤ V22.heap.size := Ch0.below.size
      go_wp2_with fail
      refine (toi64s_any _ _ _ _ (r2_0.later HB.out) n2_0).mono ?_
      rintro e V23 ⟨gh2_0, rfl, Ch2⟩
      replace A0 := A0.later Ch2.below
      replace Bw := Bw.later Ch2.below
      replace X0 := X0.later Ch2.below
      replace Bi := Bi.later Ch2.below
      replace Rw0 := Lib.hid (Rw0.out.later Ch2.below)
      replace Rw1 := Lib.hid (Rw1.out.later Ch2.below)
      replace O0_0 := Lib.hid (O0_0.out.later Ch2.below)
      replace O0_1 := Lib.hid (O0_1.out.later Ch2.below)
      replace O2_0 := Lib.hid (O2_0.out.later Ch2.below)
      replace Ri0 := Lib.hid (Ri0.out.later Ch2.below)
      replace Ri1 := Lib.hid (Ri1.out.later Ch2.below)
      replace HB := Lib.hid (HB.out.trans (Ch2.below.mono HB.out.size))
      have sz23 : V22.heap.size ≤ V23.heap.size := Ch2.below.size
      go_wp2_with fail
      refine (implSlitSheetL _ _ _ _ _ _ _ _ _ _ _ _ _ _ (Ch0.o0.row.later Ch2.below) (Ch0.o1.row.later Ch2.below) b0_0 b0_1 m0_0 m0_1 w1 Ch2.o0.row m2_0).mono ?_
      rintro e V24 ⟨ah0, ah1, ch0, ch1, yh0, yh1, rfl, Gh⟩
      have bh := Gh.below
      replace A0 := A0.later bh
      replace Bw := Bw.later bh
      replace X0 := X0.later bh
      replace Bi := Bi.later bh
      replace Rw0 := Lib.hid (Rw0.out.later bh)
      replace Rw1 := Lib.hid (Rw1.out.later bh)
      replace O0_0 := Lib.hid (O0_0.out.later bh)
      replace O0_1 := Lib.hid (O0_1.out.later bh)
      replace O2_0 := Lib.hid (O2_0.out.later bh)
      replace Ri0 := Lib.hid (Ri0.out.later bh)
      replace Ri1 := Lib.hid (Ri1.out.later bh)
      replace HB := Lib.hid (HB.out.trans (bh.mono HB.out.size))
      have sz24 : V23.heap.size ≤ V24.heap.size := bh.size
      have Rh0 := Lib.hid Gh.o0
      have sph0 := Gh.o0.span
      have Rh1 := Lib.hid Gh.o1
      have sph1 := Gh.o1.span
      have Bh := Blk.new V24 #[.int .i64 (ifI (slitB wd0 hi0 x0_0 x0_1 a1 x2_0) wd0), .int .i64 (ifI (slitB wd0 hi0 x0_0 x0_1 a1 x2_0) hi0), .bool (ifB (slitB wd0 hi0 x0_0 x0_1 a1 x2_0) wr0), .slice ah0 yh0.length ch0, .slice ah1 yh1.length ch1] 29
      have q := below_new V24 (.cells #[.int .i64 (ifI (slitB wd0 hi0 x0_0 x0_1 a1 x2_0) wd0), .int .i64 (ifI (slitB wd0 hi0 x0_0 x0_1 a1 x2_0) hi0), .bool (ifB (slitB wd0 hi0 x0_0 x0_1 a1 x2_0) wr0), .slice ah0 yh0.length ch0, .slice ah1 yh1.length ch1] 29)
      replace A0 := A0.later q
      replace Bw := Bw.later q
      replace X0 := X0.later q
      replace Bi := Bi.later q
      replace Rw0 := Lib.hid (Rw0.out.later q)
      replace Rw1 := Lib.hid (Rw1.out.later q)
      replace O0_0 := Lib.hid (O0_0.out.later q)
      replace O0_1 := Lib.hid (O0_1.out.later q)
      replace O2_0 := Lib.hid (O2_0.out.later q)
      replace Ri0 := Lib.hid (Ri0.out.later q)
      replace Ri1 := Lib.hid (Ri1.out.later q)
      replace Rh0 := Lib.hid (Rh0.out.later q)
      replace Rh1 := Lib.hid (Rh1.out.later q)
      replace HB := Lib.hid (HB.out.trans (q.mono HB.out.size))
      clear q
      obtain ⟨Bhc, Bhf⟩ := Bh.open
      obtain ⟨Bwc, Bwf⟩ := Bw.open
      go_wp2_with fail
      generalize V24.alloc (.cells #[.int .i64 (ifI (slitB wd0 hi0 x0_0 x0_1 a1 x2_0) wd0), .int .i64 (ifI (slitB wd0 hi0 x0_0 x0_1 a1 x2_0) hi0), .bool (ifB (slitB wd0 hi0 x0_0 x0_1 a1 x2_0) wr0), .slice ah0 yh0.length ch0, .slice ah1 yh1.length ch1] 29) = V25 at *
      have sz25 : V24.heap.size < V25.heap.size := Bh.lt
      have Sh0 := Lib.hid Gh.s0
      have Sh1 := Lib.hid Gh.s1
      clear Bhc Bhf
      clear Bwc Bwf
      refine (eqSheet_any _ _ _ _ _ _ _ _ _ _ _ _ _ _ _ _ Rh0.out.row Rh1.out.row Rw0.out Rw1.out (Sh0.out.same Sw0.out) (Sh1.out.same Sw1.out) (few_max Sh0.out) (few_max Sh1.out)).mono ?_
      rintro e V26 ⟨rfl, q⟩
      replace A0 := A0.later q
      replace Bw := Bw.later q
      replace X0 := X0.later q
      replace Bi := Bi.later q
      replace Bh := Bh.later q
      replace Rw0 := Lib.hid (Rw0.out.later q)
      replace Rw1 := Lib.hid (Rw1.out.later q)
      replace O0_0 := Lib.hid (O0_0.out.later q)
      replace O0_1 := Lib.hid (O0_1.out.later q)
      replace O2_0 := Lib.hid (O2_0.out.later q)
      replace Ri0 := Lib.hid (Ri0.out.later q)
      replace Ri1 := Lib.hid (Ri1.out.later q)
      replace Rh0 := Lib.hid (Rh0.out.later q)
      replace Rh1 := Lib.hid (Rh1.out.later q)
      replace HB := Lib.hid (HB.out.trans (q.mono HB.out.size))
      have sz26 : V25.heap.size ≤ V26.heap.size := q.size
      clear q
      obtain ⟨Bic, Bif⟩ := Bi.open
      go_wp2_with fail
      refine (heldSheet_any (ifI (slitB wd0 hi0 x0_0 x0_1 a1 x2_0) wd0) (ifI (slitB wd0 hi0 x0_0 x0_1 a1 x2_0) hi0) (ifB (slitB wd0 hi0 x0_0 x0_1 a1 x2_0) wr0) _ _ _ _ yi0.length yi1.length 1 _ Ri0.out.row Ri1.out.row (by omega) (by omega)).mono ?_
      rintro e V27 ⟨rfl, q⟩
      clear Bic Bif
      replace A0 := A0.later q
      replace Bw := Bw.later q
      replace X0 := X0.later q
      replace Bi := Bi.later q
      replace Bh := Bh.later q
      replace Rw0 := Lib.hid (Rw0.out.later q)
      replace Rw1 := Lib.hid (Rw1.out.later q)
      replace O0_0 := Lib.hid (O0_0.out.later q)
      replace O0_1 := Lib.hid (O0_1.out.later q)
      replace O2_0 := Lib.hid (O2_0.out.later q)
      replace Ri0 := Lib.hid (Ri0.out.later q)
      replace Ri1 := Lib.hid (Ri1.out.later q)
      replace Rh0 := Lib.hid (Rh0.out.later q)
      replace Rh1 := Lib.hid (Rh1.out.later q)
      replace HB := Lib.hid (HB.out.trans (q.mono HB.out.size))
      have sz27 : V26.heap.size ≤ V27.heap.size := q.size
      clear q
      go_wp2
      go_ret
      exact ⟨rfl, HB.out⟩
    · skip
      go_enter Try.func6, Try.ntmps6
      go_wp2_with fail
      generalize (w.alloc (.cells #[.int .i64 wd0, .int .i64 hi0, .bool wr0, .slice a0_0 x0_0.length c0_0, .slice a0_1 x0_1.length c0_1] 24)) = V1 at *
      obtain ⟨A0c, A0f⟩ := A0.open
      refine (szSheet_no _ _ _ _ _ _ _ _ _ _ _ (by omega) (by omega) (by omega) m0_0 m0_1).mono ?_
      rintro e V2 ⟨rfl, q⟩
      clear A0c A0f
      replace A0 := A0.later q
      replace HB := Lib.hid (HB.out.trans (q.mono HB.out.size))
      have sz2 : V1.heap.size ≤ V2.heap.size := q.size
      clear q
      go_wp2
      go_ret
      exact ⟨rfl, HB.out⟩
  · skip
    have hm2 := m2_0; unfold maxLen at hm2
    have hp2 : (x2_0.length : Int) > 1048576 := by omega
    go_enter Try.func6, Try.ntmps6
    go_wp2_with fail
    generalize (w.alloc (.cells #[.int .i64 wd0, .int .i64 hi0, .bool wr0, .slice a0_0 x0_0.length c0_0, .slice a0_1 x0_1.length c0_1] 24)) = V1 at *
    go_wp2
    go_ret
    exact ⟨rfl, HB.out⟩
end Go.Proofs.Ythihemfegjaenaa
