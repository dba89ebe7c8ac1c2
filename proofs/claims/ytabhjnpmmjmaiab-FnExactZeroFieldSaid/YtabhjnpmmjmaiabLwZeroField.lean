/- The walk of the law on ZeroField. Conditions: none beyond those of each theorem. -/
import Derived.Test.YtabhjnpmmjmaiabStSheet
import Derived.Test.YtabhjnpmmjmaiabStField
import Derived.Test.YtabhjnpmmjmaiabZero2
import Derived.Test.YtabhjnpmmjmaiabKit2
namespace Go.Proofs.Ytabhjnpmmjmaiab
open Go Ieee Go.RowKit
set_option linter.unusedVariables false

set_option maxHeartbeats 16000000 in
set_option maxRecDepth 100000 in
theorem fnExactZeroField_walk (wd0 : Int) (hi0 : Int) (wr0 : Bool) (a0_0 a0_1 : Option Addr) (c0_0 c0_1 : Nat) (x0_0 x0_1 : List Nat) (w : World) (r0_0 : RowV w a0_0 (fvals x0_0)) (r0_1 : RowV w a0_1 (fvals x0_1)) (b0_0 : ∀ x ∈ x0_0, x < 2 ^ 32) (b0_1 : ∀ x ∈ x0_1, x < 2 ^ 32) (m0_0 : x0_0.length ≤ maxLen) (m0_1 : x0_1.length ≤ maxLen) :
    Calls Try.prog 8 #[.agg #[.int .i64 wd0, .int .i64 hi0, .bool wr0, .slice a0_0 x0_0.length c0_0, .slice a0_1 x0_1.length c0_1]] w fun e w' => e = .returned (.bool true) ∧ Below w.heap.size w w' := by
  have A0 := Blk.new w #[.int .i64 wd0, .int .i64 hi0, .bool wr0, .slice a0_0 x0_0.length c0_0, .slice a0_1 x0_1.length c0_1] 24
  have HB : Hid (Below w.heap.size w (w.alloc (.cells #[.int .i64 wd0, .int .i64 hi0, .bool wr0, .slice a0_0 x0_0.length c0_0, .slice a0_1 x0_1.length c0_1] 24))) := Lib.hid ((Below.refl w.heap.size w).alloc (by simp <;> omega) _)
  by_cases hs0 : (x0_0.length : Int) + (x0_1.length : Int) ≤ 1048576
  · skip
    have n0_0 : x0_0.length ≤ 1048576 := by omega
    have n0_1 : x0_1.length ≤ 1048576 := by omega
    go_enter Try.func8, Try.ntmps8
    go_wp2_with fail
    generalize (w.alloc (.cells #[.int .i64 wd0, .int .i64 hi0, .bool wr0, .slice a0_0 x0_0.length c0_0, .slice a0_1 x0_1.length c0_1] 24)) = u1 at *
    obtain ⟨A0c, A0f⟩ := A0.open
    refine (szSheet_yes _ _ _ _ _ _ _ _ _ _ _ hs0 (by omega)).mono ?_
    rintro e u2 ⟨rfl, q⟩
    clear A0c A0f
    replace A0 := A0.later q
    replace HB := Lib.hid (HB.out.trans (q.mono HB.out.size))
    clear q
    have za0 := A0.lt
    have zh := HB.out.size
    obtain ⟨A0c, A0f⟩ := A0.open
    go_wp2_with fail
    clear hs0
    clear A0c A0f
    refine (toSheet_any _ _ _ _ _ _ _ _ _ _ (r0_0.later HB.out) (r0_1.later HB.out) n0_0 n0_1).mono ?_
    rintro e u3 ⟨gw0_0, gw0_1, rfl, Cw0⟩
    replace A0 := A0.later Cw0.below
    replace HB := Lib.hid (HB.out.trans (Cw0.below.mono HB.out.size))
    have sz3 : u2.heap.size ≤ u3.heap.size := Cw0.below.size
    go_wp2_with fail
    refine (specZeroFieldL _ _ _ _ _ _ _ _ _ _ Cw0.o0.row Cw0.o1.row b0_0 b0_1 m0_0 m0_1).mono ?_
    rintro e u4 ⟨aw0, aw1, aw2, cw0, cw1, cw2, yw0, yw1, yw2, rfl, Gw⟩
    have bw := Gw.below
    replace A0 := A0.later bw
    replace HB := Lib.hid (HB.out.trans (bw.mono HB.out.size))
    have sz4 : u3.heap.size ≤ u4.heap.size := bw.size
    have Rw0 := Lib.hid Gw.o0
    have lww0 := Gw.o0.low
    have Rw1 := Lib.hid Gw.o1
    have lww1 := Gw.o1.low
    have Rw2 := Lib.hid Gw.o2
    have lww2 := Gw.o2.low
    have Sw0 := Lib.hid Gw.s0
    have Sw1 := Lib.hid Gw.s1
    have Sw2 := Lib.hid Gw.s2
    have Bw := Blk.new u4 #[.slice aw0 yw0.length cw0, .slice aw1 yw1.length cw1, .slice aw2 yw2.length cw2] 41
    have q := below_new u4 (.cells #[.slice aw0 yw0.length cw0, .slice aw1 yw1.length cw1, .slice aw2 yw2.length cw2] 41)
    replace A0 := A0.later q
    replace Rw0 := Lib.hid (Rw0.out.later q)
    replace Rw1 := Lib.hid (Rw1.out.later q)
    replace Rw2 := Lib.hid (Rw2.out.later q)
    replace HB := Lib.hid (HB.out.trans (q.mono HB.out.size))
    clear q
    obtain ⟨A0c, A0f⟩ := A0.open
    go_wp2_with fail
    generalize u4.alloc (.cells #[.slice aw0 yw0.length cw0, .slice aw1 yw1.length cw1, .slice aw2 yw2.length cw2] 41) = u5 at *
    have sz5 : u4.heap.size < u5.heap.size := Bw.lt
    refine (toSheet_any _ _ _ _ _ _ _ _ _ _ (r0_0.later HB.out) (r0_1.later HB.out) n0_0 n0_1).mono ?_
    rintro e u6 ⟨gx0_0, gx0_1, rfl, Cx0⟩
    clear A0c A0f
    replace A0 := A0.later Cx0.below
    replace Bw := Bw.later Cx0.below
    replace Rw0 := Lib.hid (Rw0.out.later Cx0.below)
    replace Rw1 := Lib.hid (Rw1.out.later Cx0.below)
    replace Rw2 := Lib.hid (Rw2.out.later Cx0.below)
    replace HB := Lib.hid (HB.out.trans (Cx0.below.mono HB.out.size))
    have sz6 : u5.heap.size ≤ u6.heap.size := Cx0.below.size
    have O0_0 := Lib.hid Cx0.o0
    have so0_0 := Cx0.o0.span
    have O0_1 := Lib.hid Cx0.o1
    have so0_1 := Cx0.o1.span
    have ll0_0 := Cx0.l0
    have X0 := Blk.new u6 #[.int .i64 wd0, .int .i64 hi0, .bool wr0, .slice (some ⟨gx0_0, 0, none⟩) x0_0.length x0_0.length, .slice (some ⟨gx0_1, 0, none⟩) x0_1.length x0_1.length] 27
    have q := below_new u6 (.cells #[.int .i64 wd0, .int .i64 hi0, .bool wr0, .slice (some ⟨gx0_0, 0, none⟩) x0_0.length x0_0.length, .slice (some ⟨gx0_1, 0, none⟩) x0_1.length x0_1.length] 27)
    replace A0 := A0.later q
    replace Bw := Bw.later q
    replace Rw0 := Lib.hid (Rw0.out.later q)
    replace Rw1 := Lib.hid (Rw1.out.later q)
    replace Rw2 := Lib.hid (Rw2.out.later q)
    replace O0_0 := Lib.hid (O0_0.out.later q)
    replace O0_1 := Lib.hid (O0_1.out.later q)
    replace HB := Lib.hid (HB.out.trans (q.mono HB.out.size))
    clear q
    obtain ⟨X0c, X0f⟩ := X0.open
    go_wp2_with fail
    generalize u6.alloc (.cells #[.int .i64 wd0, .int .i64 hi0, .bool wr0, .slice (some ⟨gx0_0, 0, none⟩) x0_0.length x0_0.length, .slice (some ⟨gx0_1, 0, none⟩) x0_1.length x0_1.length] 27) = u7 at *
    have sz7 : u6.heap.size < u7.heap.size := X0.lt
    clear X0c X0f
    refine (implZeroFieldL _ _ _ _ _ _ _ _ _ _ O0_0.out.row O0_1.out.row b0_0 b0_1 m0_0 m0_1).mono ?_
    rintro e u8 ⟨ai0, ai1, ai2, ci0, ci1, ci2, yi0, yi1, yi2, rfl, Gi⟩
    have bi := Gi.below
    replace A0 := A0.later bi
    replace Bw := Bw.later bi
    replace X0 := X0.later bi
    replace Rw0 := Lib.hid (Rw0.out.later bi)
    replace Rw1 := Lib.hid (Rw1.out.later bi)
    replace Rw2 := Lib.hid (Rw2.out.later bi)
    replace O0_0 := Lib.hid (O0_0.out.later bi)
    replace O0_1 := Lib.hid (O0_1.out.later bi)
    replace HB := Lib.hid (HB.out.trans (bi.mono HB.out.size))
    have sz8 : u7.heap.size ≤ u8.heap.size := bi.size
    have Ri0 := Lib.hid Gi.o0
    have spi0 := Gi.o0.span
    have Ri1 := Lib.hid Gi.o1
    have spi1 := Gi.o1.span
    have Ri2 := Lib.hid Gi.o2
    have spi2 := Gi.o2.span
    have Si0 := Lib.hid Gi.s0
    have Si1 := Lib.hid Gi.s1
    have Si2 := Lib.hid Gi.s2
    have Bi := Blk.new u8 #[.slice ai0 yi0.length ci0, .slice ai1 yi1.length ci1, .slice ai2 yi2.length ci2] 41
    have q := below_new u8 (.cells #[.slice ai0 yi0.length ci0, .slice ai1 yi1.length ci1, .slice ai2 yi2.length ci2] 41)
    replace A0 := A0.later q
    replace Bw := Bw.later q
    replace X0 := X0.later q
    replace Rw0 := Lib.hid (Rw0.out.later q)
    replace Rw1 := Lib.hid (Rw1.out.later q)
    replace Rw2 := Lib.hid (Rw2.out.later q)
    replace O0_0 := Lib.hid (O0_0.out.later q)
    replace O0_1 := Lib.hid (O0_1.out.later q)
    replace Ri0 := Lib.hid (Ri0.out.later q)
    replace Ri1 := Lib.hid (Ri1.out.later q)
    replace Ri2 := Lib.hid (Ri2.out.later q)
    replace HB := Lib.hid (HB.out.trans (q.mono HB.out.size))
    clear q
    obtain ⟨Bic, Bif⟩ := Bi.open
    obtain ⟨Bwc, Bwf⟩ := Bw.open
    go_wp2_with fail
    generalize u8.alloc (.cells #[.slice ai0 yi0.length ci0, .slice ai1 yi1.length ci1, .slice ai2 yi2.length ci2] 41) = u9 at *
    have sz9 : u8.heap.size < u9.heap.size := Bi.lt
    clear Bic Bif
    clear Bwc Bwf
    refine (eqField_any _ _ _ _ _ _ _ _ _ _ _ _ _ _ _ _ _ _ _ Ri0.out.row Ri1.out.row Ri2.out.row Rw0.out Rw1.out Rw2.out (Si0.out.same Sw0.out) (Si1.out.same Sw1.out) (Si2.out.same Sw2.out) (few_max Si0.out) (few_max Si1.out) (few_max Si2.out)).mono ?_
    rintro e u10 ⟨rfl, q⟩
    replace A0 := A0.later q
    replace Bw := Bw.later q
    replace X0 := X0.later q
    replace Bi := Bi.later q
    replace Rw0 := Lib.hid (Rw0.out.later q)
    replace Rw1 := Lib.hid (Rw1.out.later q)
    replace Rw2 := Lib.hid (Rw2.out.later q)
    replace O0_0 := Lib.hid (O0_0.out.later q)
    replace O0_1 := Lib.hid (O0_1.out.later q)
    replace Ri0 := Lib.hid (Ri0.out.later q)
    replace Ri1 := Lib.hid (Ri1.out.later q)
    replace Ri2 := Lib.hid (Ri2.out.later q)
    replace HB := Lib.hid (HB.out.trans (q.mono HB.out.size))
    have sz10 : u9.heap.size ≤ u10.heap.size := q.size
    clear q
    obtain ⟨X0c, X0f⟩ := X0.open
    obtain ⟨A0c, A0f⟩ := A0.open
    go_wp2_with fail
    clear X0c X0f
    clear A0c A0f
    go_region_held3 (fun w' => (∀ i, w'.cell? ⟨u6.heap.size, i, none⟩ = (#[.int .i64 wd0, .int .i64 hi0, .bool wr0, .slice (some ⟨gx0_0, 0, none⟩) x0_0.length x0_0.length, .slice (some ⟨gx0_1, 0, none⟩) x0_1.length x0_1.length] : Array Value)[i]?) ∧ (∀ i, w'.cell? ⟨w.heap.size, i, none⟩ = (#[.int .i64 wd0, .int .i64 hi0, .bool wr0, .slice a0_0 x0_0.length c0_0, .slice a0_1 x0_1.length c0_1] : Array Value)[i]?) ∧ Below u10.heap.size u10 w') (first | exact keep2_start X0 A0 | exact keep2_later X0 A0 (by assumption) (by assumption))
      (first
        | (go_at_call 17; (with_reducible refine (toSheet_any _ _ _ _ _ _ _ _ _ _ (row_held2 r0_0 HB.out (by assumption)) (row_held2 r0_1 HB.out (by assumption)) n0_0 n0_1).mono ?_); rintro e u11 ⟨ge0_0, ge0_1, rfl, Ce0⟩; have qa0 := Ce0.below)
        | (go_at_call 19; (with_reducible refine (eqSheet_any _ _ _ _ _ _ _ _ _ _ _ _ _ _ _ _ (row_held2 O0_0.out.row (Below.refl _ _) (by assumption)) (row_held2 O0_1.out.row (Below.refl _ _) (by assumption)) Ce0.o0.row Ce0.o1.row (SameF.refl b0_0) (SameF.refl b0_1) m0_0 m0_1).mono ?_); rintro e u12 ⟨rfl, qa1⟩))
    have q := (below_next (below_next (below_drew u10) qa0) qa1)
    replace A0 := A0.later q
    replace Bw := Bw.later q
    replace X0 := X0.later q
    replace Bi := Bi.later q
    replace Rw0 := Lib.hid (Rw0.out.later q)
    replace Rw1 := Lib.hid (Rw1.out.later q)
    replace Rw2 := Lib.hid (Rw2.out.later q)
    replace O0_0 := Lib.hid (O0_0.out.later q)
    replace O0_1 := Lib.hid (O0_1.out.later q)
    replace Ri0 := Lib.hid (Ri0.out.later q)
    replace Ri1 := Lib.hid (Ri1.out.later q)
    replace Ri2 := Lib.hid (Ri2.out.later q)
    replace HB := Lib.hid (HB.out.trans (q.mono HB.out.size))
    have sz12 : u10.heap.size ≤ u12.heap.size := q.size
    clear q
    obtain ⟨X0c, X0f⟩ := X0.open
    go_wp2_with fail
    have MK := markSheet_any u5.heap.size wd0 hi0 wr0 _ _ (x0_0.length) (x0_1.length) (fvals x0_0) (fvals x0_1) (1) _ (by omega) O0_0.out O0_1.out (apart_ne (by omega)) (by omega) (by simp only [fvals_length]; omega)
    simp only [fvals_length] at MK
    refine MK.mono ?_
    clear MK
    rintro e u13 ⟨rfl, M⟩
    clear X0c X0f
    have sz13 : u12.heap.size ≤ u13.heap.size := M.below.size
    have ot : Out u12 u13 u5.heap.size u6.heap.size := ⟨M.below.size, fun j hj hd => M.keep j hj (so0_0.ne hd) (so0_1.ne hd)⟩
    replace A0 := A0.out ot (by omega)
    replace Bw := Bw.out ot (by omega)
    replace X0 := X0.out ot (by omega)
    replace Bi := Bi.out ot (by omega)
    replace Rw0 := Lib.hid (Rw0.out.outside ot lww0 (by omega))
    replace Rw1 := Lib.hid (Rw1.out.outside ot lww1 (by omega))
    replace Rw2 := Lib.hid (Rw2.out.outside ot lww2 (by omega))
    replace Ri0 := Lib.hid (Ri0.out.outside ot spi0 (by omega))
    replace Ri1 := Lib.hid (Ri1.out.outside ot spi1 (by omega))
    replace Ri2 := Lib.hid (Ri2.out.outside ot spi2 (by omega))
    replace O0_0 := Lib.hid M.o0
    replace O0_1 := Lib.hid M.o1
    replace HB := Lib.hid (HB.out.trans (M.below.mono (by omega)))
    clear ot M
    have dk : ¬ (1 + (x0_0.length : Int) + (x0_1.length : Int) < 0) := by omega
    obtain ⟨Bic, Bif⟩ := Bi.open
    obtain ⟨Bwc, Bwf⟩ := Bw.open
    go_wp2_with fail
    refine (eqField_any _ _ _ _ _ _ _ _ _ _ _ _ _ _ _ _ _ _ _ Ri0.out.row Ri1.out.row Ri2.out.row Rw0.out Rw1.out Rw2.out (Si0.out.same Sw0.out) (Si1.out.same Sw1.out) (Si2.out.same Sw2.out) (few_max Si0.out) (few_max Si1.out) (few_max Si2.out)).mono ?_
    rintro e u14 ⟨rfl, q⟩
    clear Bic Bif
    clear Bwc Bwf
    replace A0 := A0.later q
    replace Bw := Bw.later q
    replace X0 := X0.later q
    replace Bi := Bi.later q
    replace Rw0 := Lib.hid (Rw0.out.later q)
    replace Rw1 := Lib.hid (Rw1.out.later q)
    replace Rw2 := Lib.hid (Rw2.out.later q)
    replace O0_0 := Lib.hid (O0_0.out.later q)
    replace O0_1 := Lib.hid (O0_1.out.later q)
    replace Ri0 := Lib.hid (Ri0.out.later q)
    replace Ri1 := Lib.hid (Ri1.out.later q)
    replace Ri2 := Lib.hid (Ri2.out.later q)
    replace HB := Lib.hid (HB.out.trans (q.mono HB.out.size))
    have sz14 : u13.heap.size ≤ u14.heap.size := q.size
    clear q
    clear dk
    have fy0 := Si0.out.few
    have fy1 := Si1.out.few
    have fy2 := Si2.out.few
    obtain ⟨Bic, Bif⟩ := Bi.open
    go_wp2_with fail
    have MK := markField_any u7.heap.size  _ _ _ (ci0) (ci1) (ci2) (fvals yi0) (fvals yi1) (fvals yi2) 1 _ (by omega) Ri0.out Ri1.out Ri2.out Gi.p01 Gi.p02 Gi.p12 (by omega) (by simp only [fvals_length]; omega)
    simp only [fvals_length] at MK
    refine MK.mono ?_
    clear MK
    rintro e u15 ⟨rfl, M⟩
    clear Bic Bif
    have sz15 : u14.heap.size ≤ u15.heap.size := M.below.size
    have ot : Out u14 u15 u7.heap.size u8.heap.size := ⟨M.below.size, fun j hj hd => M.keep j hj (spi0.ne hd) (spi1.ne hd) (spi2.ne hd)⟩
    replace A0 := A0.out ot (by omega)
    replace Bw := Bw.out ot (by omega)
    replace X0 := X0.out ot (by omega)
    replace Bi := Bi.out ot (by omega)
    replace Rw0 := Lib.hid (Rw0.out.outside ot lww0 (by omega))
    replace Rw1 := Lib.hid (Rw1.out.outside ot lww1 (by omega))
    replace Rw2 := Lib.hid (Rw2.out.outside ot lww2 (by omega))
    replace O0_0 := Lib.hid (O0_0.out.outside ot so0_0 (by omega))
    replace O0_1 := Lib.hid (O0_1.out.outside ot so0_1 (by omega))
    replace Ri0 := Lib.hid M.o0
    replace Ri1 := Lib.hid M.o1
    replace Ri2 := Lib.hid M.o2
    replace HB := Lib.hid (HB.out.trans (M.below.mono (by omega)))
    clear ot M
    obtain ⟨Bic, Bif⟩ := Bi.open
    go_wp2_with fail
    refine (heldField_any  _ _ _ _ _ _ yi0.length yi1.length yi2.length 1 _ Ri0.out.row Ri1.out.row Ri2.out.row (by omega) (by omega)).mono ?_
    rintro e u16 ⟨rfl, q⟩
    clear Bic Bif
    replace A0 := A0.later q
    replace Bw := Bw.later q
    replace X0 := X0.later q
    replace Bi := Bi.later q
    replace Rw0 := Lib.hid (Rw0.out.later q)
    replace Rw1 := Lib.hid (Rw1.out.later q)
    replace Rw2 := Lib.hid (Rw2.out.later q)
    replace O0_0 := Lib.hid (O0_0.out.later q)
    replace O0_1 := Lib.hid (O0_1.out.later q)
    replace Ri0 := Lib.hid (Ri0.out.later q)
    replace Ri1 := Lib.hid (Ri1.out.later q)
    replace Ri2 := Lib.hid (Ri2.out.later q)
    replace HB := Lib.hid (HB.out.trans (q.mono HB.out.size))
    have sz16 : u15.heap.size ≤ u16.heap.size := q.size
    clear q
    have dm : ¬ (1 + (yi0.length : Int) + (yi1.length : Int) + (yi2.length : Int) < 0) := by omega
    obtain ⟨A0c, A0f⟩ := A0.open
    go_wp2_with fail
    refine (toSheet_any _ _ _ _ _ _ _ _ _ _ (r0_0.later HB.out) (r0_1.later HB.out) n0_0 n0_1).mono ?_
    rintro e u17 ⟨gh0_0, gh0_1, rfl, Ch0⟩
    clear A0c A0f
    replace A0 := A0.later Ch0.below
    replace Bw := Bw.later Ch0.below
    replace X0 := X0.later Ch0.below
    replace Bi := Bi.later Ch0.below
    replace Rw0 := Lib.hid (Rw0.out.later Ch0.below)
    replace Rw1 := Lib.hid (Rw1.out.later Ch0.below)
    replace Rw2 := Lib.hid (Rw2.out.later Ch0.below)
    replace O0_0 := Lib.hid (O0_0.out.later Ch0.below)
    replace O0_1 := Lib.hid (O0_1.out.later Ch0.below)
    replace Ri0 := Lib.hid (Ri0.out.later Ch0.below)
    replace Ri1 := Lib.hid (Ri1.out.later Ch0.below)
    replace Ri2 := Lib.hid (Ri2.out.later Ch0.below)
    replace HB := Lib.hid (HB.out.trans (Ch0.below.mono HB.out.size))
    have sz17 : u16.heap.size ≤ u17.heap.size := Ch0.below.size
    go_wp2_with fail
    refine (implZeroFieldL _ _ _ _ _ _ _ _ _ _ Ch0.o0.row Ch0.o1.row b0_0 b0_1 m0_0 m0_1).mono ?_
    rintro e u18 ⟨ah0, ah1, ah2, ch0, ch1, ch2, yh0, yh1, yh2, rfl, Gh⟩
    have bh := Gh.below
    replace A0 := A0.later bh
    replace Bw := Bw.later bh
    replace X0 := X0.later bh
    replace Bi := Bi.later bh
    replace Rw0 := Lib.hid (Rw0.out.later bh)
    replace Rw1 := Lib.hid (Rw1.out.later bh)
    replace Rw2 := Lib.hid (Rw2.out.later bh)
    replace O0_0 := Lib.hid (O0_0.out.later bh)
    replace O0_1 := Lib.hid (O0_1.out.later bh)
    replace Ri0 := Lib.hid (Ri0.out.later bh)
    replace Ri1 := Lib.hid (Ri1.out.later bh)
    replace Ri2 := Lib.hid (Ri2.out.later bh)
    replace HB := Lib.hid (HB.out.trans (bh.mono HB.out.size))
    have sz18 : u17.heap.size ≤ u18.heap.size := bh.size
    have Rh0 := Lib.hid Gh.o0
    have sph0 := Gh.o0.span
    have Rh1 := Lib.hid Gh.o1
    have sph1 := Gh.o1.span
    have Rh2 := Lib.hid Gh.o2
    have sph2 := Gh.o2.span
    have Bh := Blk.new u18 #[.slice ah0 yh0.length ch0, .slice ah1 yh1.length ch1, .slice ah2 yh2.length ch2] 41
    have q := below_new u18 (.cells #[.slice ah0 yh0.length ch0, .slice ah1 yh1.length ch1, .slice ah2 yh2.length ch2] 41)
    replace A0 := A0.later q
    replace Bw := Bw.later q
    replace X0 := X0.later q
    replace Bi := Bi.later q
    replace Rw0 := Lib.hid (Rw0.out.later q)
    replace Rw1 := Lib.hid (Rw1.out.later q)
    replace Rw2 := Lib.hid (Rw2.out.later q)
    replace O0_0 := Lib.hid (O0_0.out.later q)
    replace O0_1 := Lib.hid (O0_1.out.later q)
    replace Ri0 := Lib.hid (Ri0.out.later q)
    replace Ri1 := Lib.hid (Ri1.out.later q)
    replace Ri2 := Lib.hid (Ri2.out.later q)
    replace Rh0 := Lib.hid (Rh0.out.later q)
    replace Rh1 := Lib.hid (Rh1.out.later q)
    replace Rh2 := Lib.hid (Rh2.out.later q)
    replace HB := Lib.hid (HB.out.trans (q.mono HB.out.size))
    clear q
    obtain ⟨Bhc, Bhf⟩ := Bh.open
    obtain ⟨Bwc, Bwf⟩ := Bw.open
    go_wp2_with fail
    generalize u18.alloc (.cells #[.slice ah0 yh0.length ch0, .slice ah1 yh1.length ch1, .slice ah2 yh2.length ch2] 41) = u19 at *
    have sz19 : u18.heap.size < u19.heap.size := Bh.lt
    have Sh0 := Lib.hid Gh.s0
    have Sh1 := Lib.hid Gh.s1
    have Sh2 := Lib.hid Gh.s2
    clear Bhc Bhf
    clear Bwc Bwf
    refine (eqField_any _ _ _ _ _ _ _ _ _ _ _ _ _ _ _ _ _ _ _ Rh0.out.row Rh1.out.row Rh2.out.row Rw0.out Rw1.out Rw2.out (Sh0.out.same Sw0.out) (Sh1.out.same Sw1.out) (Sh2.out.same Sw2.out) (few_max Sh0.out) (few_max Sh1.out) (few_max Sh2.out)).mono ?_
    rintro e u20 ⟨rfl, q⟩
    replace A0 := A0.later q
    replace Bw := Bw.later q
    replace X0 := X0.later q
    replace Bi := Bi.later q
    replace Bh := Bh.later q
    replace Rw0 := Lib.hid (Rw0.out.later q)
    replace Rw1 := Lib.hid (Rw1.out.later q)
    replace Rw2 := Lib.hid (Rw2.out.later q)
    replace O0_0 := Lib.hid (O0_0.out.later q)
    replace O0_1 := Lib.hid (O0_1.out.later q)
    replace Ri0 := Lib.hid (Ri0.out.later q)
    replace Ri1 := Lib.hid (Ri1.out.later q)
    replace Ri2 := Lib.hid (Ri2.out.later q)
    replace Rh0 := Lib.hid (Rh0.out.later q)
    replace Rh1 := Lib.hid (Rh1.out.later q)
    replace Rh2 := Lib.hid (Rh2.out.later q)
    replace HB := Lib.hid (HB.out.trans (q.mono HB.out.size))
    have sz20 : u19.heap.size ≤ u20.heap.size := q.size
    clear q
    obtain ⟨Bic, Bif⟩ := Bi.open
    go_wp2_with fail
    refine (heldField_any  _ _ _ _ _ _ yi0.length yi1.length yi2.length 1 _ Ri0.out.row Ri1.out.row Ri2.out.row (by omega) (by omega)).mono ?_
    rintro e u21 ⟨rfl, q⟩
    clear Bic Bif
    replace A0 := A0.later q
    replace Bw := Bw.later q
    replace X0 := X0.later q
    replace Bi := Bi.later q
    replace Bh := Bh.later q
    replace Rw0 := Lib.hid (Rw0.out.later q)
    replace Rw1 := Lib.hid (Rw1.out.later q)
    replace Rw2 := Lib.hid (Rw2.out.later q)
    replace O0_0 := Lib.hid (O0_0.out.later q)
    replace O0_1 := Lib.hid (O0_1.out.later q)
    replace Ri0 := Lib.hid (Ri0.out.later q)
    replace Ri1 := Lib.hid (Ri1.out.later q)
    replace Ri2 := Lib.hid (Ri2.out.later q)
    replace Rh0 := Lib.hid (Rh0.out.later q)
    replace Rh1 := Lib.hid (Rh1.out.later q)
    replace Rh2 := Lib.hid (Rh2.out.later q)
    replace HB := Lib.hid (HB.out.trans (q.mono HB.out.size))
    have sz21 : u20.heap.size ≤ u21.heap.size := q.size
    clear q
    go_wp2
    go_ret
    exact ⟨rfl, HB.out⟩
  · skip
    go_enter Try.func8, Try.ntmps8
    go_wp2_with fail
    generalize (w.alloc (.cells #[.int .i64 wd0, .int .i64 hi0, .bool wr0, .slice a0_0 x0_0.length c0_0, .slice a0_1 x0_1.length c0_1] 24)) = u1 at *
    obtain ⟨A0c, A0f⟩ := A0.open
    refine (szSheet_no _ _ _ _ _ _ _ _ _ _ _ (by omega) (by omega) (by omega) m0_0 m0_1).mono ?_
    rintro e u2 ⟨rfl, q⟩
    clear A0c A0f
    replace A0 := A0.later q
    replace HB := Lib.hid (HB.out.trans (q.mono HB.out.size))
    have sz2 : u1.heap.size ≤ u2.heap.size := q.size
    clear q
    go_wp2
    go_ret
    exact ⟨rfl, HB.out⟩
end Go.Proofs.Ytabhjnpmmjmaiab
