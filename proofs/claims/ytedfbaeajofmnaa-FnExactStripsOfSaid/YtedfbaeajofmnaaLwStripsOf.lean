/- The walk of the law on StripsOf. Conditions: none beyond those of each theorem. -/
import Derived.Test.YtedfbaeajofmnaaBu6
import Derived.Test.YtedfbaeajofmnaaStrips
import Derived.Test.YtedfbaeajofmnaaBu2
namespace Go.Proofs.Ytedfbaeajofmnaa
open Go Ieee Go.RowKit
set_option linter.unusedVariables false
set_option linter.unusedSimpArgs false

set_option maxHeartbeats 16000000 in
set_option maxRecDepth 100000 in
theorem fnExactStripsOf_walk (wd0 : Int) (hi0 : Int) (wr0 : Bool) (a0_0 a0_1 : Option Addr) (c0_0 c0_1 : Nat) (x0_0 x0_1 : List Nat) (a1 : Int) (w : World) (r0_0 : RowV w a0_0 (fvals x0_0)) (r0_1 : RowV w a0_1 (fvals x0_1)) (b0_0 : ∀ x ∈ x0_0, x < 2 ^ 32) (b0_1 : ∀ x ∈ x0_1, x < 2 ^ 32) (m0_0 : x0_0.length ≤ maxLen) (m0_1 : x0_1.length ≤ maxLen) (w1 : (Lit.int .i64 a1).wf = true) :
    Calls Try.prog 5 #[.agg #[.int .i64 wd0, .int .i64 hi0, .bool wr0, .slice a0_0 x0_0.length c0_0, .slice a0_1 x0_1.length c0_1], .int .i64 a1] w fun e w' => e = .returned (.bool true) ∧ Below w.heap.size w w' := by
  have A0 := Blk.new w #[.int .i64 wd0, .int .i64 hi0, .bool wr0, .slice a0_0 x0_0.length c0_0, .slice a0_1 x0_1.length c0_1] 24
  have HB : Hid (Below w.heap.size w (w.alloc (.cells #[.int .i64 wd0, .int .i64 hi0, .bool wr0, .slice a0_0 x0_0.length c0_0, .slice a0_1 x0_1.length c0_1] 24))) := Lib.hid ((Below.refl w.heap.size w).alloc (by simp <;> omega) _)
  by_cases hs0 : (x0_0.length : Int) + (x0_1.length : Int) ≤ 1048576
  · skip
    have n0_0 : x0_0.length ≤ 1048576 := by omega
    have n0_1 : x0_1.length ≤ 1048576 := by omega
    go_enter Try.func5, Try.ntmps5
    go_wp2_with fail
    generalize (w.alloc (.cells #[.int .i64 wd0, .int .i64 hi0, .bool wr0, .slice a0_0 x0_0.length c0_0, .slice a0_1 x0_1.length c0_1] 24)) = V1 at *
    obtain ⟨A0c, A0f⟩ := A0.open
    refine (szSheet_yes _ _ _ _ _ _ _ _ _ _ _ hs0 (by omega)).mono ?_
    rintro e V2 ⟨rfl, q⟩
    clear A0c A0f
    replace A0 := A0.later q
    replace HB := Lib.hid (HB.out.trans (q.mono HB.out.size))
    clear q
    have za0 := A0.lt
    have zh := HB.out.size
    obtain ⟨A0c, A0f⟩ := A0.open
    go_wp2_with fail
    clear hs0
    clear A0c A0f
    refine (toSheet_any _ _ _ _ _ _ _ _ _ _ (r0_0.later HB.out) (r0_1.later HB.out) n0_0 n0_1).mono ?_
    rintro e V3 ⟨gw0_0, gw0_1, rfl, Cw0⟩
    replace A0 := A0.later Cw0.below
    replace HB := Lib.hid (HB.out.trans (Cw0.below.mono HB.out.size))
    have sz3 : V2.heap.size ≤ V3.heap.size := Cw0.below.size
    go_wp2_with fail
    refine (specStripsOfL _ _ _ _ _ _ _ _ _ _ _ Cw0.o0.row Cw0.o1.row b0_0 b0_1 m0_0 m0_1 w1).mono ?_
    rintro e V4 ⟨aw, cw, yw, rfl, Gw⟩
    have bw := Gw.below
    replace A0 := A0.later bw
    replace HB := Lib.hid (HB.out.trans (bw.mono HB.out.size))
    have sz4 : V3.heap.size ≤ V4.heap.size := bw.size
    have Rw := Lib.hid Gw.o.row
    have lww := Gw.o.row.low
    have Sw := Lib.hid Gw.s
    obtain ⟨A0c, A0f⟩ := A0.open
    go_wp2_with fail
    refine (toSheet_any _ _ _ _ _ _ _ _ _ _ (r0_0.later HB.out) (r0_1.later HB.out) n0_0 n0_1).mono ?_
    rintro e V5 ⟨gx0_0, gx0_1, rfl, Cx0⟩
    clear A0c A0f
    replace A0 := A0.later Cx0.below
    replace Rw := Lib.hid (Rw.out.later Cx0.below)
    replace HB := Lib.hid (HB.out.trans (Cx0.below.mono HB.out.size))
    have sz5 : V4.heap.size ≤ V5.heap.size := Cx0.below.size
    have O0_0 := Lib.hid Cx0.o0
    have so0_0 := Cx0.o0.span
    have O0_1 := Lib.hid Cx0.o1
    have so0_1 := Cx0.o1.span
    have ll0_0 := Cx0.l0
    have X0 := Blk.new V5 #[.int .i64 wd0, .int .i64 hi0, .bool wr0, .slice (some ⟨gx0_0, 0, none⟩) x0_0.length x0_0.length, .slice (some ⟨gx0_1, 0, none⟩) x0_1.length x0_1.length] 29
    have q := below_new V5 (.cells #[.int .i64 wd0, .int .i64 hi0, .bool wr0, .slice (some ⟨gx0_0, 0, none⟩) x0_0.length x0_0.length, .slice (some ⟨gx0_1, 0, none⟩) x0_1.length x0_1.length] 29)
    replace A0 := A0.later q
    replace Rw := Lib.hid (Rw.out.later q)
    replace O0_0 := Lib.hid (O0_0.out.later q)
    replace O0_1 := Lib.hid (O0_1.out.later q)
    replace HB := Lib.hid (HB.out.trans (q.mono HB.out.size))
    clear q
    obtain ⟨X0c, X0f⟩ := X0.open
    go_wp2_with fail
    generalize V5.alloc (.cells #[.int .i64 wd0, .int .i64 hi0, .bool wr0, .slice (some ⟨gx0_0, 0, none⟩) x0_0.length x0_0.length, .slice (some ⟨gx0_1, 0, none⟩) x0_1.length x0_1.length] 29) = V6 at *
    have sz6 : V5.heap.size < V6.heap.size := X0.lt
    clear X0c X0f
    refine (implStripsOfL _ _ _ _ _ _ _ _ _ _ _ O0_0.out.row O0_1.out.row b0_0 b0_1 m0_0 m0_1 w1).mono ?_
    rintro e V7 ⟨ai, ci, yi, rfl, Gi⟩
    have bi := Gi.below
    replace A0 := A0.later bi
    replace X0 := X0.later bi
    replace Rw := Lib.hid (Rw.out.later bi)
    replace O0_0 := Lib.hid (O0_0.out.later bi)
    replace O0_1 := Lib.hid (O0_1.out.later bi)
    replace HB := Lib.hid (HB.out.trans (bi.mono HB.out.size))
    have sz7 : V6.heap.size ≤ V7.heap.size := bi.size
    have Ri := Lib.hid Gi.o
    have spi := Gi.o.span
    have Si := Lib.hid Gi.s
    go_wp2_with fail
    have ee := Si.out.1.trans Sw.out.1.symm
    have rr := Rw.out; rw [← ee] at rr
    refine (show Calls _ _ #[.slice _ yi.length _, .slice _ yw.length _] _ _ from by rw [← ee]; exact eqStripS_any _ _ _ _ _ _ Ri.out.row rr (fewT_max Si.out)).mono ?_
    rintro e V8 ⟨rfl, q⟩
    clear ee rr
    replace A0 := A0.later q
    replace X0 := X0.later q
    replace Rw := Lib.hid (Rw.out.later q)
    replace O0_0 := Lib.hid (O0_0.out.later q)
    replace O0_1 := Lib.hid (O0_1.out.later q)
    replace Ri := Lib.hid (Ri.out.later q)
    replace HB := Lib.hid (HB.out.trans (q.mono HB.out.size))
    have sz8 : V7.heap.size ≤ V8.heap.size := q.size
    clear q
    obtain ⟨X0c, X0f⟩ := X0.open
    obtain ⟨A0c, A0f⟩ := A0.open
    go_wp2_with fail
    clear X0c X0f
    clear A0c A0f
    go_region_held3 (fun w' => (∀ i, w'.cell? ⟨V5.heap.size, i, none⟩ = (#[.int .i64 wd0, .int .i64 hi0, .bool wr0, .slice (some ⟨gx0_0, 0, none⟩) x0_0.length x0_0.length, .slice (some ⟨gx0_1, 0, none⟩) x0_1.length x0_1.length] : Array Value)[i]?) ∧ (∀ i, w'.cell? ⟨w.heap.size, i, none⟩ = (#[.int .i64 wd0, .int .i64 hi0, .bool wr0, .slice a0_0 x0_0.length c0_0, .slice a0_1 x0_1.length c0_1] : Array Value)[i]?) ∧ Below V8.heap.size V8 w') (first | with_reducible exact keep2_start X0 A0 | with_reducible exact keep2_later X0 A0 (by assumption) (by assumption))
      (first
        | (go_at_call 14; (with_reducible refine (toSheet_any _ _ _ _ _ _ _ _ _ _ (row_held2 r0_0 HB.out (by assumption)) (row_held2 r0_1 HB.out (by assumption)) n0_0 n0_1).mono ?_); rintro e V9 ⟨ge0_0, ge0_1, rfl, Ce0⟩; have qa0 := Ce0.below)
        | (go_at_call 17; (with_reducible refine (eqSheet_any _ _ _ _ _ _ _ _ _ _ _ _ _ _ _ _ (row_held2 O0_0.out.row (Below.refl _ _) (by assumption)) (row_held2 O0_1.out.row (Below.refl _ _) (by assumption)) Ce0.o0.row Ce0.o1.row (SameF.refl b0_0) (SameF.refl b0_1) m0_0 m0_1).mono ?_); rintro e V10 ⟨rfl, qa1⟩))
    have q := (below_next (below_next (below_drew V8) qa0) qa1)
    replace A0 := A0.later q
    replace X0 := X0.later q
    replace Rw := Lib.hid (Rw.out.later q)
    replace O0_0 := Lib.hid (O0_0.out.later q)
    replace O0_1 := Lib.hid (O0_1.out.later q)
    replace Ri := Lib.hid (Ri.out.later q)
    replace HB := Lib.hid (HB.out.trans (q.mono HB.out.size))
    have sz10 : V8.heap.size ≤ V10.heap.size := q.size
    clear q
    obtain ⟨X0c, X0f⟩ := X0.open
    go_wp2_with fail
    have MK := markSheet_any V4.heap.size wd0 hi0 wr0 _ _ (x0_0.length) (x0_1.length) (fvals x0_0) (fvals x0_1) (1) _ (by omega) O0_0.out O0_1.out (apart_ne (by omega)) (by omega) (by simp only [fvals_length]; omega)
    simp only [fvals_length] at MK
    refine MK.mono ?_
    clear MK
    rintro e V11 ⟨rfl, M⟩
    clear X0c X0f
    have sz11 : V10.heap.size ≤ V11.heap.size := M.below.size
    have ot : Out V10 V11 V4.heap.size V5.heap.size := ⟨M.below.size, fun j hj hd => M.keep j hj (so0_0.ne hd) (so0_1.ne hd)⟩
    replace A0 := A0.out ot (by omega)
    replace X0 := X0.out ot (by omega)
    replace Rw := Lib.hid (Rw.out.outside ot lww (by omega))
    replace Ri := Lib.hid (Ri.out.outside ot spi (by omega))
    replace O0_0 := Lib.hid M.o0
    replace O0_1 := Lib.hid M.o1
    replace HB := Lib.hid (HB.out.trans (M.below.mono (by omega)))
    clear ot M
    have dk : ¬ (1 + (x0_0.length : Int) + (x0_1.length : Int) < 0) := by omega
    go_wp2_with fail
    have ee := Si.out.1.trans Sw.out.1.symm
    have rr := Rw.out; rw [← ee] at rr
    refine (show Calls _ _ #[.slice _ yi.length _, .slice _ yw.length _] _ _ from by rw [← ee]; exact eqStripS_any _ _ _ _ _ _ Ri.out.row rr (fewT_max Si.out)).mono ?_
    rintro e V12 ⟨rfl, q⟩
    clear ee rr
    replace A0 := A0.later q
    replace X0 := X0.later q
    replace Rw := Lib.hid (Rw.out.later q)
    replace O0_0 := Lib.hid (O0_0.out.later q)
    replace O0_1 := Lib.hid (O0_1.out.later q)
    replace Ri := Lib.hid (Ri.out.later q)
    replace HB := Lib.hid (HB.out.trans (q.mono HB.out.size))
    have sz12 : V11.heap.size ≤ V12.heap.size := q.size
    clear q
    clear dk
    have fyi := Si.out.2
    go_wp2_with fail
    have MK := markSt V6.heap.size _ ci yi.length (pvals yi) 1 _ Ri.out (pvals_length _) (by omega) (by omega)
    unfold MarkedI at MK
    refine MK.mono ?_
    clear MK
    rintro e V13 ⟨rfl, Mo, Mg⟩
    have sz13 : V12.heap.size ≤ V13.heap.size := Mg.size
    have ot : Out V12 V13 V6.heap.size V7.heap.size := ⟨Mg.size, fun j hj hd => Mg.block j hj (spi.ne hd)⟩
    replace A0 := A0.out ot (by omega)
    replace X0 := X0.out ot (by omega)
    replace Rw := Lib.hid (Rw.out.outside ot lww (by omega))
    replace O0_0 := Lib.hid (O0_0.out.outside ot so0_0 (by omega))
    replace O0_1 := Lib.hid (O0_1.out.outside ot so0_1 (by omega))
    replace HB := Lib.hid (HB.out.grown Mg HB.out.size (fun k hk => by have h9 := Ri.out.bound k hk; omega))
    replace Ri := Lib.hid Mo
    clear ot Mg Mo
    go_wp2_with fail
    refine (heldSt _ _ yi.length 1 _ Ri.out.row (by omega) (by omega)).mono ?_
    rintro e w' ⟨rfl, hw⟩
    subst hw
    have dm : ¬ ((1 : Int) + (yi.length : Int) * 2 < 0) := by omega
    obtain ⟨A0c, A0f⟩ := A0.open
    go_wp2_with fail
    refine (toSheet_any _ _ _ _ _ _ _ _ _ _ (r0_0.later HB.out) (r0_1.later HB.out) n0_0 n0_1).mono ?_
    rintro e V14 ⟨gh0_0, gh0_1, rfl, Ch0⟩
    clear A0c A0f
    replace A0 := A0.later Ch0.below
    replace X0 := X0.later Ch0.below
    replace Rw := Lib.hid (Rw.out.later Ch0.below)
    replace O0_0 := Lib.hid (O0_0.out.later Ch0.below)
    replace O0_1 := Lib.hid (O0_1.out.later Ch0.below)
    replace Ri := Lib.hid (Ri.out.later Ch0.below)
    replace HB := Lib.hid (HB.out.trans (Ch0.below.mono HB.out.size))
    have sz14 : V13.heap.size ≤ V14.heap.size := Ch0.below.size
    go_wp2_with fail
    refine (implStripsOfL _ _ _ _ _ _ _ _ _ _ _ Ch0.o0.row Ch0.o1.row b0_0 b0_1 m0_0 m0_1 w1).mono ?_
    rintro e V15 ⟨ah, ch, yh, rfl, Gh⟩
    have bh := Gh.below
    replace A0 := A0.later bh
    replace X0 := X0.later bh
    replace Rw := Lib.hid (Rw.out.later bh)
    replace O0_0 := Lib.hid (O0_0.out.later bh)
    replace O0_1 := Lib.hid (O0_1.out.later bh)
    replace Ri := Lib.hid (Ri.out.later bh)
    replace HB := Lib.hid (HB.out.trans (bh.mono HB.out.size))
    have sz15 : V14.heap.size ≤ V15.heap.size := bh.size
    have Rh := Lib.hid Gh.o
    have sph := Gh.o.span
    have Sh := Lib.hid Gh.s
    go_wp2_with fail
    have ee := Sh.out.1.trans Sw.out.1.symm
    have rr := Rw.out; rw [← ee] at rr
    refine (show Calls _ _ #[.slice _ yh.length _, .slice _ yw.length _] _ _ from by rw [← ee]; exact eqStripS_any _ _ _ _ _ _ Rh.out.row rr (fewT_max Sh.out)).mono ?_
    rintro e V16 ⟨rfl, q⟩
    clear ee rr
    replace A0 := A0.later q
    replace X0 := X0.later q
    replace Rw := Lib.hid (Rw.out.later q)
    replace O0_0 := Lib.hid (O0_0.out.later q)
    replace O0_1 := Lib.hid (O0_1.out.later q)
    replace Ri := Lib.hid (Ri.out.later q)
    replace Rh := Lib.hid (Rh.out.later q)
    replace HB := Lib.hid (HB.out.trans (q.mono HB.out.size))
    have sz16 : V15.heap.size ≤ V16.heap.size := q.size
    clear q
    go_wp2_with fail
    refine (heldSt _ _ yi.length 1 _ Ri.out.row (by omega) (by omega)).mono ?_
    rintro e w' ⟨rfl, hw⟩
    subst hw
    go_wp2
    go_ret
    exact ⟨rfl, HB.out⟩
  · skip
    go_enter Try.func5, Try.ntmps5
    go_wp2_with fail
    generalize (w.alloc (.cells #[.int .i64 wd0, .int .i64 hi0, .bool wr0, .slice a0_0 x0_0.length c0_0, .slice a0_1 x0_1.length c0_1] 24)) = V1 at *
    obtain ⟨A0c, A0f⟩ := A0.open
    refine (szSheet_no _ _ _ _ _ _ _ _ _ _ _ (by omega) (by omega) (by omega) m0_0 m0_1).mono ?_
    rintro e V2 ⟨rfl, q⟩
    clear A0c A0f
    replace A0 := A0.later q
    replace HB := Lib.hid (HB.out.trans (q.mono HB.out.size))
    have sz2 : V1.heap.size ≤ V2.heap.size := q.size
    clear q
    go_wp2
    go_ret
    exact ⟨rfl, HB.out⟩
end Go.Proofs.Ytedfbaeajofmnaa
