/- The walk of the law on HaloRows. Conditions: none beyond those of each theorem. -/
import Derived.Test.YtedfbaeajofmnaaBu6
import Derived.Test.YtedfbaeajofmnaaHaloR
import Derived.Test.YtedfbaeajofmnaaBu2
import Derived.Test.YtedfbaeajofmnaaKit4
import Derived.Test.YtedfbaeajofmnaaTree
import Derived.Test.YtedfbaeajofmnaaBu17
namespace Go.Proofs.Ytedfbaeajofmnaa
open Go Ieee Go.RowKit
set_option linter.unusedVariables false
set_option linter.unusedSimpArgs false

set_option maxHeartbeats 16000000 in
set_option maxRecDepth 100000 in
theorem fnExactHaloRows_walk (wd0 : Int) (hi0 : Int) (wr0 : Bool) (a0_0 a0_1 : Option Addr) (c0_0 c0_1 : Nat) (x0_0 x0_1 : List Nat) (fr1 : Int) (ct1 : Int) (w : World) (r0_0 : RowV w a0_0 (fvals x0_0)) (r0_1 : RowV w a0_1 (fvals x0_1)) (b0_0 : ∀ x ∈ x0_0, x < 2 ^ 32) (b0_1 : ∀ x ∈ x0_1, x < 2 ^ 32) (m0_0 : x0_0.length ≤ maxLen) (m0_1 : x0_1.length ≤ maxLen) :
    Calls Try.prog 6 #[.agg #[.int .i64 wd0, .int .i64 hi0, .bool wr0, .slice a0_0 x0_0.length c0_0, .slice a0_1 x0_1.length c0_1], .agg #[.int .i64 fr1, .int .i64 ct1]] w fun e w' => e = .returned (.bool true) ∧ Below w.heap.size w w' := by
  have A0 := Blk.new w #[.int .i64 wd0, .int .i64 hi0, .bool wr0, .slice a0_0 x0_0.length c0_0, .slice a0_1 x0_1.length c0_1] 24
  have A1 := Blk.new1 w (.cells #[.int .i64 wd0, .int .i64 hi0, .bool wr0, .slice a0_0 x0_0.length c0_0, .slice a0_1 x0_1.length c0_1] 24) #[.int .i64 fr1, .int .i64 ct1] 26
  replace A0 := A0.alloc (.cells #[.int .i64 fr1, .int .i64 ct1] 26)
  have HB : Hid (Below w.heap.size w ((w.alloc (.cells #[.int .i64 wd0, .int .i64 hi0, .bool wr0, .slice a0_0 x0_0.length c0_0, .slice a0_1 x0_1.length c0_1] 24)).alloc (.cells #[.int .i64 fr1, .int .i64 ct1] 26))) := Lib.hid (((Below.refl w.heap.size w).alloc (by simp <;> omega) _).alloc (by simp <;> omega) _)
  by_cases hs0 : (x0_0.length : Int) + (x0_1.length : Int) ≤ 1048576
  · skip
    have n0_0 : x0_0.length ≤ 1048576 := by omega
    have n0_1 : x0_1.length ≤ 1048576 := by omega
    go_enter Try.func6, Try.ntmps6
    go_wp2_with fail
    generalize ((w.alloc (.cells #[.int .i64 wd0, .int .i64 hi0, .bool wr0, .slice a0_0 x0_0.length c0_0, .slice a0_1 x0_1.length c0_1] 24)).alloc (.cells #[.int .i64 fr1, .int .i64 ct1] 26)) = V1 at *
    obtain ⟨A0c, A0f⟩ := A0.open
    refine (szSheet_yes _ _ _ _ _ _ _ _ _ _ _ hs0 (by omega)).mono ?_
    rintro e V2 ⟨rfl, q⟩
    clear A0c A0f
    replace A0 := A0.later q
    replace A1 := A1.later q
    replace HB := Lib.hid (HB.out.trans (q.mono HB.out.size))
    clear q
    have za0 := A0.lt
    have za1 := A1.lt
    have zh := HB.out.size
    obtain ⟨A0c, A0f⟩ := A0.open
    obtain ⟨A1c, A1f⟩ := A1.open
    go_wp2_with fail
    clear hs0
    clear A0c A0f
    clear A1c A1f
    go_region_held3 (fun w' => (∀ i, w'.cell? ⟨w.heap.size, i, none⟩ = (#[.int .i64 wd0, .int .i64 hi0, .bool wr0, .slice a0_0 x0_0.length c0_0, .slice a0_1 x0_1.length c0_1] : Array Value)[i]?) ∧ (∀ i, w'.cell? ⟨w.heap.size + 1, i, none⟩ = (#[.int .i64 fr1, .int .i64 ct1] : Array Value)[i]?) ∧ Below V2.heap.size V2 w') (first | with_reducible exact keep2_start A0 A1 | with_reducible exact keep2_later A0 A1 (by assumption) (by assumption))
      (first
        | (go_at_call 14; (with_reducible refine (toSheet_any _ _ _ _ _ _ _ _ _ _ (row_held2 r0_0 HB.out (by assumption)) (row_held2 r0_1 HB.out (by assumption)) n0_0 n0_1).mono ?_); rintro e V3 ⟨gw0_0, gw0_1, rfl, Cw0⟩; have qa0 := Cw0.below)
        | (go_at_call 15; (with_reducible refine (toStrip_any _ _ _  ).mono ?_); rintro e V4 ⟨rfl, Cw1⟩; have qa1 := Cw1)
        | (go_at_call 31; (with_reducible refine (specHaloRowsL _ _ _ _ _ _ _ _ _ _ _ _ (Cw0.o0.row.later qa1) (Cw0.o1.row.later qa1) b0_0 b0_1 m0_0 m0_1).mono ?_); rintro e V5 ⟨aw, cw, yw, rfl, Gw⟩; have bw := Gw.below; have qa2 := bw))
    have q := (below_next (below_next (below_next (below_drew V2) qa0) qa1) qa2)
    replace A0 := A0.later q
    replace A1 := A1.later q
    replace HB := Lib.hid (HB.out.trans (q.mono HB.out.size))
    have sz5 : V2.heap.size ≤ V5.heap.size := q.size
    clear q
    have Rw := Lib.hid Gw.o.row
    have lww := Gw.o.row.low
    have Sw := Lib.hid Gw.s
    obtain ⟨A0c, A0f⟩ := A0.open
    go_wp2_with fail
    refine (toSheet_any _ _ _ _ _ _ _ _ _ _ (r0_0.later HB.out) (r0_1.later HB.out) n0_0 n0_1).mono ?_
    rintro e V6 ⟨gx0_0, gx0_1, rfl, Cx0⟩
    clear A0c A0f
    replace A0 := A0.later Cx0.below
    replace A1 := A1.later Cx0.below
    replace Rw := Lib.hid (Rw.out.later Cx0.below)
    replace HB := Lib.hid (HB.out.trans (Cx0.below.mono HB.out.size))
    have sz6 : V5.heap.size ≤ V6.heap.size := Cx0.below.size
    have O0_0 := Lib.hid Cx0.o0
    have so0_0 := Cx0.o0.span
    have O0_1 := Lib.hid Cx0.o1
    have so0_1 := Cx0.o1.span
    have ll0_0 := Cx0.l0
    have X0 := Blk.new V6 #[.int .i64 wd0, .int .i64 hi0, .bool wr0, .slice (some ⟨gx0_0, 0, none⟩) x0_0.length x0_0.length, .slice (some ⟨gx0_1, 0, none⟩) x0_1.length x0_1.length] 29
    have q := below_new V6 (.cells #[.int .i64 wd0, .int .i64 hi0, .bool wr0, .slice (some ⟨gx0_0, 0, none⟩) x0_0.length x0_0.length, .slice (some ⟨gx0_1, 0, none⟩) x0_1.length x0_1.length] 29)
    replace A0 := A0.later q
    replace A1 := A1.later q
    replace Rw := Lib.hid (Rw.out.later q)
    replace O0_0 := Lib.hid (O0_0.out.later q)
    replace O0_1 := Lib.hid (O0_1.out.later q)
    replace HB := Lib.hid (HB.out.trans (q.mono HB.out.size))
    clear q
    obtain ⟨X0c, X0f⟩ := X0.open
    obtain ⟨A1c, A1f⟩ := A1.open
    go_wp2_with fail
    generalize V6.alloc (.cells #[.int .i64 wd0, .int .i64 hi0, .bool wr0, .slice (some ⟨gx0_0, 0, none⟩) x0_0.length x0_0.length, .slice (some ⟨gx0_1, 0, none⟩) x0_1.length x0_1.length] 29) = V7 at *
    have sz7 : V6.heap.size < V7.heap.size := X0.lt
    clear X0c X0f
    clear A1c A1f
    go_region_held3 (fun w' => (∀ i, w'.cell? ⟨V6.heap.size, i, none⟩ = (#[.int .i64 wd0, .int .i64 hi0, .bool wr0, .slice (some ⟨gx0_0, 0, none⟩) x0_0.length x0_0.length, .slice (some ⟨gx0_1, 0, none⟩) x0_1.length x0_1.length] : Array Value)[i]?) ∧ (∀ i, w'.cell? ⟨w.heap.size + 1, i, none⟩ = (#[.int .i64 fr1, .int .i64 ct1] : Array Value)[i]?) ∧ Below V7.heap.size V7 w') (first | with_reducible exact keep2_start X0 A1 | with_reducible exact keep2_later X0 A1 (by assumption) (by assumption))
      (first
        | (go_at_call 15; (with_reducible refine (toStrip_any _ _ _  ).mono ?_); rintro e V8 ⟨rfl, Ci1⟩; have qa0 := Ci1)
        | (go_at_call 32; (with_reducible refine (implHaloRowsL _ _ _ _ _ _ _ _ _ _ _ _ (row_held2 O0_0.out.row (Below.refl _ _) (by assumption)) (row_held2 O0_1.out.row (Below.refl _ _) (by assumption)) b0_0 b0_1 m0_0 m0_1).mono ?_); rintro e V9 ⟨ai, ci, yi, rfl, Gi⟩; have bi := Gi.below; have qa1 := bi))
    have q := (below_next (below_next (below_drew V7) qa0) qa1)
    replace A0 := A0.later q
    replace A1 := A1.later q
    replace X0 := X0.later q
    replace Rw := Lib.hid (Rw.out.later q)
    replace O0_0 := Lib.hid (O0_0.out.later q)
    replace O0_1 := Lib.hid (O0_1.out.later q)
    replace HB := Lib.hid (HB.out.trans (q.mono HB.out.size))
    have sz9 : V7.heap.size ≤ V9.heap.size := q.size
    clear q
    have zq0 : V7.heap.size ≤ V8.heap.size := qa0.size
    have zq1 : V8.heap.size ≤ V9.heap.size := qa1.size
    have Ri := Lib.hid Gi.o
    have spi := Gi.o.span
    have Si := Lib.hid Gi.s
    go_wp2_with fail
    refine (eqI64s _ _ _ _ _ _ _ Ri.out.row Rw.out (Si.out.1.trans Sw.out.1.symm) (fewI_max Si.out)).mono ?_
    rintro e V10 ⟨rfl, nq, hw⟩
    have q : Below V9.heap.size V9 V10 := by rw [hw]; exact below_drewN (Below.refl _ _) _
    clear hw
    replace A0 := A0.later q
    replace A1 := A1.later q
    replace X0 := X0.later q
    replace Rw := Lib.hid (Rw.out.later q)
    replace O0_0 := Lib.hid (O0_0.out.later q)
    replace O0_1 := Lib.hid (O0_1.out.later q)
    replace Ri := Lib.hid (Ri.out.later q)
    replace HB := Lib.hid (HB.out.trans (q.mono HB.out.size))
    have sz10 : V9.heap.size ≤ V10.heap.size := q.size
    clear q
    obtain ⟨X0c, X0f⟩ := X0.open
    obtain ⟨A0c, A0f⟩ := A0.open
    go_wp2_with fail
    clear X0c X0f
    clear A0c A0f
    go_region_held3 (fun w' => (∀ i, w'.cell? ⟨V6.heap.size, i, none⟩ = (#[.int .i64 wd0, .int .i64 hi0, .bool wr0, .slice (some ⟨gx0_0, 0, none⟩) x0_0.length x0_0.length, .slice (some ⟨gx0_1, 0, none⟩) x0_1.length x0_1.length] : Array Value)[i]?) ∧ (∀ i, w'.cell? ⟨w.heap.size, i, none⟩ = (#[.int .i64 wd0, .int .i64 hi0, .bool wr0, .slice a0_0 x0_0.length c0_0, .slice a0_1 x0_1.length c0_1] : Array Value)[i]?) ∧ Below V10.heap.size V10 w') (first | with_reducible exact keep2_start X0 A0 | with_reducible exact keep2_later X0 A0 (by assumption) (by assumption))
      (first
        | (go_at_call 14; (with_reducible refine (toSheet_any _ _ _ _ _ _ _ _ _ _ (row_held2 r0_0 HB.out (by assumption)) (row_held2 r0_1 HB.out (by assumption)) n0_0 n0_1).mono ?_); rintro e V11 ⟨ge0_0, ge0_1, rfl, Ce0⟩; have qa0 := Ce0.below)
        | (go_at_call 17; (with_reducible refine (eqSheet_any _ _ _ _ _ _ _ _ _ _ _ _ _ _ _ _ (row_held2 O0_0.out.row (Below.refl _ _) (by assumption)) (row_held2 O0_1.out.row (Below.refl _ _) (by assumption)) Ce0.o0.row Ce0.o1.row (SameF.refl b0_0) (SameF.refl b0_1) m0_0 m0_1).mono ?_); rintro e V12 ⟨rfl, qa1⟩))
    have q := (below_next (below_next (below_drew V10) qa0) qa1)
    replace A0 := A0.later q
    replace A1 := A1.later q
    replace X0 := X0.later q
    replace Rw := Lib.hid (Rw.out.later q)
    replace O0_0 := Lib.hid (O0_0.out.later q)
    replace O0_1 := Lib.hid (O0_1.out.later q)
    replace Ri := Lib.hid (Ri.out.later q)
    replace HB := Lib.hid (HB.out.trans (q.mono HB.out.size))
    have sz12 : V10.heap.size ≤ V12.heap.size := q.size
    clear q
    obtain ⟨X0c, X0f⟩ := X0.open
    go_wp2_with fail
    have MK := markSheet_any V5.heap.size wd0 hi0 wr0 _ _ (x0_0.length) (x0_1.length) (fvals x0_0) (fvals x0_1) (1) _ (by omega) O0_0.out O0_1.out (apart_ne (by omega)) (by omega) (by simp only [fvals_length]; omega)
    simp only [fvals_length] at MK
    refine MK.mono ?_
    clear MK
    rintro e V13 ⟨rfl, M⟩
    clear X0c X0f
    have sz13 : V12.heap.size ≤ V13.heap.size := M.below.size
    have ot : Out V12 V13 V5.heap.size V6.heap.size := ⟨M.below.size, fun j hj hd => M.keep j hj (so0_0.ne hd) (so0_1.ne hd)⟩
    replace A0 := A0.out ot (by omega)
    replace A1 := A1.out ot (by omega)
    replace X0 := X0.out ot (by omega)
    replace Rw := Lib.hid (Rw.out.outside ot lww (by omega))
    replace Ri := Lib.hid (Ri.out.outside ot spi (by omega))
    replace O0_0 := Lib.hid M.o0
    replace O0_1 := Lib.hid M.o1
    replace HB := Lib.hid (HB.out.trans (M.below.mono (by omega)))
    clear ot M
    have dk : ¬ (1 + (x0_0.length : Int) + (x0_1.length : Int) < 0) := by omega
    go_wp2_with fail
    refine (eqI64s _ _ _ _ _ _ _ Ri.out.row Rw.out (Si.out.1.trans Sw.out.1.symm) (fewI_max Si.out)).mono ?_
    rintro e V14 ⟨rfl, nq, hw⟩
    have q : Below V13.heap.size V13 V14 := by rw [hw]; exact below_drewN (Below.refl _ _) _
    clear hw
    replace A0 := A0.later q
    replace A1 := A1.later q
    replace X0 := X0.later q
    replace Rw := Lib.hid (Rw.out.later q)
    replace O0_0 := Lib.hid (O0_0.out.later q)
    replace O0_1 := Lib.hid (O0_1.out.later q)
    replace Ri := Lib.hid (Ri.out.later q)
    replace HB := Lib.hid (HB.out.trans (q.mono HB.out.size))
    have sz14 : V13.heap.size ≤ V14.heap.size := q.size
    clear q
    clear dk
    have fyi := Si.out.2
    go_wp2_with fail
    have MK := markI V8.heap.size _ ci (ivals yi) 1 _ Ri.out (by omega) (by simp only [ivals_length]; omega)
    unfold MarkedI at MK
    simp only [ivals_length] at MK
    refine MK.mono ?_
    clear MK
    rintro e V15 ⟨rfl, Mo, Mg⟩
    have sz15 : V14.heap.size ≤ V15.heap.size := Mg.size
    have ot : Out V14 V15 V8.heap.size V9.heap.size := ⟨Mg.size, fun j hj hd => Mg.block j hj (spi.ne hd)⟩
    replace A0 := A0.out ot (by omega)
    replace A1 := A1.out ot (by omega)
    replace X0 := X0.out ot (by omega)
    replace Rw := Lib.hid (Rw.out.outside ot lww (by omega))
    replace O0_0 := Lib.hid (O0_0.out.outside ot so0_0 (by omega))
    replace O0_1 := Lib.hid (O0_1.out.outside ot so0_1 (by omega))
    replace HB := Lib.hid (HB.out.grown Mg HB.out.size (fun k hk => by have h9 := Ri.out.bound k hk; omega))
    replace Ri := Lib.hid Mo
    clear ot Mg Mo
    go_wp2_with fail
    refine (heldI _ _ yi.length 1 _ Ri.out.row (by omega) (by omega)).mono ?_
    rintro e w' ⟨rfl, hw⟩
    subst hw
    have dm : ¬ ((1 : Int) + (yi.length : Int) < 0) := by omega
    obtain ⟨A0c, A0f⟩ := A0.open
    obtain ⟨A1c, A1f⟩ := A1.open
    go_wp2_with fail
    clear A0c A0f
    clear A1c A1f
    go_region_held3 (fun w' => (∀ i, w'.cell? ⟨w.heap.size, i, none⟩ = (#[.int .i64 wd0, .int .i64 hi0, .bool wr0, .slice a0_0 x0_0.length c0_0, .slice a0_1 x0_1.length c0_1] : Array Value)[i]?) ∧ (∀ i, w'.cell? ⟨w.heap.size + 1, i, none⟩ = (#[.int .i64 fr1, .int .i64 ct1] : Array Value)[i]?) ∧ Below V15.heap.size V15 w') (first | with_reducible exact keep2_start A0 A1 | with_reducible exact keep2_later A0 A1 (by assumption) (by assumption))
      (first
        | (go_at_call 14; (with_reducible refine (toSheet_any _ _ _ _ _ _ _ _ _ _ (row_held2 r0_0 HB.out (by assumption)) (row_held2 r0_1 HB.out (by assumption)) n0_0 n0_1).mono ?_); rintro e V16 ⟨gh0_0, gh0_1, rfl, Ch0⟩; have qa0 := Ch0.below)
        | (go_at_call 15; (with_reducible refine (toStrip_any _ _ _  ).mono ?_); rintro e V17 ⟨rfl, Ch1⟩; have qa1 := Ch1)
        | (go_at_call 32; (with_reducible refine (implHaloRowsL _ _ _ _ _ _ _ _ _ _ _ _ (Ch0.o0.row.later qa1) (Ch0.o1.row.later qa1) b0_0 b0_1 m0_0 m0_1).mono ?_); rintro e V18 ⟨ah, ch, yh, rfl, Gh⟩; have bh := Gh.below; have qa2 := bh))
    have q := (below_next (below_next (below_next (below_drew V15) qa0) qa1) qa2)
    replace A0 := A0.later q
    replace A1 := A1.later q
    replace X0 := X0.later q
    replace Rw := Lib.hid (Rw.out.later q)
    replace O0_0 := Lib.hid (O0_0.out.later q)
    replace O0_1 := Lib.hid (O0_1.out.later q)
    replace Ri := Lib.hid (Ri.out.later q)
    replace HB := Lib.hid (HB.out.trans (q.mono HB.out.size))
    have sz18 : V15.heap.size ≤ V18.heap.size := q.size
    clear q
    have Rh := Lib.hid Gh.o
    have sph := Gh.o.span
    have Sh := Lib.hid Gh.s
    go_wp2_with fail
    refine (eqI64s _ _ _ _ _ _ _ Rh.out.row Rw.out (Sh.out.1.trans Sw.out.1.symm) (fewI_max Sh.out)).mono ?_
    rintro e V19 ⟨rfl, nq, hw⟩
    have q : Below V18.heap.size V18 V19 := by rw [hw]; exact below_drewN (Below.refl _ _) _
    clear hw
    replace A0 := A0.later q
    replace A1 := A1.later q
    replace X0 := X0.later q
    replace Rw := Lib.hid (Rw.out.later q)
    replace O0_0 := Lib.hid (O0_0.out.later q)
    replace O0_1 := Lib.hid (O0_1.out.later q)
    replace Ri := Lib.hid (Ri.out.later q)
    replace Rh := Lib.hid (Rh.out.later q)
    replace HB := Lib.hid (HB.out.trans (q.mono HB.out.size))
    have sz19 : V18.heap.size ≤ V19.heap.size := q.size
    clear q
    go_wp2_with fail
    refine (heldI _ _ yi.length 1 _ Ri.out.row (by omega) (by omega)).mono ?_
    rintro e w' ⟨rfl, hw⟩
    subst hw
    go_wp2
    go_ret
    exact ⟨rfl, HB.out⟩
  · skip
    go_enter Try.func6, Try.ntmps6
    go_wp2_with fail
    generalize ((w.alloc (.cells #[.int .i64 wd0, .int .i64 hi0, .bool wr0, .slice a0_0 x0_0.length c0_0, .slice a0_1 x0_1.length c0_1] 24)).alloc (.cells #[.int .i64 fr1, .int .i64 ct1] 26)) = V1 at *
    obtain ⟨A0c, A0f⟩ := A0.open
    refine (szSheet_no _ _ _ _ _ _ _ _ _ _ _ (by omega) (by omega) (by omega) m0_0 m0_1).mono ?_
    rintro e V2 ⟨rfl, q⟩
    clear A0c A0f
    replace A0 := A0.later q
    replace A1 := A1.later q
    replace HB := Lib.hid (HB.out.trans (q.mono HB.out.size))
    have sz2 : V1.heap.size ≤ V2.heap.size := q.size
    clear q
    go_wp2
    go_ret
    exact ⟨rfl, HB.out⟩
end Go.Proofs.Ytedfbaeajofmnaa
