/- The walk of the law on RunField. Conditions: none beyond those of each theorem. -/
import Derived.Test.YtedfbaeajofmnabBu6
import Derived.Test.YtedfbaeajofmnabBu22
import Derived.Test.YtedfbaeajofmnabBu2
namespace Go.Proofs.Ytedfbaeajofmnab
open Go Ieee Go.RowKit
set_option linter.unusedVariables false

set_option maxHeartbeats 16000000 in
set_option maxRecDepth 100000 in
theorem fnExactRunField_walk (wd0 : Int) (hi0 : Int) (wr0 : Bool) (a0_0 a0_1 : Option Addr) (c0_0 c0_1 : Nat) (x0_0 x0_1 : List Nat) (a1_0 a1_1 a1_2 : Option Addr) (c1_0 c1_1 c1_2 : Nat) (x1_0 x1_1 x1_2 : List Nat) (a2 : Int) (w : World) (r0_0 : RowV w a0_0 (fvals x0_0)) (r0_1 : RowV w a0_1 (fvals x0_1)) (b0_0 : ∀ x ∈ x0_0, x < 2 ^ 32) (b0_1 : ∀ x ∈ x0_1, x < 2 ^ 32) (m0_0 : x0_0.length ≤ maxLen) (m0_1 : x0_1.length ≤ maxLen) (r1_0 : RowV w a1_0 (fvals x1_0)) (r1_1 : RowV w a1_1 (fvals x1_1)) (r1_2 : RowV w a1_2 (fvals x1_2)) (b1_0 : ∀ x ∈ x1_0, x < 2 ^ 32) (b1_1 : ∀ x ∈ x1_1, x < 2 ^ 32) (b1_2 : ∀ x ∈ x1_2, x < 2 ^ 32) (m1_0 : x1_0.length ≤ maxLen) (m1_1 : x1_1.length ≤ maxLen) (m1_2 : x1_2.length ≤ maxLen) (w2 : (Lit.int .i64 a2).wf = true) :
    Calls Try.prog 5 #[.agg #[.int .i64 wd0, .int .i64 hi0, .bool wr0, .slice a0_0 x0_0.length c0_0, .slice a0_1 x0_1.length c0_1], .agg #[.slice a1_0 x1_0.length c1_0, .slice a1_1 x1_1.length c1_1, .slice a1_2 x1_2.length c1_2], .int .i64 a2] w fun e w' => e = .returned (.bool true) ∧ Below w.heap.size w w' := by
  have A0 := Blk.new w #[.int .i64 wd0, .int .i64 hi0, .bool wr0, .slice a0_0 x0_0.length c0_0, .slice a0_1 x0_1.length c0_1] 24
  have A1 := Blk.new1 w (.cells #[.int .i64 wd0, .int .i64 hi0, .bool wr0, .slice a0_0 x0_0.length c0_0, .slice a0_1 x0_1.length c0_1] 24) #[.slice a1_0 x1_0.length c1_0, .slice a1_1 x1_1.length c1_1, .slice a1_2 x1_2.length c1_2] 26
  replace A0 := A0.alloc (.cells #[.slice a1_0 x1_0.length c1_0, .slice a1_1 x1_1.length c1_1, .slice a1_2 x1_2.length c1_2] 26)
  have HB : Hid (Below w.heap.size w ((w.alloc (.cells #[.int .i64 wd0, .int .i64 hi0, .bool wr0, .slice a0_0 x0_0.length c0_0, .slice a0_1 x0_1.length c0_1] 24)).alloc (.cells #[.slice a1_0 x1_0.length c1_0, .slice a1_1 x1_1.length c1_1, .slice a1_2 x1_2.length c1_2] 26))) := Lib.hid (((Below.refl w.heap.size w).alloc (by simp <;> omega) _).alloc (by simp <;> omega) _)
  by_cases hs0 : (x0_0.length : Int) + (x0_1.length : Int) ≤ 1048576
  · skip
    by_cases hs1 : (x1_0.length : Int) + (x1_1.length : Int) + (x1_2.length : Int) ≤ 1048576 - ((x0_0.length : Int) + (x0_1.length : Int))
    · skip
      have n0_0 : x0_0.length ≤ 1048576 := by omega
      have n0_1 : x0_1.length ≤ 1048576 := by omega
      have n1_0 : x1_0.length ≤ 1048576 := by omega
      have n1_1 : x1_1.length ≤ 1048576 := by omega
      have n1_2 : x1_2.length ≤ 1048576 := by omega
      go_enter Try.func5, Try.ntmps5
      go_wp2_with fail
      generalize ((w.alloc (.cells #[.int .i64 wd0, .int .i64 hi0, .bool wr0, .slice a0_0 x0_0.length c0_0, .slice a0_1 x0_1.length c0_1] 24)).alloc (.cells #[.slice a1_0 x1_0.length c1_0, .slice a1_1 x1_1.length c1_1, .slice a1_2 x1_2.length c1_2] 26)) = V1 at *
      obtain ⟨A0c, A0f⟩ := A0.open
      refine (szSheet_yes _ _ _ _ _ _ _ _ _ _ _ hs0 (by omega)).mono ?_
      rintro e V2 ⟨rfl, q⟩
      clear A0c A0f
      replace A0 := A0.later q
      replace A1 := A1.later q
      replace HB := Lib.hid (HB.out.trans (q.mono HB.out.size))
      clear q
      obtain ⟨A1c, A1f⟩ := A1.open
      go_wp2_with fail
      refine (szField_yes _ _ _ _ _ _ _ _ _ _ _ hs1 (by omega)).mono ?_
      rintro e V3 ⟨rfl, q⟩
      clear A1c A1f
      replace A0 := A0.later q
      replace A1 := A1.later q
      replace HB := Lib.hid (HB.out.trans (q.mono HB.out.size))
      clear q
      have za0 := A0.lt
      have za1 := A1.lt
      have zh := HB.out.size
      obtain ⟨A0c, A0f⟩ := A0.open
      obtain ⟨A1c, A1f⟩ := A1.open
      go_upto_region 8 with (fail)
      clear A0c A0f
      clear A1c A1f
      clear hs0
      clear hs1
      go_cut [8, 9] (fun sa sb wx => RelField V3  (ifO (runB wd0 hi0 wr0 x0_0 x0_1 x1_0 x1_1 x1_2 a2) (oL wd0 hi0 (runL wd0 hi0 wr0 x0_0 x0_1 x1_0 x1_1 x1_2 a2).e)) (ifO (runB wd0 hi0 wr0 x0_0 x0_1 x1_0 x1_1 x1_2 a2) (oL wd0 hi0 (runL wd0 hi0 wr0 x0_0 x0_1 x1_0 x1_1 x1_2 a2).x)) (ifO (runB wd0 hi0 wr0 x0_0 x0_1 x1_0 x1_1 x1_2 a2) (oL wd0 hi0 (runL wd0 hi0 wr0 x0_0 x0_1 x1_0 x1_1 x1_2 a2).y)) (runB wd0 hi0 wr0 x0_0 x0_1 x1_0 x1_1 x1_2 a2) sa sb wx)
      case first =>
        go_region_held3 (fun w' => (∀ i, w'.cell? ⟨w.heap.size, i, none⟩ = (#[.int .i64 wd0, .int .i64 hi0, .bool wr0, .slice a0_0 x0_0.length c0_0, .slice a0_1 x0_1.length c0_1] : Array Value)[i]?) ∧ (∀ i, w'.cell? ⟨w.heap.size + 1, i, none⟩ = (#[.slice a1_0 x1_0.length c1_0, .slice a1_1 x1_1.length c1_1, .slice a1_2 x1_2.length c1_2] : Array Value)[i]?) ∧ Below V3.heap.size V3 w') (first
            | with_reducible exact keep2_start A0 A1
            | with_reducible exact keep2_later A0 A1 (by assumption) (by assumption)
            | with_reducible exact keep2_later A0 A1 (by assumption) (below_new _ _)
            | exact keep2_now A0 A1 (below_next (below_new _ _) (below_drew _))
            | exact keep2_now A0 A1 (below_next (below_next (below_next (below_next (below_drew V3) qa0) qa1) qa2) (below_new _ _))
            | exact keep2_now A0 A1 ((((below_next (below_next (below_next (below_next (below_new V3 (.cells #[.slice none 0 0, .slice none 0 0, .slice none 0 0] 29)) (below_drew _)) qa0) qa1) qa2).setCell (p := ⟨_, 0, none⟩) (Nat.le_refl _) _).setCell (p := ⟨_, 1, none⟩) (Nat.le_refl _) _).setCell (p := ⟨_, 2, none⟩) (Nat.le_refl _) _)
            | exact keep2_now A0 A1 ((((below_next (below_next (below_next (below_next (below_drew V3) qa0) (below_new _ _)) qa1) qa2).setCell (p := ⟨_, 0, none⟩) (below_next (below_drew V3) qa0).size _).setCell (p := ⟨_, 1, none⟩) (below_next (below_drew V3) qa0).size _).setCell (p := ⟨_, 2, none⟩) (below_next (below_drew V3) qa0).size _)
            | exact keep2_now A0 A1 ((((below_next (below_next (below_next (below_next (below_drew V3) qa0) qa1) (below_new _ _)) qa2).setCell (p := ⟨_, 0, none⟩) (below_next (below_next (below_drew V3) qa0) qa1).size _).setCell (p := ⟨_, 1, none⟩) (below_next (below_next (below_drew V3) qa0) qa1).size _).setCell (p := ⟨_, 2, none⟩) (below_next (below_next (below_drew V3) qa0) qa1).size _))
          (first
            | (go_at_call 13; (with_reducible refine (toSheet_any _ _ _ _ _ _ _ _ _ _ (row_held2 r0_0 HB.out (by assumption)) (row_held2 r0_1 HB.out (by assumption)) n0_0 n0_1).mono ?_); rintro e V4 ⟨gw0_0, gw0_1, rfl, Cw0⟩; have qa0 := Cw0.below)
            | (go_at_call 14; (with_reducible refine (toField_any _ _ _ _ _ _ _ _ _ _ (row_held2 r1_0 HB.out (by assumption)) (row_held2 r1_1 HB.out (by assumption)) (row_held2 r1_2 HB.out (by assumption)) n1_0 n1_1 n1_2).mono ?_); rintro e V5 ⟨gw1_0, gw1_1, gw1_2, rfl, Cw1⟩; have qa1 := Cw1.below)
            | (go_at_call 23; (with_reducible refine (specRunFieldL _ _ _ _ _ _ _ _ _ _ _ _ _ _ _ _ _ _ _ _ (by first | exact (Cw0.o0.row.later qa1) | exact ((Cw0.o0.row.later (below_new _ _)).later qa1) | exact ((Cw0.o0.row.later qa1).later (below_new _ _))) (by first | exact (Cw0.o1.row.later qa1) | exact ((Cw0.o1.row.later (below_new _ _)).later qa1) | exact ((Cw0.o1.row.later qa1).later (below_new _ _))) b0_0 b0_1 m0_0 m0_1 (by first | exact Cw1.o0.row | exact (Cw1.o0.row.later (below_new _ _))) (by first | exact Cw1.o1.row | exact (Cw1.o1.row.later (below_new _ _))) (by first | exact Cw1.o2.row | exact (Cw1.o2.row.later (below_new _ _))) b1_0 b1_1 b1_2 m1_0 m1_1 m1_2 w2).mono ?_); rintro e V6 ⟨aw0, aw1, aw2, cw0, cw1, cw2, yw0, yw1, yw2, rfl, Gw⟩; have bw := Gw.below; have qa2 := bw; (first | (have bx0 := (((Blk.later (w := (V3.alloc (.cells #[.slice none 0 0, .slice none 0 0, .slice none 0 0] 29)).drew) (Blk.new V3 #[.slice none 0 0, .slice none 0 0, .slice none 0 0] 29) qa0).later qa1).later qa2); obtain ⟨bxc, bxf⟩ := bx0.open; clear bx0) | (have bx0 := ((Blk.later (w := (V4.alloc (.cells #[.slice none 0 0, .slice none 0 0, .slice none 0 0] 29))) (Blk.new V4 #[.slice none 0 0, .slice none 0 0, .slice none 0 0] 29) qa1).later qa2); obtain ⟨bxc, bxf⟩ := bx0.open; clear bx0) | (have bx0 := (Blk.later (w := (V5.alloc (.cells #[.slice none 0 0, .slice none 0 0, .slice none 0 0] 29))) (Blk.new V5 #[.slice none 0 0, .slice none 0 0, .slice none 0 0] 29) qa2); obtain ⟨bxc, bxf⟩ := bx0.open; clear bx0) | skip)))
        all_goals go_wp2
        all_goals go_meet
        all_goals (case rel => (first
            | (refine ⟨_, aw0, aw1, aw2, cw0, cw1, cw2, yw0, yw1, yw2, rfl, rfl, MetField.last (below_next (below_next (below_next (below_drew V3) qa0) qa1) qa2) Gw.o0 Gw.o1 Gw.o2 Gw.s0 Gw.s1 Gw.s2⟩; done)
            | (refine ⟨V3.heap.size, aw0, aw1, aw2, cw0, cw1, cw2, yw0, yw1, yw2, rfl, rfl, MetField.early (below_next (below_next (below_next (below_next (below_new V3 (.cells #[.slice none 0 0, .slice none 0 0, .slice none 0 0] 29)) (below_drew _)) qa0) qa1) qa2) (Nat.le_refl _) (Nat.lt_of_lt_of_le (lt_newd qa0) qa1.size) (((Blk.later (w := (V3.alloc (.cells #[.slice none 0 0, .slice none 0 0, .slice none 0 0] 29)).drew) (Blk.new V3 #[.slice none 0 0, .slice none 0 0, .slice none 0 0] 29) qa0).later qa1).later qa2) Gw.o0 Gw.o1 Gw.o2 Gw.s0 Gw.s1 Gw.s2⟩; done)
            | (refine ⟨V4.heap.size, aw0, aw1, aw2, cw0, cw1, cw2, yw0, yw1, yw2, rfl, rfl, MetField.early (below_next (below_next (below_next (below_next (below_drew V3) qa0) (below_new _ _)) qa1) qa2) ((below_next (below_drew V3) qa0).size) (lt_new qa1) ((Blk.later (w := (V4.alloc (.cells #[.slice none 0 0, .slice none 0 0, .slice none 0 0] 29))) (Blk.new V4 #[.slice none 0 0, .slice none 0 0, .slice none 0 0] 29) qa1).later qa2) Gw.o0 Gw.o1 Gw.o2 Gw.s0 Gw.s1 Gw.s2⟩; done)
            | (refine ⟨V5.heap.size, aw0, aw1, aw2, cw0, cw1, cw2, yw0, yw1, yw2, rfl, rfl, MetField.early (below_next (below_next (below_next (below_next (below_drew V3) qa0) qa1) (below_new _ _)) qa2) ((below_next (below_next (below_drew V3) qa0) qa1).size) (lt_here _ _) (Blk.later (w := (V5.alloc (.cells #[.slice none 0 0, .slice none 0 0, .slice none 0 0] 29))) (Blk.new V5 #[.slice none 0 0, .slice none 0 0, .slice none 0 0] 29) qa2) Gw.o0 Gw.o1 Gw.o2 Gw.s0 Gw.s1 Gw.s2⟩; done)
            | fail "no way fits"))
      case rest =>
        obtain ⟨bww, aw0, aw1, aw2, cw0, cw1, cw2, yw0, yw1, yw2, rfl, rfl, Gw⟩ := hcut
        skip
        generalize wc = V7 at *
        have q := Gw.below
        replace A0 := A0.later q
        replace A1 := A1.later q
        replace HB := Lib.hid (HB.out.trans (q.mono HB.out.size))
        have sz7 : V3.heap.size ≤ V7.heap.size := q.size
        clear q
        have Rw0 := Lib.hid Gw.r0
        have lww0 := Gw.r0.low
        have Rw1 := Lib.hid Gw.r1
        have lww1 := Gw.r1.low
        have Rw2 := Lib.hid Gw.r2
        have lww2 := Gw.r2.low
        have Bw := Gw.box
        have sblw := Gw.le; have sbhw := Bw.lt
        have Sw0 := Lib.hid Gw.s0
        have Sw1 := Lib.hid Gw.s1
        have Sw2 := Lib.hid Gw.s2
        obtain ⟨A0c, A0f⟩ := A0.open
        go_wp2_with fail
        refine (toSheet_any _ _ _ _ _ _ _ _ _ _ (r0_0.later HB.out) (r0_1.later HB.out) n0_0 n0_1).mono ?_
        rintro e V8 ⟨gx0_0, gx0_1, rfl, Cx0⟩
        clear A0c A0f
        replace A0 := A0.later Cx0.below
        replace A1 := A1.later Cx0.below
        replace Bw := Bw.later Cx0.below
        replace Rw0 := Lib.hid (Rw0.out.later Cx0.below)
        replace Rw1 := Lib.hid (Rw1.out.later Cx0.below)
        replace Rw2 := Lib.hid (Rw2.out.later Cx0.below)
        replace HB := Lib.hid (HB.out.trans (Cx0.below.mono HB.out.size))
        have sz8 : V7.heap.size ≤ V8.heap.size := Cx0.below.size
        have O0_0 := Lib.hid Cx0.o0
        have so0_0 := Cx0.o0.span
        have O0_1 := Lib.hid Cx0.o1
        have so0_1 := Cx0.o1.span
        have ll0_0 := Cx0.l0
        have X0 := Blk.new V8 #[.int .i64 wd0, .int .i64 hi0, .bool wr0, .slice (some ⟨gx0_0, 0, none⟩) x0_0.length x0_0.length, .slice (some ⟨gx0_1, 0, none⟩) x0_1.length x0_1.length] 32
        have q := below_new V8 (.cells #[.int .i64 wd0, .int .i64 hi0, .bool wr0, .slice (some ⟨gx0_0, 0, none⟩) x0_0.length x0_0.length, .slice (some ⟨gx0_1, 0, none⟩) x0_1.length x0_1.length] 32)
        replace A0 := A0.later q
        replace A1 := A1.later q
        replace Bw := Bw.later q
        replace Rw0 := Lib.hid (Rw0.out.later q)
        replace Rw1 := Lib.hid (Rw1.out.later q)
        replace Rw2 := Lib.hid (Rw2.out.later q)
        replace O0_0 := Lib.hid (O0_0.out.later q)
        replace O0_1 := Lib.hid (O0_1.out.later q)
        replace HB := Lib.hid (HB.out.trans (q.mono HB.out.size))
        clear q
        obtain ⟨A1c, A1f⟩ := A1.open
        go_wp2_with fail
        generalize V8.alloc (.cells #[.int .i64 wd0, .int .i64 hi0, .bool wr0, .slice (some ⟨gx0_0, 0, none⟩) x0_0.length x0_0.length, .slice (some ⟨gx0_1, 0, none⟩) x0_1.length x0_1.length] 32) = V9 at *
        have sz9 : V8.heap.size < V9.heap.size := X0.lt
        refine (toField_any _ _ _ _ _ _ _ _ _ _ (r1_0.later HB.out) (r1_1.later HB.out) (r1_2.later HB.out) n1_0 n1_1 n1_2).mono ?_
        rintro e V10 ⟨gx1_0, gx1_1, gx1_2, rfl, Cx1⟩
        clear A1c A1f
        replace A0 := A0.later Cx1.below
        replace A1 := A1.later Cx1.below
        replace Bw := Bw.later Cx1.below
        replace X0 := X0.later Cx1.below
        replace Rw0 := Lib.hid (Rw0.out.later Cx1.below)
        replace Rw1 := Lib.hid (Rw1.out.later Cx1.below)
        replace Rw2 := Lib.hid (Rw2.out.later Cx1.below)
        replace O0_0 := Lib.hid (O0_0.out.later Cx1.below)
        replace O0_1 := Lib.hid (O0_1.out.later Cx1.below)
        replace HB := Lib.hid (HB.out.trans (Cx1.below.mono HB.out.size))
        have sz10 : V9.heap.size ≤ V10.heap.size := Cx1.below.size
        have O1_0 := Lib.hid Cx1.o0
        have so1_0 := Cx1.o0.span
        have O1_1 := Lib.hid Cx1.o1
        have so1_1 := Cx1.o1.span
        have O1_2 := Lib.hid Cx1.o2
        have so1_2 := Cx1.o2.span
        have ll1_0 := Cx1.l0
        have ll1_1 := Cx1.l1
        have X1 := Blk.new V10 #[.slice (some ⟨gx1_0, 0, none⟩) x1_0.length x1_0.length, .slice (some ⟨gx1_1, 0, none⟩) x1_1.length x1_1.length, .slice (some ⟨gx1_2, 0, none⟩) x1_2.length x1_2.length] 29
        have q := below_new V10 (.cells #[.slice (some ⟨gx1_0, 0, none⟩) x1_0.length x1_0.length, .slice (some ⟨gx1_1, 0, none⟩) x1_1.length x1_1.length, .slice (some ⟨gx1_2, 0, none⟩) x1_2.length x1_2.length] 29)
        replace A0 := A0.later q
        replace A1 := A1.later q
        replace Bw := Bw.later q
        replace X0 := X0.later q
        replace Rw0 := Lib.hid (Rw0.out.later q)
        replace Rw1 := Lib.hid (Rw1.out.later q)
        replace Rw2 := Lib.hid (Rw2.out.later q)
        replace O0_0 := Lib.hid (O0_0.out.later q)
        replace O0_1 := Lib.hid (O0_1.out.later q)
        replace O1_0 := Lib.hid (O1_0.out.later q)
        replace O1_1 := Lib.hid (O1_1.out.later q)
        replace O1_2 := Lib.hid (O1_2.out.later q)
        replace HB := Lib.hid (HB.out.trans (q.mono HB.out.size))
        clear q
        obtain ⟨X0c, X0f⟩ := X0.open
        obtain ⟨X1c, X1f⟩ := X1.open
        go_wp2_with fail
        generalize V10.alloc (.cells #[.slice (some ⟨gx1_0, 0, none⟩) x1_0.length x1_0.length, .slice (some ⟨gx1_1, 0, none⟩) x1_1.length x1_1.length, .slice (some ⟨gx1_2, 0, none⟩) x1_2.length x1_2.length] 29) = V11 at *
        have sz11 : V10.heap.size < V11.heap.size := X1.lt
        clear X0c X0f
        clear X1c X1f
        refine (implRunFieldL _ _ _ _ _ _ _ _ _ _ _ _ _ _ _ _ _ _ _ _ O0_0.out.row O0_1.out.row b0_0 b0_1 m0_0 m0_1 O1_0.out.row O1_1.out.row O1_2.out.row b1_0 b1_1 b1_2 m1_0 m1_1 m1_2 w2).mono ?_
        rintro e V12 ⟨ai0, ai1, ai2, ci0, ci1, ci2, yi0, yi1, yi2, rfl, Gi⟩
        have bi := Gi.below
        replace A0 := A0.later bi
        replace A1 := A1.later bi
        replace Bw := Bw.later bi
        replace X0 := X0.later bi
        replace X1 := X1.later bi
        replace Rw0 := Lib.hid (Rw0.out.later bi)
        replace Rw1 := Lib.hid (Rw1.out.later bi)
        replace Rw2 := Lib.hid (Rw2.out.later bi)
        replace O0_0 := Lib.hid (O0_0.out.later bi)
        replace O0_1 := Lib.hid (O0_1.out.later bi)
        replace O1_0 := Lib.hid (O1_0.out.later bi)
        replace O1_1 := Lib.hid (O1_1.out.later bi)
        replace O1_2 := Lib.hid (O1_2.out.later bi)
        replace HB := Lib.hid (HB.out.trans (bi.mono HB.out.size))
        have sz12 : V11.heap.size ≤ V12.heap.size := bi.size
        have Ri0 := Lib.hid Gi.o0
        have spi0 := Gi.o0.span
        have Ri1 := Lib.hid Gi.o1
        have spi1 := Gi.o1.span
        have Ri2 := Lib.hid Gi.o2
        have spi2 := Gi.o2.span
        have Si0 := Lib.hid Gi.s0
        have Si1 := Lib.hid Gi.s1
        have Si2 := Lib.hid Gi.s2
        have Bi := Blk.new V12 #[.slice ai0 yi0.length ci0, .slice ai1 yi1.length ci1, .slice ai2 yi2.length ci2] 29
        have q := below_new V12 (.cells #[.slice ai0 yi0.length ci0, .slice ai1 yi1.length ci1, .slice ai2 yi2.length ci2] 29)
        replace A0 := A0.later q
        replace A1 := A1.later q
        replace Bw := Bw.later q
        replace X0 := X0.later q
        replace X1 := X1.later q
        replace Rw0 := Lib.hid (Rw0.out.later q)
        replace Rw1 := Lib.hid (Rw1.out.later q)
        replace Rw2 := Lib.hid (Rw2.out.later q)
        replace O0_0 := Lib.hid (O0_0.out.later q)
        replace O0_1 := Lib.hid (O0_1.out.later q)
        replace O1_0 := Lib.hid (O1_0.out.later q)
        replace O1_1 := Lib.hid (O1_1.out.later q)
        replace O1_2 := Lib.hid (O1_2.out.later q)
        replace Ri0 := Lib.hid (Ri0.out.later q)
        replace Ri1 := Lib.hid (Ri1.out.later q)
        replace Ri2 := Lib.hid (Ri2.out.later q)
        replace HB := Lib.hid (HB.out.trans (q.mono HB.out.size))
        clear q
        obtain ⟨Bic, Bif⟩ := Bi.open
        obtain ⟨Bwc, Bwf⟩ := Bw.open
        go_wp2_with fail
        generalize V12.alloc (.cells #[.slice ai0 yi0.length ci0, .slice ai1 yi1.length ci1, .slice ai2 yi2.length ci2] 29) = V13 at *
        have sz13 : V12.heap.size < V13.heap.size := Bi.lt
        clear Bic Bif
        clear Bwc Bwf
        refine (eqField_any _ _ _ _ _ _ _ _ _ _ _ _ _ _ _ _ _ _ _ Ri0.out.row Ri1.out.row Ri2.out.row Rw0.out Rw1.out Rw2.out (Si0.out.same Sw0.out) (Si1.out.same Sw1.out) (Si2.out.same Sw2.out) (few_max Si0.out) (few_max Si1.out) (few_max Si2.out)).mono ?_
        rintro e V14 ⟨rfl, q⟩
        replace A0 := A0.later q
        replace A1 := A1.later q
        replace Bw := Bw.later q
        replace X0 := X0.later q
        replace X1 := X1.later q
        replace Bi := Bi.later q
        replace Rw0 := Lib.hid (Rw0.out.later q)
        replace Rw1 := Lib.hid (Rw1.out.later q)
        replace Rw2 := Lib.hid (Rw2.out.later q)
        replace O0_0 := Lib.hid (O0_0.out.later q)
        replace O0_1 := Lib.hid (O0_1.out.later q)
        replace O1_0 := Lib.hid (O1_0.out.later q)
        replace O1_1 := Lib.hid (O1_1.out.later q)
        replace O1_2 := Lib.hid (O1_2.out.later q)
        replace Ri0 := Lib.hid (Ri0.out.later q)
        replace Ri1 := Lib.hid (Ri1.out.later q)
        replace Ri2 := Lib.hid (Ri2.out.later q)
        replace HB := Lib.hid (HB.out.trans (q.mono HB.out.size))
        have sz14 : V13.heap.size ≤ V14.heap.size := q.size
        clear q
        obtain ⟨X0c, X0f⟩ := X0.open
        obtain ⟨A0c, A0f⟩ := A0.open
        go_wp2_with fail
        clear X0c X0f
        clear A0c A0f
        go_region_held3 (fun w' => (∀ i, w'.cell? ⟨V8.heap.size, i, none⟩ = (#[.int .i64 wd0, .int .i64 hi0, .bool wr0, .slice (some ⟨gx0_0, 0, none⟩) x0_0.length x0_0.length, .slice (some ⟨gx0_1, 0, none⟩) x0_1.length x0_1.length] : Array Value)[i]?) ∧ (∀ i, w'.cell? ⟨w.heap.size, i, none⟩ = (#[.int .i64 wd0, .int .i64 hi0, .bool wr0, .slice a0_0 x0_0.length c0_0, .slice a0_1 x0_1.length c0_1] : Array Value)[i]?) ∧ Below V14.heap.size V14 w') (first | with_reducible exact keep2_start X0 A0 | with_reducible exact keep2_later X0 A0 (by assumption) (by assumption))
          (first
            | (go_at_call 13; (with_reducible refine (toSheet_any _ _ _ _ _ _ _ _ _ _ (row_held2 r0_0 HB.out (by assumption)) (row_held2 r0_1 HB.out (by assumption)) n0_0 n0_1).mono ?_); rintro e V15 ⟨ge0_0, ge0_1, rfl, Ce0⟩; have qa0 := Ce0.below)
            | (go_at_call 17; (with_reducible refine (eqSheet_any _ _ _ _ _ _ _ _ _ _ _ _ _ _ _ _ (row_held2 O0_0.out.row (Below.refl _ _) (by assumption)) (row_held2 O0_1.out.row (Below.refl _ _) (by assumption)) Ce0.o0.row Ce0.o1.row (SameF.refl b0_0) (SameF.refl b0_1) m0_0 m0_1).mono ?_); rintro e V16 ⟨rfl, qa1⟩))
        have q := (below_next (below_next (below_drew V14) qa0) qa1)
        replace A0 := A0.later q
        replace A1 := A1.later q
        replace Bw := Bw.later q
        replace X0 := X0.later q
        replace X1 := X1.later q
        replace Bi := Bi.later q
        replace Rw0 := Lib.hid (Rw0.out.later q)
        replace Rw1 := Lib.hid (Rw1.out.later q)
        replace Rw2 := Lib.hid (Rw2.out.later q)
        replace O0_0 := Lib.hid (O0_0.out.later q)
        replace O0_1 := Lib.hid (O0_1.out.later q)
        replace O1_0 := Lib.hid (O1_0.out.later q)
        replace O1_1 := Lib.hid (O1_1.out.later q)
        replace O1_2 := Lib.hid (O1_2.out.later q)
        replace Ri0 := Lib.hid (Ri0.out.later q)
        replace Ri1 := Lib.hid (Ri1.out.later q)
        replace Ri2 := Lib.hid (Ri2.out.later q)
        replace HB := Lib.hid (HB.out.trans (q.mono HB.out.size))
        have sz16 : V14.heap.size ≤ V16.heap.size := q.size
        clear q
        obtain ⟨X1c, X1f⟩ := X1.open
        obtain ⟨A1c, A1f⟩ := A1.open
        go_wp2_with fail
        clear X1c X1f
        clear A1c A1f
        go_region_held3 (fun w' => (∀ i, w'.cell? ⟨V10.heap.size, i, none⟩ = (#[.slice (some ⟨gx1_0, 0, none⟩) x1_0.length x1_0.length, .slice (some ⟨gx1_1, 0, none⟩) x1_1.length x1_1.length, .slice (some ⟨gx1_2, 0, none⟩) x1_2.length x1_2.length] : Array Value)[i]?) ∧ (∀ i, w'.cell? ⟨w.heap.size + 1, i, none⟩ = (#[.slice a1_0 x1_0.length c1_0, .slice a1_1 x1_1.length c1_1, .slice a1_2 x1_2.length c1_2] : Array Value)[i]?) ∧ Below V16.heap.size V16 w') (first | with_reducible exact keep2_start X1 A1 | with_reducible exact keep2_later X1 A1 (by assumption) (by assumption))
          (first
            | (go_at_call 14; (with_reducible refine (toField_any _ _ _ _ _ _ _ _ _ _ (row_held2 r1_0 HB.out (by assumption)) (row_held2 r1_1 HB.out (by assumption)) (row_held2 r1_2 HB.out (by assumption)) n1_0 n1_1 n1_2).mono ?_); rintro e V17 ⟨ge1_0, ge1_1, ge1_2, rfl, Ce1⟩; have qa0 := Ce1.below)
            | (go_at_call 16; (with_reducible refine (eqField_any _ _ _ _ _ _ _ _ _ _ _ _ _ _ _ _ _ _ _ (row_held2 O1_0.out.row (Below.refl _ _) (by assumption)) (row_held2 O1_1.out.row (Below.refl _ _) (by assumption)) (row_held2 O1_2.out.row (Below.refl _ _) (by assumption)) Ce1.o0.row Ce1.o1.row Ce1.o2.row (SameF.refl b1_0) (SameF.refl b1_1) (SameF.refl b1_2) m1_0 m1_1 m1_2).mono ?_); rintro e V18 ⟨rfl, qa1⟩))
        have q := (below_next (below_next (below_drew V16) qa0) qa1)
        replace A0 := A0.later q
        replace A1 := A1.later q
        replace Bw := Bw.later q
        replace X0 := X0.later q
        replace X1 := X1.later q
        replace Bi := Bi.later q
        replace Rw0 := Lib.hid (Rw0.out.later q)
        replace Rw1 := Lib.hid (Rw1.out.later q)
        replace Rw2 := Lib.hid (Rw2.out.later q)
        replace O0_0 := Lib.hid (O0_0.out.later q)
        replace O0_1 := Lib.hid (O0_1.out.later q)
        replace O1_0 := Lib.hid (O1_0.out.later q)
        replace O1_1 := Lib.hid (O1_1.out.later q)
        replace O1_2 := Lib.hid (O1_2.out.later q)
        replace Ri0 := Lib.hid (Ri0.out.later q)
        replace Ri1 := Lib.hid (Ri1.out.later q)
        replace Ri2 := Lib.hid (Ri2.out.later q)
        replace HB := Lib.hid (HB.out.trans (q.mono HB.out.size))
        have sz18 : V16.heap.size ≤ V18.heap.size := q.size
        clear q
        obtain ⟨X0c, X0f⟩ := X0.open
        go_wp2_with fail
        have MK := markSheet_any V7.heap.size wd0 hi0 wr0 _ _ (x0_0.length) (x0_1.length) (fvals x0_0) (fvals x0_1) (1) _ (by omega) O0_0.out O0_1.out (apart_ne (by omega)) (by omega) (by simp only [fvals_length]; omega)
        simp only [fvals_length] at MK
        refine MK.mono ?_
        clear MK
        rintro e V19 ⟨rfl, M⟩
        clear X0c X0f
        have sz19 : V18.heap.size ≤ V19.heap.size := M.below.size
        have ot : Out V18 V19 V7.heap.size V8.heap.size := ⟨M.below.size, fun j hj hd => M.keep j hj (so0_0.ne hd) (so0_1.ne hd)⟩
        replace A0 := A0.out ot (by omega)
        replace A1 := A1.out ot (by omega)
        replace Bw := Bw.out ot (by omega)
        replace X0 := X0.out ot (by omega)
        replace X1 := X1.out ot (by omega)
        replace Bi := Bi.out ot (by omega)
        replace Rw0 := Lib.hid (Rw0.out.outside ot lww0 (by omega))
        replace Rw1 := Lib.hid (Rw1.out.outside ot lww1 (by omega))
        replace Rw2 := Lib.hid (Rw2.out.outside ot lww2 (by omega))
        replace O1_0 := Lib.hid (O1_0.out.outside ot so1_0 (by omega))
        replace O1_1 := Lib.hid (O1_1.out.outside ot so1_1 (by omega))
        replace O1_2 := Lib.hid (O1_2.out.outside ot so1_2 (by omega))
        replace Ri0 := Lib.hid (Ri0.out.outside ot spi0 (by omega))
        replace Ri1 := Lib.hid (Ri1.out.outside ot spi1 (by omega))
        replace Ri2 := Lib.hid (Ri2.out.outside ot spi2 (by omega))
        replace O0_0 := Lib.hid M.o0
        replace O0_1 := Lib.hid M.o1
        replace HB := Lib.hid (HB.out.trans (M.below.mono (by omega)))
        clear ot M
        obtain ⟨X1c, X1f⟩ := X1.open
        go_wp2_with fail
        have MK := markField_any V9.heap.size  _ _ _ (x1_0.length) (x1_1.length) (x1_2.length) (fvals x1_0) (fvals x1_1) (fvals x1_2) (1 + (x0_0.length : Int) + (x0_1.length : Int)) _ (by omega) O1_0.out O1_1.out O1_2.out (apart_ne (by omega)) (apart_ne (by omega)) (apart_ne (by omega)) (by omega) (by simp only [fvals_length]; omega)
        simp only [fvals_length] at MK
        refine MK.mono ?_
        clear MK
        rintro e V20 ⟨rfl, M⟩
        clear X1c X1f
        have sz20 : V19.heap.size ≤ V20.heap.size := M.below.size
        have ot : Out V19 V20 V9.heap.size V10.heap.size := ⟨M.below.size, fun j hj hd => M.keep j hj (so1_0.ne hd) (so1_1.ne hd) (so1_2.ne hd)⟩
        replace A0 := A0.out ot (by omega)
        replace A1 := A1.out ot (by omega)
        replace Bw := Bw.out ot (by omega)
        replace X0 := X0.out ot (by omega)
        replace X1 := X1.out ot (by omega)
        replace Bi := Bi.out ot (by omega)
        replace Rw0 := Lib.hid (Rw0.out.outside ot lww0 (by omega))
        replace Rw1 := Lib.hid (Rw1.out.outside ot lww1 (by omega))
        replace Rw2 := Lib.hid (Rw2.out.outside ot lww2 (by omega))
        replace O0_0 := Lib.hid (O0_0.out.outside ot so0_0 (by omega))
        replace O0_1 := Lib.hid (O0_1.out.outside ot so0_1 (by omega))
        replace Ri0 := Lib.hid (Ri0.out.outside ot spi0 (by omega))
        replace Ri1 := Lib.hid (Ri1.out.outside ot spi1 (by omega))
        replace Ri2 := Lib.hid (Ri2.out.outside ot spi2 (by omega))
        replace O1_0 := Lib.hid M.o0
        replace O1_1 := Lib.hid M.o1
        replace O1_2 := Lib.hid M.o2
        replace HB := Lib.hid (HB.out.trans (M.below.mono (by omega)))
        clear ot M
        have dk : ¬ (1 + (x0_0.length : Int) + (x0_1.length : Int) + (x1_0.length : Int) + (x1_1.length : Int) + (x1_2.length : Int) < 0) := by omega
        obtain ⟨Bic, Bif⟩ := Bi.open
        obtain ⟨Bwc, Bwf⟩ := Bw.open
        go_wp2_with fail
        refine (eqField_any _ _ _ _ _ _ _ _ _ _ _ _ _ _ _ _ _ _ _ Ri0.out.row Ri1.out.row Ri2.out.row Rw0.out Rw1.out Rw2.out (Si0.out.same Sw0.out) (Si1.out.same Sw1.out) (Si2.out.same Sw2.out) (few_max Si0.out) (few_max Si1.out) (few_max Si2.out)).mono ?_
        rintro e V21 ⟨rfl, q⟩
        clear Bic Bif
        clear Bwc Bwf
        replace A0 := A0.later q
        replace A1 := A1.later q
        replace Bw := Bw.later q
        replace X0 := X0.later q
        replace X1 := X1.later q
        replace Bi := Bi.later q
        replace Rw0 := Lib.hid (Rw0.out.later q)
        replace Rw1 := Lib.hid (Rw1.out.later q)
        replace Rw2 := Lib.hid (Rw2.out.later q)
        replace O0_0 := Lib.hid (O0_0.out.later q)
        replace O0_1 := Lib.hid (O0_1.out.later q)
        replace O1_0 := Lib.hid (O1_0.out.later q)
        replace O1_1 := Lib.hid (O1_1.out.later q)
        replace O1_2 := Lib.hid (O1_2.out.later q)
        replace Ri0 := Lib.hid (Ri0.out.later q)
        replace Ri1 := Lib.hid (Ri1.out.later q)
        replace Ri2 := Lib.hid (Ri2.out.later q)
        replace HB := Lib.hid (HB.out.trans (q.mono HB.out.size))
        have sz21 : V20.heap.size ≤ V21.heap.size := q.size
        clear q
        clear dk
        have fy0 := Si0.out.few
        have fy1 := Si1.out.few
        have fy2 := Si2.out.few
        obtain ⟨Bic, Bif⟩ := Bi.open
        go_wp2_with fail
        have MK := markField_any V11.heap.size  _ _ _ (ci0) (ci1) (ci2) (fvals yi0) (fvals yi1) (fvals yi2) 1 _ (by omega) Ri0.out Ri1.out Ri2.out Gi.p01 Gi.p02 Gi.p12 (by omega) (by simp only [fvals_length]; omega)
        simp only [fvals_length] at MK
        refine MK.mono ?_
        clear MK
        rintro e V22 ⟨rfl, M⟩
        clear Bic Bif
        have sz22 : V21.heap.size ≤ V22.heap.size := M.below.size
        have ot : Out V21 V22 V11.heap.size V12.heap.size := ⟨M.below.size, fun j hj hd => M.keep j hj (spi0.ne hd) (spi1.ne hd) (spi2.ne hd)⟩
        replace A0 := A0.out ot (by omega)
        replace A1 := A1.out ot (by omega)
        replace Bw := Bw.out ot (by omega)
        replace X0 := X0.out ot (by omega)
        replace X1 := X1.out ot (by omega)
        replace Bi := Bi.out ot (by omega)
        replace Rw0 := Lib.hid (Rw0.out.outside ot lww0 (by omega))
        replace Rw1 := Lib.hid (Rw1.out.outside ot lww1 (by omega))
        replace Rw2 := Lib.hid (Rw2.out.outside ot lww2 (by omega))
        replace O0_0 := Lib.hid (O0_0.out.outside ot so0_0 (by omega))
        replace O0_1 := Lib.hid (O0_1.out.outside ot so0_1 (by omega))
        replace O1_0 := Lib.hid (O1_0.out.outside ot so1_0 (by omega))
        replace O1_1 := Lib.hid (O1_1.out.outside ot so1_1 (by omega))
        replace O1_2 := Lib.hid (O1_2.out.outside ot so1_2 (by omega))
        replace Ri0 := Lib.hid M.o0
        replace Ri1 := Lib.hid M.o1
        replace Ri2 := Lib.hid M.o2
        replace HB := Lib.hid (HB.out.trans (M.below.mono (by omega)))
        clear ot M
        obtain ⟨Bic, Bif⟩ := Bi.open
        go_wp2_with fail
        refine (heldField_any  _ _ _ _ _ _ yi0.length yi1.length yi2.length 1 _ Ri0.out.row Ri1.out.row Ri2.out.row (by omega) (by omega)).mono ?_
        rintro e V23 ⟨rfl, q⟩
        clear Bic Bif
        replace A0 := A0.later q
        replace A1 := A1.later q
        replace Bw := Bw.later q
        replace X0 := X0.later q
        replace X1 := X1.later q
        replace Bi := Bi.later q
        replace Rw0 := Lib.hid (Rw0.out.later q)
        replace Rw1 := Lib.hid (Rw1.out.later q)
        replace Rw2 := Lib.hid (Rw2.out.later q)
        replace O0_0 := Lib.hid (O0_0.out.later q)
        replace O0_1 := Lib.hid (O0_1.out.later q)
        replace O1_0 := Lib.hid (O1_0.out.later q)
        replace O1_1 := Lib.hid (O1_1.out.later q)
        replace O1_2 := Lib.hid (O1_2.out.later q)
        replace Ri0 := Lib.hid (Ri0.out.later q)
        replace Ri1 := Lib.hid (Ri1.out.later q)
        replace Ri2 := Lib.hid (Ri2.out.later q)
        replace HB := Lib.hid (HB.out.trans (q.mono HB.out.size))
        have sz23 : V22.heap.size ≤ V23.heap.size := q.size
        clear q
        have dm : ¬ (1 + (yi0.length : Int) + (yi1.length : Int) + (yi2.length : Int) < 0) := by omega
        obtain ⟨A0c, A0f⟩ := A0.open
        obtain ⟨A1c, A1f⟩ := A1.open
        go_upto_region 31 with (fail)
        clear A0c A0f
        clear A1c A1f
        go_cut [17, 18] (fun sa sb wx => RelField V23  (ifO (runB wd0 hi0 wr0 x0_0 x0_1 x1_0 x1_1 x1_2 a2) (oL wd0 hi0 (runL wd0 hi0 wr0 x0_0 x0_1 x1_0 x1_1 x1_2 a2).e)) (ifO (runB wd0 hi0 wr0 x0_0 x0_1 x1_0 x1_1 x1_2 a2) (oL wd0 hi0 (runL wd0 hi0 wr0 x0_0 x0_1 x1_0 x1_1 x1_2 a2).x)) (ifO (runB wd0 hi0 wr0 x0_0 x0_1 x1_0 x1_1 x1_2 a2) (oL wd0 hi0 (runL wd0 hi0 wr0 x0_0 x0_1 x1_0 x1_1 x1_2 a2).y)) (runB wd0 hi0 wr0 x0_0 x0_1 x1_0 x1_1 x1_2 a2) sa sb wx)
        case first =>
          go_region_held3 (fun w' => (∀ i, w'.cell? ⟨w.heap.size, i, none⟩ = (#[.int .i64 wd0, .int .i64 hi0, .bool wr0, .slice a0_0 x0_0.length c0_0, .slice a0_1 x0_1.length c0_1] : Array Value)[i]?) ∧ (∀ i, w'.cell? ⟨w.heap.size + 1, i, none⟩ = (#[.slice a1_0 x1_0.length c1_0, .slice a1_1 x1_1.length c1_1, .slice a1_2 x1_2.length c1_2] : Array Value)[i]?) ∧ Below V23.heap.size V23 w') (first
              | with_reducible exact keep2_start A0 A1
              | with_reducible exact keep2_later A0 A1 (by assumption) (by assumption)
              | with_reducible exact keep2_later A0 A1 (by assumption) (below_new _ _)
              | exact keep2_now A0 A1 (below_next (below_new _ _) (below_drew _))
              | exact keep2_now A0 A1 (below_next (below_next (below_next (below_next (below_drew V23) qa0) qa1) qa2) (below_new _ _))
              | exact keep2_now A0 A1 ((((below_next (below_next (below_next (below_next (below_new V23 (.cells #[.slice none 0 0, .slice none 0 0, .slice none 0 0] 29)) (below_drew _)) qa0) qa1) qa2).setCell (p := ⟨_, 0, none⟩) (Nat.le_refl _) _).setCell (p := ⟨_, 1, none⟩) (Nat.le_refl _) _).setCell (p := ⟨_, 2, none⟩) (Nat.le_refl _) _)
              | exact keep2_now A0 A1 ((((below_next (below_next (below_next (below_next (below_drew V23) qa0) (below_new _ _)) qa1) qa2).setCell (p := ⟨_, 0, none⟩) (below_next (below_drew V23) qa0).size _).setCell (p := ⟨_, 1, none⟩) (below_next (below_drew V23) qa0).size _).setCell (p := ⟨_, 2, none⟩) (below_next (below_drew V23) qa0).size _)
              | exact keep2_now A0 A1 ((((below_next (below_next (below_next (below_next (below_drew V23) qa0) qa1) (below_new _ _)) qa2).setCell (p := ⟨_, 0, none⟩) (below_next (below_next (below_drew V23) qa0) qa1).size _).setCell (p := ⟨_, 1, none⟩) (below_next (below_next (below_drew V23) qa0) qa1).size _).setCell (p := ⟨_, 2, none⟩) (below_next (below_next (below_drew V23) qa0) qa1).size _))
            (first
              | (go_at_call 13; (with_reducible refine (toSheet_any _ _ _ _ _ _ _ _ _ _ (row_held2 r0_0 HB.out (by assumption)) (row_held2 r0_1 HB.out (by assumption)) n0_0 n0_1).mono ?_); rintro e V24 ⟨gh0_0, gh0_1, rfl, Ch0⟩; have qa0 := Ch0.below)
              | (go_at_call 14; (with_reducible refine (toField_any _ _ _ _ _ _ _ _ _ _ (row_held2 r1_0 HB.out (by assumption)) (row_held2 r1_1 HB.out (by assumption)) (row_held2 r1_2 HB.out (by assumption)) n1_0 n1_1 n1_2).mono ?_); rintro e V25 ⟨gh1_0, gh1_1, gh1_2, rfl, Ch1⟩; have qa1 := Ch1.below)
              | (go_at_call 24; (with_reducible refine (implRunFieldL _ _ _ _ _ _ _ _ _ _ _ _ _ _ _ _ _ _ _ _ (by first | exact (Ch0.o0.row.later qa1) | exact ((Ch0.o0.row.later (below_new _ _)).later qa1) | exact ((Ch0.o0.row.later qa1).later (below_new _ _))) (by first | exact (Ch0.o1.row.later qa1) | exact ((Ch0.o1.row.later (below_new _ _)).later qa1) | exact ((Ch0.o1.row.later qa1).later (below_new _ _))) b0_0 b0_1 m0_0 m0_1 (by first | exact Ch1.o0.row | exact (Ch1.o0.row.later (below_new _ _))) (by first | exact Ch1.o1.row | exact (Ch1.o1.row.later (below_new _ _))) (by first | exact Ch1.o2.row | exact (Ch1.o2.row.later (below_new _ _))) b1_0 b1_1 b1_2 m1_0 m1_1 m1_2 w2).mono ?_); rintro e V26 ⟨ah0, ah1, ah2, ch0, ch1, ch2, yh0, yh1, yh2, rfl, Gh⟩; have bh := Gh.below; have qa2 := bh; (first | (have bx0 := (((Blk.later (w := (V23.alloc (.cells #[.slice none 0 0, .slice none 0 0, .slice none 0 0] 29)).drew) (Blk.new V23 #[.slice none 0 0, .slice none 0 0, .slice none 0 0] 29) qa0).later qa1).later qa2); obtain ⟨bxc, bxf⟩ := bx0.open; clear bx0) | (have bx0 := ((Blk.later (w := (V24.alloc (.cells #[.slice none 0 0, .slice none 0 0, .slice none 0 0] 29))) (Blk.new V24 #[.slice none 0 0, .slice none 0 0, .slice none 0 0] 29) qa1).later qa2); obtain ⟨bxc, bxf⟩ := bx0.open; clear bx0) | (have bx0 := (Blk.later (w := (V25.alloc (.cells #[.slice none 0 0, .slice none 0 0, .slice none 0 0] 29))) (Blk.new V25 #[.slice none 0 0, .slice none 0 0, .slice none 0 0] 29) qa2); obtain ⟨bxc, bxf⟩ := bx0.open; clear bx0) | skip)))
          all_goals go_wp2
          all_goals go_meet
          all_goals (case rel => (first
              | (refine ⟨_, ah0, ah1, ah2, ch0, ch1, ch2, yh0, yh1, yh2, rfl, rfl, MetField.last (below_next (below_next (below_next (below_drew V23) qa0) qa1) qa2) Gh.o0 Gh.o1 Gh.o2 Gh.s0 Gh.s1 Gh.s2⟩; done)
              | (refine ⟨V23.heap.size, ah0, ah1, ah2, ch0, ch1, ch2, yh0, yh1, yh2, rfl, rfl, MetField.early (below_next (below_next (below_next (below_next (below_new V23 (.cells #[.slice none 0 0, .slice none 0 0, .slice none 0 0] 29)) (below_drew _)) qa0) qa1) qa2) (Nat.le_refl _) (Nat.lt_of_lt_of_le (lt_newd qa0) qa1.size) (((Blk.later (w := (V23.alloc (.cells #[.slice none 0 0, .slice none 0 0, .slice none 0 0] 29)).drew) (Blk.new V23 #[.slice none 0 0, .slice none 0 0, .slice none 0 0] 29) qa0).later qa1).later qa2) Gh.o0 Gh.o1 Gh.o2 Gh.s0 Gh.s1 Gh.s2⟩; done)
              | (refine ⟨V24.heap.size, ah0, ah1, ah2, ch0, ch1, ch2, yh0, yh1, yh2, rfl, rfl, MetField.early (below_next (below_next (below_next (below_next (below_drew V23) qa0) (below_new _ _)) qa1) qa2) ((below_next (below_drew V23) qa0).size) (lt_new qa1) ((Blk.later (w := (V24.alloc (.cells #[.slice none 0 0, .slice none 0 0, .slice none 0 0] 29))) (Blk.new V24 #[.slice none 0 0, .slice none 0 0, .slice none 0 0] 29) qa1).later qa2) Gh.o0 Gh.o1 Gh.o2 Gh.s0 Gh.s1 Gh.s2⟩; done)
              | (refine ⟨V25.heap.size, ah0, ah1, ah2, ch0, ch1, ch2, yh0, yh1, yh2, rfl, rfl, MetField.early (below_next (below_next (below_next (below_next (below_drew V23) qa0) qa1) (below_new _ _)) qa2) ((below_next (below_next (below_drew V23) qa0) qa1).size) (lt_here _ _) (Blk.later (w := (V25.alloc (.cells #[.slice none 0 0, .slice none 0 0, .slice none 0 0] 29))) (Blk.new V25 #[.slice none 0 0, .slice none 0 0, .slice none 0 0] 29) qa2) Gh.o0 Gh.o1 Gh.o2 Gh.s0 Gh.s1 Gh.s2⟩; done)
              | fail "no way fits"))
        case rest =>
          obtain ⟨bwh, ah0, ah1, ah2, ch0, ch1, ch2, yh0, yh1, yh2, rfl, rfl, Gh⟩ := hcut
          skip
          generalize wc = V27 at *
          have q := Gh.below
          replace A0 := A0.later q
          replace A1 := A1.later q
          replace Bw := Bw.later q
          replace X0 := X0.later q
          replace X1 := X1.later q
          replace Bi := Bi.later q
          replace Rw0 := Lib.hid (Rw0.out.later q)
          replace Rw1 := Lib.hid (Rw1.out.later q)
          replace Rw2 := Lib.hid (Rw2.out.later q)
          replace O0_0 := Lib.hid (O0_0.out.later q)
          replace O0_1 := Lib.hid (O0_1.out.later q)
          replace O1_0 := Lib.hid (O1_0.out.later q)
          replace O1_1 := Lib.hid (O1_1.out.later q)
          replace O1_2 := Lib.hid (O1_2.out.later q)
          replace Ri0 := Lib.hid (Ri0.out.later q)
          replace Ri1 := Lib.hid (Ri1.out.later q)
          replace Ri2 := Lib.hid (Ri2.out.later q)
          replace HB := Lib.hid (HB.out.trans (q.mono HB.out.size))
          have sz27 : V23.heap.size ≤ V27.heap.size := q.size
          clear q
          have Rh0 := Lib.hid Gh.r0
          have lwh0 := Gh.r0.low
          have Rh1 := Lib.hid Gh.r1
          have lwh1 := Gh.r1.low
          have Rh2 := Lib.hid Gh.r2
          have lwh2 := Gh.r2.low
          have Bh := Gh.box
          have sblh := Gh.le; have sbhh := Bh.lt
          have Sh0 := Lib.hid Gh.s0
          have Sh1 := Lib.hid Gh.s1
          have Sh2 := Lib.hid Gh.s2
          obtain ⟨Bhc, Bhf⟩ := Bh.open
          obtain ⟨Bwc, Bwf⟩ := Bw.open
          go_wp2_with fail
          refine (eqField_any _ _ _ _ _ _ _ _ _ _ _ _ _ _ _ _ _ _ _ Rh0.out Rh1.out Rh2.out Rw0.out Rw1.out Rw2.out (Sh0.out.same Sw0.out) (Sh1.out.same Sw1.out) (Sh2.out.same Sw2.out) (few_max Sh0.out) (few_max Sh1.out) (few_max Sh2.out)).mono ?_
          rintro e V28 ⟨rfl, q⟩
          clear Bhc Bhf
          clear Bwc Bwf
          replace A0 := A0.later q
          replace A1 := A1.later q
          replace Bw := Bw.later q
          replace X0 := X0.later q
          replace X1 := X1.later q
          replace Bi := Bi.later q
          replace Bh := Bh.later q
          replace Rw0 := Lib.hid (Rw0.out.later q)
          replace Rw1 := Lib.hid (Rw1.out.later q)
          replace Rw2 := Lib.hid (Rw2.out.later q)
          replace O0_0 := Lib.hid (O0_0.out.later q)
          replace O0_1 := Lib.hid (O0_1.out.later q)
          replace O1_0 := Lib.hid (O1_0.out.later q)
          replace O1_1 := Lib.hid (O1_1.out.later q)
          replace O1_2 := Lib.hid (O1_2.out.later q)
          replace Ri0 := Lib.hid (Ri0.out.later q)
          replace Ri1 := Lib.hid (Ri1.out.later q)
          replace Ri2 := Lib.hid (Ri2.out.later q)
          replace Rh0 := Lib.hid (Rh0.out.later q)
          replace Rh1 := Lib.hid (Rh1.out.later q)
          replace Rh2 := Lib.hid (Rh2.out.later q)
          replace HB := Lib.hid (HB.out.trans (q.mono HB.out.size))
          have sz28 : V27.heap.size ≤ V28.heap.size := q.size
          clear q
          obtain ⟨Bic, Bif⟩ := Bi.open
          go_wp2_with fail
          refine (heldField_any  _ _ _ _ _ _ yi0.length yi1.length yi2.length 1 _ Ri0.out.row Ri1.out.row Ri2.out.row (by omega) (by omega)).mono ?_
          rintro e V29 ⟨rfl, q⟩
          clear Bic Bif
          replace A0 := A0.later q
          replace A1 := A1.later q
          replace Bw := Bw.later q
          replace X0 := X0.later q
          replace X1 := X1.later q
          replace Bi := Bi.later q
          replace Bh := Bh.later q
          replace Rw0 := Lib.hid (Rw0.out.later q)
          replace Rw1 := Lib.hid (Rw1.out.later q)
          replace Rw2 := Lib.hid (Rw2.out.later q)
          replace O0_0 := Lib.hid (O0_0.out.later q)
          replace O0_1 := Lib.hid (O0_1.out.later q)
          replace O1_0 := Lib.hid (O1_0.out.later q)
          replace O1_1 := Lib.hid (O1_1.out.later q)
          replace O1_2 := Lib.hid (O1_2.out.later q)
          replace Ri0 := Lib.hid (Ri0.out.later q)
          replace Ri1 := Lib.hid (Ri1.out.later q)
          replace Ri2 := Lib.hid (Ri2.out.later q)
          replace Rh0 := Lib.hid (Rh0.out.later q)
          replace Rh1 := Lib.hid (Rh1.out.later q)
          replace Rh2 := Lib.hid (Rh2.out.later q)
          replace HB := Lib.hid (HB.out.trans (q.mono HB.out.size))
          have sz29 : V28.heap.size ≤ V29.heap.size := q.size
          clear q
          go_wp2
          go_ret
          exact ⟨rfl, HB.out⟩
    · skip
      go_enter Try.func5, Try.ntmps5
      go_wp2_with fail
      generalize ((w.alloc (.cells #[.int .i64 wd0, .int .i64 hi0, .bool wr0, .slice a0_0 x0_0.length c0_0, .slice a0_1 x0_1.length c0_1] 24)).alloc (.cells #[.slice a1_0 x1_0.length c1_0, .slice a1_1 x1_1.length c1_1, .slice a1_2 x1_2.length c1_2] 26)) = V1 at *
      obtain ⟨A0c, A0f⟩ := A0.open
      refine (szSheet_yes _ _ _ _ _ _ _ _ _ _ _ hs0 (by omega)).mono ?_
      rintro e V2 ⟨rfl, q⟩
      clear A0c A0f
      replace A0 := A0.later q
      replace A1 := A1.later q
      replace HB := Lib.hid (HB.out.trans (q.mono HB.out.size))
      have sz2 : V1.heap.size ≤ V2.heap.size := q.size
      clear q
      obtain ⟨A1c, A1f⟩ := A1.open
      go_wp2_with fail
      refine (szField_no _ _ _ _ _ _ _ _ _ _ _ (by omega) (by omega) (by omega) m1_0 m1_1 m1_2).mono ?_
      rintro e V3 ⟨rfl, q⟩
      clear A1c A1f
      replace A0 := A0.later q
      replace A1 := A1.later q
      replace HB := Lib.hid (HB.out.trans (q.mono HB.out.size))
      have sz3 : V2.heap.size ≤ V3.heap.size := q.size
      clear q
      go_wp2
      go_ret
      exact ⟨rfl, HB.out⟩
  · skip
    go_enter Try.func5, Try.ntmps5
    go_wp2_with fail
    generalize ((w.alloc (.cells #[.int .i64 wd0, .int .i64 hi0, .bool wr0, .slice a0_0 x0_0.length c0_0, .slice a0_1 x0_1.length c0_1] 24)).alloc (.cells #[.slice a1_0 x1_0.length c1_0, .slice a1_1 x1_1.length c1_1, .slice a1_2 x1_2.length c1_2] 26)) = V1 at *
    obtain ⟨A0c, A0f⟩ := A0.open
    refine (szSheet_no _ _ _ _ _ _ _ _ _ _ _ (by omega) (by omega) (by omega) m0_0 m0_1).mono ?_
    rintro e V2 ⟨rfl, q⟩
    clear A0c A0f
    replace A0 := A0.later q
    replace A1 := A1.later q
    replace HB := Lib.hid (HB.out.trans (q.mono HB.out.size))
    have sz2 : V1.heap.size ≤ V2.heap.size := q.size
    clear q
    go_wp2
    go_ret
    exact ⟨rfl, HB.out⟩
end Go.Proofs.Ytedfbaeajofmnab
