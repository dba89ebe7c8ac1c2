/- The walk of the law on StepStrip. Conditions: none beyond those of each theorem. -/
import Derived.Test.YtedfbaeajofmnaaBu6
import Derived.Test.YtedfbaeajofmnaaStepStrip
import Derived.Test.YtedfbaeajofmnaaKit4
import Derived.Test.YtedfbaeajofmnaaTree
import Derived.Test.YtedfbaeajofmnaaBu17
namespace Go.Proofs.Ytedfbaeajofmnaa
open Go Ieee Go.RowKit
set_option linter.unusedVariables false
set_option linter.unusedSimpArgs false

set_option maxHeartbeats 16000000 in
set_option maxRecDepth 100000 in
theorem fnExactStepStrip_walk (wd0 : Int) (hi0 : Int) (wr0 : Bool) (a0_0 a0_1 : Option Addr) (c0_0 c0_1 : Nat) (x0_0 x0_1 : List Nat) (a1_0 a1_1 a1_2 : Option Addr) (c1_0 c1_1 c1_2 : Nat) (x1_0 x1_1 x1_2 : List Nat) (fr2 : Int) (ct2 : Int) (w : World) (r0_0 : RowV w a0_0 (fvals x0_0)) (r0_1 : RowV w a0_1 (fvals x0_1)) (b0_0 : ∀ x ∈ x0_0, x < 2 ^ 32) (b0_1 : ∀ x ∈ x0_1, x < 2 ^ 32) (m0_0 : x0_0.length ≤ maxLen) (m0_1 : x0_1.length ≤ maxLen) (r1_0 : RowV w a1_0 (fvals x1_0)) (r1_1 : RowV w a1_1 (fvals x1_1)) (r1_2 : RowV w a1_2 (fvals x1_2)) (b1_0 : ∀ x ∈ x1_0, x < 2 ^ 32) (b1_1 : ∀ x ∈ x1_1, x < 2 ^ 32) (b1_2 : ∀ x ∈ x1_2, x < 2 ^ 32) (m1_0 : x1_0.length ≤ maxLen) (m1_1 : x1_1.length ≤ maxLen) (m1_2 : x1_2.length ≤ maxLen) :
    Calls Try.prog 10 #[.agg #[.int .i64 wd0, .int .i64 hi0, .bool wr0, .slice a0_0 x0_0.length c0_0, .slice a0_1 x0_1.length c0_1], .agg #[.slice a1_0 x1_0.length c1_0, .slice a1_1 x1_1.length c1_1, .slice a1_2 x1_2.length c1_2], .agg #[.int .i64 fr2, .int .i64 ct2]] w fun e w' => e = .returned (.bool true) ∧ Below w.heap.size w w' := by
  have A0 := Blk.new w #[.int .i64 wd0, .int .i64 hi0, .bool wr0, .slice a0_0 x0_0.length c0_0, .slice a0_1 x0_1.length c0_1] 24
  have A1 := Blk.new1 w (.cells #[.int .i64 wd0, .int .i64 hi0, .bool wr0, .slice a0_0 x0_0.length c0_0, .slice a0_1 x0_1.length c0_1] 24) #[.slice a1_0 x1_0.length c1_0, .slice a1_1 x1_1.length c1_1, .slice a1_2 x1_2.length c1_2] 36
  replace A0 := A0.alloc (.cells #[.slice a1_0 x1_0.length c1_0, .slice a1_1 x1_1.length c1_1, .slice a1_2 x1_2.length c1_2] 36)
  have A2 := Blk.new2 w (.cells #[.int .i64 wd0, .int .i64 hi0, .bool wr0, .slice a0_0 x0_0.length c0_0, .slice a0_1 x0_1.length c0_1] 24) (.cells #[.slice a1_0 x1_0.length c1_0, .slice a1_1 x1_1.length c1_1, .slice a1_2 x1_2.length c1_2] 36) #[.int .i64 fr2, .int .i64 ct2] 26
  replace A0 := A0.alloc (.cells #[.int .i64 fr2, .int .i64 ct2] 26)
  replace A1 := A1.alloc (.cells #[.int .i64 fr2, .int .i64 ct2] 26)
  have HB : Hid (Below w.heap.size w (((w.alloc (.cells #[.int .i64 wd0, .int .i64 hi0, .bool wr0, .slice a0_0 x0_0.length c0_0, .slice a0_1 x0_1.length c0_1] 24)).alloc (.cells #[.slice a1_0 x1_0.length c1_0, .slice a1_1 x1_1.length c1_1, .slice a1_2 x1_2.length c1_2] 36)).alloc (.cells #[.int .i64 fr2, .int .i64 ct2] 26))) := Lib.hid ((((Below.refl w.heap.size w).alloc (by simp <;> omega) _).alloc (by simp <;> omega) _).alloc (by simp <;> omega) _)
  by_cases hs0 : (x0_0.length : Int) + (x0_1.length : Int) ≤ 1048576
  · skip
    by_cases hs1 : (x1_0.length : Int) + (x1_1.length : Int) + (x1_2.length : Int) ≤ 1048576 - ((x0_0.length : Int) + (x0_1.length : Int))
    · skip
      have n0_0 : x0_0.length ≤ 1048576 := by omega
      have n0_1 : x0_1.length ≤ 1048576 := by omega
      have n1_0 : x1_0.length ≤ 1048576 := by omega
      have n1_1 : x1_1.length ≤ 1048576 := by omega
      have n1_2 : x1_2.length ≤ 1048576 := by omega
      go_enter Try.func10, Try.ntmps10
      go_wp2_with fail
      generalize (((w.alloc (.cells #[.int .i64 wd0, .int .i64 hi0, .bool wr0, .slice a0_0 x0_0.length c0_0, .slice a0_1 x0_1.length c0_1] 24)).alloc (.cells #[.slice a1_0 x1_0.length c1_0, .slice a1_1 x1_1.length c1_1, .slice a1_2 x1_2.length c1_2] 36)).alloc (.cells #[.int .i64 fr2, .int .i64 ct2] 26)) = V1 at *
      obtain ⟨A0c, A0f⟩ := A0.open
      refine (szSheet_yes _ _ _ _ _ _ _ _ _ _ _ hs0 (by omega)).mono ?_
      rintro e V2 ⟨rfl, q⟩
      clear A0c A0f
      replace A0 := A0.later q
      replace A1 := A1.later q
      replace A2 := A2.later q
      replace HB := Lib.hid (HB.out.trans (q.mono HB.out.size))
      clear q
      obtain ⟨A1c, A1f⟩ := A1.open
      go_wp2_with fail
      refine (szField_yes _ _ _ _ _ _ _ _ _ _ _ hs1 (by omega)).mono ?_
      rintro e V3 ⟨rfl, q⟩
      clear A1c A1f
      replace A0 := A0.later q
      replace A1 := A1.later q
      replace A2 := A2.later q
      replace HB := Lib.hid (HB.out.trans (q.mono HB.out.size))
      clear q
      have za0 := A0.lt
      have za1 := A1.lt
      have za2 := A2.lt
      have zh := HB.out.size
      obtain ⟨A0c, A0f⟩ := A0.open
      obtain ⟨A1c, A1f⟩ := A1.open
      obtain ⟨A2c, A2f⟩ := A2.open
      go_upto_region 8 with (fail)
      clear A0c A0f
      clear A1c A1f
      clear A2c A2f
      clear hs0
      clear hs1
      go_cut [8, 9] (fun sa sb wx => RelField V3  (ifO (cutB wd0 hi0 wr0 x0_0 x0_1 x1_0 x1_1 x1_2 fr2 ct2) (pL wd0 fr2 ct2 (runL wd0 hi0 wr0 x0_0 x0_1 x1_0 x1_1 x1_2 1).e)) (ifO (cutB wd0 hi0 wr0 x0_0 x0_1 x1_0 x1_1 x1_2 fr2 ct2) (pL wd0 fr2 ct2 (runL wd0 hi0 wr0 x0_0 x0_1 x1_0 x1_1 x1_2 1).x)) (ifO (cutB wd0 hi0 wr0 x0_0 x0_1 x1_0 x1_1 x1_2 fr2 ct2) (pL wd0 fr2 ct2 (runL wd0 hi0 wr0 x0_0 x0_1 x1_0 x1_1 x1_2 1).y)) (cutB wd0 hi0 wr0 x0_0 x0_1 x1_0 x1_1 x1_2 fr2 ct2) sa sb wx)
      case first =>
        refine wp_region_noPanic ?_
        refine wp_region_tree (Grows V3) 12 (.take 0 (.take 2 (.take 4 (.fork 1 (.fork 3 (.fork 5 (.fork 6 (.take 7 (.take 8 (.take 9 (.one 10 (.one 11 .done))))) 10 (.one 6 (.take 7 (.take 8 (.take 9 (.one 11 .done)))))) 10 (.one 5 (.one 6 (.take 7 (.take 8 (.take 9 (.one 11 .done))))))) 10 (.one 3 (.one 5 (.one 6 (.take 7 (.take 8 (.take 9 (.one 11 .done)))))))) 10 (.one 1 (.one 3 (.one 5 (.one 6 (.take 7 (.take 8 (.take 9 (.one 11 .done)))))))))))) (by kernel_rfl) (by kernel_rfl) (fun _ _ _ _ _ h => h) (Grows.drew _) ?_
        (refine tree_load rfl rfl (⟨w.heap.size, 0, none⟩) (by kernel_rfl) (.agg #[.int .i64 wd0, .int .i64 hi0, .bool wr0, .slice a0_0 x0_0.length c0_0, .slice a0_1 x0_1.length c0_1]) (fun w' hw' => run_loadVar_row w' _ _ _ _ _ _ (A0.later hw') Try.underlying24 rfl (by kernel_rfl)) ?_; simp only [Act.put, List.setIfInBounds_toArray, List.set_cons_zero, List.set_cons_succ])
        (refine tree_load rfl rfl (⟨w.heap.size + 1, 0, none⟩) (by kernel_rfl) (.agg #[.slice a1_0 x1_0.length c1_0, .slice a1_1 x1_1.length c1_1, .slice a1_2 x1_2.length c1_2]) (fun w' hw' => run_loadVar_row w' _ _ _ _ _ _ (A1.later hw') Try.underlying36 rfl (by kernel_rfl)) ?_; simp only [Act.put, List.setIfInBounds_toArray, List.set_cons_zero, List.set_cons_succ])
        (refine tree_load rfl rfl (⟨w.heap.size + 1 + 1, 0, none⟩) (by kernel_rfl) (.agg #[.int .i64 fr2, .int .i64 ct2]) (fun w' hw' => run_loadVar_row w' _ _ _ _ _ _ (A2.later hw') Try.underlying26 rfl (by kernel_rfl)) ?_; simp only [Act.put, List.setIfInBounds_toArray, List.set_cons_zero, List.set_cons_succ])
        have g_ : Below V3.heap.size V3 V3.drew := below_drew V3
        generalize V3.drew = V4 at *
        refine tree_fork ?_ ?_
        · skip
          refine tree_call rfl rfl 14 #[] #[] rfl _ Try.func14 (by kernel_rfl) (by kernel_rfl) [.agg #[.int .i64 wd0, .int .i64 hi0, .bool wr0, .slice a0_0 x0_0.length c0_0, .slice a0_1 x0_1.length c0_1]] (by kernel_rfl) #[.agg #[.int .i64 wd0, .int .i64 hi0, .bool wr0, .slice a0_0 x0_0.length c0_0, .slice a0_1 x0_1.length c0_1]] (by simp) _ (toSheet_any _ _ _ _ _ _ _ _ _ _ (r0_0.later (HB.out.trans (Below.mono g_ HB.out.size))) (r0_1.later (HB.out.trans (Below.mono g_ HB.out.size))) n0_0 n0_1) ?_
          rintro e V5 ⟨gw0_0, gw0_1, rfl, Cw0⟩
          have q0 := Cw0.below
          refine ⟨_, rfl, below_next g_ q0, ?_⟩
          simp only [Act.put, List.setIfInBounds_toArray, List.set_cons_zero, List.set_cons_succ]
          replace g_ := below_next g_ q0
          have lq0 := q0.size
          refine tree_fork ?_ ?_
          · skip
            refine tree_call rfl rfl 20 #[] #[] rfl _ Try.func20 (by kernel_rfl) (by kernel_rfl) [.agg #[.slice a1_0 x1_0.length c1_0, .slice a1_1 x1_1.length c1_1, .slice a1_2 x1_2.length c1_2]] (by kernel_rfl) #[.agg #[.slice a1_0 x1_0.length c1_0, .slice a1_1 x1_1.length c1_1, .slice a1_2 x1_2.length c1_2]] (by simp) _ (toField_any _ _ _ _ _ _ _ _ _ _ (r1_0.later (HB.out.trans (Below.mono g_ HB.out.size))) (r1_1.later (HB.out.trans (Below.mono g_ HB.out.size))) (r1_2.later (HB.out.trans (Below.mono g_ HB.out.size))) n1_0 n1_1 n1_2) ?_
            rintro e V6 ⟨gw1_0, gw1_1, gw1_2, rfl, Cw1⟩
            have q1 := Cw1.below
            refine ⟨_, rfl, below_next g_ q1, ?_⟩
            simp only [Act.put, List.setIfInBounds_toArray, List.set_cons_zero, List.set_cons_succ]
            replace g_ := below_next g_ q1
            have lq1 := q1.size
            refine tree_fork ?_ ?_
            · skip
              refine tree_call rfl rfl 15 #[] #[] rfl _ Try.func15 (by kernel_rfl) (by kernel_rfl) [.agg #[.int .i64 fr2, .int .i64 ct2]] (by kernel_rfl) #[.agg #[.int .i64 fr2, .int .i64 ct2]] (by simp) _ (toStrip_any _ _ _  ) ?_
              rintro e V7 ⟨rfl, Cw2⟩
              have q2 := Cw2
              refine ⟨_, rfl, below_next g_ q2, ?_⟩
              simp only [Act.put, List.setIfInBounds_toArray, List.set_cons_zero, List.set_cons_succ]
              replace g_ := below_next g_ q2
              have lq2 := q2.size
              refine tree_fork ?_ ?_
              · skip
                have lg0 := Below.size g_
                refine tree_call rfl rfl 48 #[] #[] rfl _ Try.func48 (by kernel_rfl) (by kernel_rfl) [.agg #[.int .i64 wd0, .int .i64 hi0, .bool wr0, .slice (some ⟨gw0_0, 0, none⟩) x0_0.length x0_0.length, .slice (some ⟨gw0_1, 0, none⟩) x0_1.length x0_1.length], .agg #[.slice (some ⟨gw1_0, 0, none⟩) x1_0.length x1_0.length, .slice (some ⟨gw1_1, 0, none⟩) x1_1.length x1_1.length, .slice (some ⟨gw1_2, 0, none⟩) x1_2.length x1_2.length], .agg #[.int .i64 fr2, .int .i64 ct2]] (by kernel_rfl) #[.agg #[.int .i64 wd0, .int .i64 hi0, .bool wr0, .slice (some ⟨gw0_0, 0, none⟩) x0_0.length x0_0.length, .slice (some ⟨gw0_1, 0, none⟩) x0_1.length x0_1.length], .agg #[.slice (some ⟨gw1_0, 0, none⟩) x1_0.length x1_0.length, .slice (some ⟨gw1_1, 0, none⟩) x1_1.length x1_1.length, .slice (some ⟨gw1_2, 0, none⟩) x1_2.length x1_2.length], .agg #[.int .i64 fr2, .int .i64 ct2]] (by simp) _ (specStepStripL _ _ _ _ _ _ _ _ _ _ _ _ _ _ _ _ _ _ _ _ _ ((Cw0.o0.row.later q1).later q2) ((Cw0.o1.row.later q1).later q2) b0_0 b0_1 m0_0 m0_1 (Cw1.o0.row.later q2) (Cw1.o1.row.later q2) (Cw1.o2.row.later q2) b1_0 b1_1 b1_2 m1_0 m1_1 m1_2) ?_
                rintro e V8 ⟨aw0, aw1, aw2, cw0, cw1, cw2, yw0, yw1, yw2, rfl, Gw⟩
                have q3 := Gw.below
                refine ⟨_, rfl, below_next g_ q3, ?_⟩
                simp only [Act.put, List.setIfInBounds_toArray, List.set_cons_zero, List.set_cons_succ]
                replace g_ := below_next g_ q3
                have lq3 := q3.size
                (refine tree_plain rfl rfl ?_ ?_ ?_; rotate_left; focus (intro w9; go_simp <;> with_reducible rfl)); (simp only [Act.put, List.setIfInBounds_toArray, List.set_cons_zero, List.set_cons_succ])
                (refine tree_plain rfl rfl ?_ ?_ ?_; rotate_left; focus (intro w9; go_simp <;> with_reducible rfl)); (simp only [Act.put, List.setIfInBounds_toArray, List.set_cons_zero, List.set_cons_succ])
                (refine tree_plain rfl rfl ?_ ?_ ?_; rotate_left; focus (intro w9; go_simp <;> with_reducible rfl)); (simp only [Act.put, List.setIfInBounds_toArray, List.set_cons_zero, List.set_cons_succ])
                refine tree_make rfl rfl (.pointer (some ⟨V8.heap.size, 0, none⟩)) (V8.alloc (.cells #[.slice none 0 0, .slice none 0 0, .slice none 0 0] 38)) (by go_simp <;> with_reducible rfl) (below_next g_ (below_new _ _)) ?_
                simp only [Act.put, List.setIfInBounds_toArray, List.set_cons_zero, List.set_cons_succ]
                have lg := Below.size g_
                refine ⟨_, rfl, ?_⟩
                go_wp2_with fail
                refine And.intro ?_ ?_
                · exact below_next g_ (below_new _ _)
                change wpList _ _ _ _ _ _
                (try simp only [List.drop_succ_cons, List.drop_zero])
                go_wp2_with fail
                refine NoPanic.normal ?_
                go_wp2
                go_meet
                case rel =>
                  refine ⟨_, aw0, aw1, aw2, cw0, cw1, cw2, yw0, yw1, yw2, rfl, rfl, ?_⟩
                  exact MetField.last g_ Gw.o0 Gw.o1 Gw.o2 Gw.s0 Gw.s1 Gw.s2
              · skip
                refine tree_make rfl rfl (.pointer (some ⟨V7.heap.size, 0, none⟩)) (V7.alloc (.cells #[.slice none 0 0, .slice none 0 0, .slice none 0 0] 38)) (by go_simp <;> with_reducible rfl) (below_next g_ (below_new _ _)) ?_
                simp only [Act.put, List.setIfInBounds_toArray, List.set_cons_zero, List.set_cons_succ]
                have ln : V7.heap.size < (V7.alloc (.cells #[.slice none 0 0, .slice none 0 0, .slice none 0 0] 38)).heap.size := lt_here _ _
                have bx := Blk.new V7 #[.slice none 0 0, .slice none 0 0, .slice none 0 0] 38
                have qn := below_new V7 (.cells #[.slice none 0 0, .slice none 0 0, .slice none 0 0] 38)
                have lg := Below.size g_
                replace g_ := below_next g_ qn
                generalize V7.alloc (.cells #[.slice none 0 0, .slice none 0 0, .slice none 0 0] 38) = V9 at *
                have lg0 := Below.size g_
                refine tree_call rfl rfl 48 #[] #[] rfl _ Try.func48 (by kernel_rfl) (by kernel_rfl) [.agg #[.int .i64 wd0, .int .i64 hi0, .bool wr0, .slice (some ⟨gw0_0, 0, none⟩) x0_0.length x0_0.length, .slice (some ⟨gw0_1, 0, none⟩) x0_1.length x0_1.length], .agg #[.slice (some ⟨gw1_0, 0, none⟩) x1_0.length x1_0.length, .slice (some ⟨gw1_1, 0, none⟩) x1_1.length x1_1.length, .slice (some ⟨gw1_2, 0, none⟩) x1_2.length x1_2.length], .agg #[.int .i64 fr2, .int .i64 ct2]] (by kernel_rfl) #[.agg #[.int .i64 wd0, .int .i64 hi0, .bool wr0, .slice (some ⟨gw0_0, 0, none⟩) x0_0.length x0_0.length, .slice (some ⟨gw0_1, 0, none⟩) x0_1.length x0_1.length], .agg #[.slice (some ⟨gw1_0, 0, none⟩) x1_0.length x1_0.length, .slice (some ⟨gw1_1, 0, none⟩) x1_1.length x1_1.length, .slice (some ⟨gw1_2, 0, none⟩) x1_2.length x1_2.length], .agg #[.int .i64 fr2, .int .i64 ct2]] (by simp) _ (specStepStripL _ _ _ _ _ _ _ _ _ _ _ _ _ _ _ _ _ _ _ _ _ (((Cw0.o0.row.later q1).later q2).later qn) (((Cw0.o1.row.later q1).later q2).later qn) b0_0 b0_1 m0_0 m0_1 ((Cw1.o0.row.later q2).later qn) ((Cw1.o1.row.later q2).later qn) ((Cw1.o2.row.later q2).later qn) b1_0 b1_1 b1_2 m1_0 m1_1 m1_2) ?_
                rintro e V10 ⟨aw0, aw1, aw2, cw0, cw1, cw2, yw0, yw1, yw2, rfl, Gw⟩
                have q3 := Gw.below
                refine ⟨_, rfl, below_next g_ q3, ?_⟩
                simp only [Act.put, List.setIfInBounds_toArray, List.set_cons_zero, List.set_cons_succ]
                replace g_ := below_next g_ q3
                have lq3 := q3.size
                replace bx := bx.later q3
                (refine tree_plain rfl rfl ?_ ?_ ?_; rotate_left; focus (intro w9; go_simp <;> with_reducible rfl)); (simp only [Act.put, List.setIfInBounds_toArray, List.set_cons_zero, List.set_cons_succ])
                (refine tree_plain rfl rfl ?_ ?_ ?_; rotate_left; focus (intro w9; go_simp <;> with_reducible rfl)); (simp only [Act.put, List.setIfInBounds_toArray, List.set_cons_zero, List.set_cons_succ])
                (refine tree_plain rfl rfl ?_ ?_ ?_; rotate_left; focus (intro w9; go_simp <;> with_reducible rfl)); (simp only [Act.put, List.setIfInBounds_toArray, List.set_cons_zero, List.set_cons_succ])
                obtain ⟨bxc, bxf⟩ := bx.open
                refine ⟨_, rfl, ?_⟩
                go_wp2_with fail
                refine And.intro ?_ ?_
                · exact (((g_.setCell (p := ⟨_, 0, none⟩) lg _).setCell (p := ⟨_, 1, none⟩) lg _).setCell (p := ⟨_, 2, none⟩) lg _)
                change wpList _ _ _ _ _ _
                (try simp only [List.drop_succ_cons, List.drop_zero])
                go_wp2_with fail
                refine NoPanic.normal ?_
                go_wp2
                go_meet
                case rel =>
                  refine ⟨V7.heap.size, aw0, aw1, aw2, cw0, cw1, cw2, yw0, yw1, yw2, rfl, rfl, ?_⟩
                  exact MetField.early g_ (by omega) (by omega) bx Gw.o0 Gw.o1 Gw.o2 Gw.s0 Gw.s1 Gw.s2
            · skip
              refine tree_make rfl rfl (.pointer (some ⟨V6.heap.size, 0, none⟩)) (V6.alloc (.cells #[.slice none 0 0, .slice none 0 0, .slice none 0 0] 38)) (by go_simp <;> with_reducible rfl) (below_next g_ (below_new _ _)) ?_
              simp only [Act.put, List.setIfInBounds_toArray, List.set_cons_zero, List.set_cons_succ]
              have ln : V6.heap.size < (V6.alloc (.cells #[.slice none 0 0, .slice none 0 0, .slice none 0 0] 38)).heap.size := lt_here _ _
              have bx := Blk.new V6 #[.slice none 0 0, .slice none 0 0, .slice none 0 0] 38
              have qn := below_new V6 (.cells #[.slice none 0 0, .slice none 0 0, .slice none 0 0] 38)
              have lg := Below.size g_
              replace g_ := below_next g_ qn
              generalize V6.alloc (.cells #[.slice none 0 0, .slice none 0 0, .slice none 0 0] 38) = V11 at *
              refine tree_call rfl rfl 15 #[] #[] rfl _ Try.func15 (by kernel_rfl) (by kernel_rfl) [.agg #[.int .i64 fr2, .int .i64 ct2]] (by kernel_rfl) #[.agg #[.int .i64 fr2, .int .i64 ct2]] (by simp) _ (toStrip_any _ _ _  ) ?_
              rintro e V12 ⟨rfl, Cw2⟩
              have q2 := Cw2
              refine ⟨_, rfl, below_next g_ q2, ?_⟩
              simp only [Act.put, List.setIfInBounds_toArray, List.set_cons_zero, List.set_cons_succ]
              replace g_ := below_next g_ q2
              have lq2 := q2.size
              replace bx := bx.later q2
              have lg0 := Below.size g_
              refine tree_call rfl rfl 48 #[] #[] rfl _ Try.func48 (by kernel_rfl) (by kernel_rfl) [.agg #[.int .i64 wd0, .int .i64 hi0, .bool wr0, .slice (some ⟨gw0_0, 0, none⟩) x0_0.length x0_0.length, .slice (some ⟨gw0_1, 0, none⟩) x0_1.length x0_1.length], .agg #[.slice (some ⟨gw1_0, 0, none⟩) x1_0.length x1_0.length, .slice (some ⟨gw1_1, 0, none⟩) x1_1.length x1_1.length, .slice (some ⟨gw1_2, 0, none⟩) x1_2.length x1_2.length], .agg #[.int .i64 fr2, .int .i64 ct2]] (by kernel_rfl) #[.agg #[.int .i64 wd0, .int .i64 hi0, .bool wr0, .slice (some ⟨gw0_0, 0, none⟩) x0_0.length x0_0.length, .slice (some ⟨gw0_1, 0, none⟩) x0_1.length x0_1.length], .agg #[.slice (some ⟨gw1_0, 0, none⟩) x1_0.length x1_0.length, .slice (some ⟨gw1_1, 0, none⟩) x1_1.length x1_1.length, .slice (some ⟨gw1_2, 0, none⟩) x1_2.length x1_2.length], .agg #[.int .i64 fr2, .int .i64 ct2]] (by simp) _ (specStepStripL _ _ _ _ _ _ _ _ _ _ _ _ _ _ _ _ _ _ _ _ _ (((Cw0.o0.row.later q1).later qn).later q2) (((Cw0.o1.row.later q1).later qn).later q2) b0_0 b0_1 m0_0 m0_1 ((Cw1.o0.row.later qn).later q2) ((Cw1.o1.row.later qn).later q2) ((Cw1.o2.row.later qn).later q2) b1_0 b1_1 b1_2 m1_0 m1_1 m1_2) ?_
              rintro e V13 ⟨aw0, aw1, aw2, cw0, cw1, cw2, yw0, yw1, yw2, rfl, Gw⟩
              have q3 := Gw.below
              refine ⟨_, rfl, below_next g_ q3, ?_⟩
              simp only [Act.put, List.setIfInBounds_toArray, List.set_cons_zero, List.set_cons_succ]
              replace g_ := below_next g_ q3
              have lq3 := q3.size
              replace bx := bx.later q3
              (refine tree_plain rfl rfl ?_ ?_ ?_; rotate_left; focus (intro w9; go_simp <;> with_reducible rfl)); (simp only [Act.put, List.setIfInBounds_toArray, List.set_cons_zero, List.set_cons_succ])
              (refine tree_plain rfl rfl ?_ ?_ ?_; rotate_left; focus (intro w9; go_simp <;> with_reducible rfl)); (simp only [Act.put, List.setIfInBounds_toArray, List.set_cons_zero, List.set_cons_succ])
              (refine tree_plain rfl rfl ?_ ?_ ?_; rotate_left; focus (intro w9; go_simp <;> with_reducible rfl)); (simp only [Act.put, List.setIfInBounds_toArray, List.set_cons_zero, List.set_cons_succ])
              obtain ⟨bxc, bxf⟩ := bx.open
              refine ⟨_, rfl, ?_⟩
              go_wp2_with fail
              refine And.intro ?_ ?_
              · exact (((g_.setCell (p := ⟨_, 0, none⟩) lg _).setCell (p := ⟨_, 1, none⟩) lg _).setCell (p := ⟨_, 2, none⟩) lg _)
              change wpList _ _ _ _ _ _
              (try simp only [List.drop_succ_cons, List.drop_zero])
              go_wp2_with fail
              refine NoPanic.normal ?_
              go_wp2
              go_meet
              case rel =>
                refine ⟨V6.heap.size, aw0, aw1, aw2, cw0, cw1, cw2, yw0, yw1, yw2, rfl, rfl, ?_⟩
                exact MetField.early g_ (by omega) (by omega) bx Gw.o0 Gw.o1 Gw.o2 Gw.s0 Gw.s1 Gw.s2
          · skip
            refine tree_make rfl rfl (.pointer (some ⟨V5.heap.size, 0, none⟩)) (V5.alloc (.cells #[.slice none 0 0, .slice none 0 0, .slice none 0 0] 38)) (by go_simp <;> with_reducible rfl) (below_next g_ (below_new _ _)) ?_
            simp only [Act.put, List.setIfInBounds_toArray, List.set_cons_zero, List.set_cons_succ]
            have ln : V5.heap.size < (V5.alloc (.cells #[.slice none 0 0, .slice none 0 0, .slice none 0 0] 38)).heap.size := lt_here _ _
            have bx := Blk.new V5 #[.slice none 0 0, .slice none 0 0, .slice none 0 0] 38
            have qn := below_new V5 (.cells #[.slice none 0 0, .slice none 0 0, .slice none 0 0] 38)
            have lg := Below.size g_
            replace g_ := below_next g_ qn
            generalize V5.alloc (.cells #[.slice none 0 0, .slice none 0 0, .slice none 0 0] 38) = V14 at *
            refine tree_call rfl rfl 20 #[] #[] rfl _ Try.func20 (by kernel_rfl) (by kernel_rfl) [.agg #[.slice a1_0 x1_0.length c1_0, .slice a1_1 x1_1.length c1_1, .slice a1_2 x1_2.length c1_2]] (by kernel_rfl) #[.agg #[.slice a1_0 x1_0.length c1_0, .slice a1_1 x1_1.length c1_1, .slice a1_2 x1_2.length c1_2]] (by simp) _ (toField_any _ _ _ _ _ _ _ _ _ _ (r1_0.later (HB.out.trans (Below.mono g_ HB.out.size))) (r1_1.later (HB.out.trans (Below.mono g_ HB.out.size))) (r1_2.later (HB.out.trans (Below.mono g_ HB.out.size))) n1_0 n1_1 n1_2) ?_
            rintro e V15 ⟨gw1_0, gw1_1, gw1_2, rfl, Cw1⟩
            have q1 := Cw1.below
            refine ⟨_, rfl, below_next g_ q1, ?_⟩
            simp only [Act.put, List.setIfInBounds_toArray, List.set_cons_zero, List.set_cons_succ]
            replace g_ := below_next g_ q1
            have lq1 := q1.size
            replace bx := bx.later q1
            refine tree_call rfl rfl 15 #[] #[] rfl _ Try.func15 (by kernel_rfl) (by kernel_rfl) [.agg #[.int .i64 fr2, .int .i64 ct2]] (by kernel_rfl) #[.agg #[.int .i64 fr2, .int .i64 ct2]] (by simp) _ (toStrip_any _ _ _  ) ?_
            rintro e V16 ⟨rfl, Cw2⟩
            have q2 := Cw2
            refine ⟨_, rfl, below_next g_ q2, ?_⟩
            simp only [Act.put, List.setIfInBounds_toArray, List.set_cons_zero, List.set_cons_succ]
            replace g_ := below_next g_ q2
            have lq2 := q2.size
            replace bx := bx.later q2
            have lg0 := Below.size g_
            refine tree_call rfl rfl 48 #[] #[] rfl _ Try.func48 (by kernel_rfl) (by kernel_rfl) [.agg #[.int .i64 wd0, .int .i64 hi0, .bool wr0, .slice (some ⟨gw0_0, 0, none⟩) x0_0.length x0_0.length, .slice (some ⟨gw0_1, 0, none⟩) x0_1.length x0_1.length], .agg #[.slice (some ⟨gw1_0, 0, none⟩) x1_0.length x1_0.length, .slice (some ⟨gw1_1, 0, none⟩) x1_1.length x1_1.length, .slice (some ⟨gw1_2, 0, none⟩) x1_2.length x1_2.length], .agg #[.int .i64 fr2, .int .i64 ct2]] (by kernel_rfl) #[.agg #[.int .i64 wd0, .int .i64 hi0, .bool wr0, .slice (some ⟨gw0_0, 0, none⟩) x0_0.length x0_0.length, .slice (some ⟨gw0_1, 0, none⟩) x0_1.length x0_1.length], .agg #[.slice (some ⟨gw1_0, 0, none⟩) x1_0.length x1_0.length, .slice (some ⟨gw1_1, 0, none⟩) x1_1.length x1_1.length, .slice (some ⟨gw1_2, 0, none⟩) x1_2.length x1_2.length], .agg #[.int .i64 fr2, .int .i64 ct2]] (by simp) _ (specStepStripL _ _ _ _ _ _ _ _ _ _ _ _ _ _ _ _ _ _ _ _ _ (((Cw0.o0.row.later qn).later q1).later q2) (((Cw0.o1.row.later qn).later q1).later q2) b0_0 b0_1 m0_0 m0_1 (Cw1.o0.row.later q2) (Cw1.o1.row.later q2) (Cw1.o2.row.later q2) b1_0 b1_1 b1_2 m1_0 m1_1 m1_2) ?_
            rintro e V17 ⟨aw0, aw1, aw2, cw0, cw1, cw2, yw0, yw1, yw2, rfl, Gw⟩
            have q3 := Gw.below
            refine ⟨_, rfl, below_next g_ q3, ?_⟩
            simp only [Act.put, List.setIfInBounds_toArray, List.set_cons_zero, List.set_cons_succ]
            replace g_ := below_next g_ q3
            have lq3 := q3.size
            replace bx := bx.later q3
            (refine tree_plain rfl rfl ?_ ?_ ?_; rotate_left; focus (intro w9; go_simp <;> with_reducible rfl)); (simp only [Act.put, List.setIfInBounds_toArray, List.set_cons_zero, List.set_cons_succ])
            (refine tree_plain rfl rfl ?_ ?_ ?_; rotate_left; focus (intro w9; go_simp <;> with_reducible rfl)); (simp only [Act.put, List.setIfInBounds_toArray, List.set_cons_zero, List.set_cons_succ])
            (refine tree_plain rfl rfl ?_ ?_ ?_; rotate_left; focus (intro w9; go_simp <;> with_reducible rfl)); (simp only [Act.put, List.setIfInBounds_toArray, List.set_cons_zero, List.set_cons_succ])
            obtain ⟨bxc, bxf⟩ := bx.open
            refine ⟨_, rfl, ?_⟩
            go_wp2_with fail
            refine And.intro ?_ ?_
            · exact (((g_.setCell (p := ⟨_, 0, none⟩) lg _).setCell (p := ⟨_, 1, none⟩) lg _).setCell (p := ⟨_, 2, none⟩) lg _)
            change wpList _ _ _ _ _ _
            (try simp only [List.drop_succ_cons, List.drop_zero])
            go_wp2_with fail
            refine NoPanic.normal ?_
            go_wp2
            go_meet
            case rel =>
              refine ⟨V5.heap.size, aw0, aw1, aw2, cw0, cw1, cw2, yw0, yw1, yw2, rfl, rfl, ?_⟩
              exact MetField.early g_ (by omega) (by omega) bx Gw.o0 Gw.o1 Gw.o2 Gw.s0 Gw.s1 Gw.s2
        · skip
          refine tree_make rfl rfl (.pointer (some ⟨V4.heap.size, 0, none⟩)) (V4.alloc (.cells #[.slice none 0 0, .slice none 0 0, .slice none 0 0] 38)) (by go_simp <;> with_reducible rfl) (below_next g_ (below_new _ _)) ?_
          simp only [Act.put, List.setIfInBounds_toArray, List.set_cons_zero, List.set_cons_succ]
          have ln : V4.heap.size < (V4.alloc (.cells #[.slice none 0 0, .slice none 0 0, .slice none 0 0] 38)).heap.size := lt_here _ _
          have bx := Blk.new V4 #[.slice none 0 0, .slice none 0 0, .slice none 0 0] 38
          have qn := below_new V4 (.cells #[.slice none 0 0, .slice none 0 0, .slice none 0 0] 38)
          have lg := Below.size g_
          replace g_ := below_next g_ qn
          generalize V4.alloc (.cells #[.slice none 0 0, .slice none 0 0, .slice none 0 0] 38) = V18 at *
          refine tree_call rfl rfl 14 #[] #[] rfl _ Try.func14 (by kernel_rfl) (by kernel_rfl) [.agg #[.int .i64 wd0, .int .i64 hi0, .bool wr0, .slice a0_0 x0_0.length c0_0, .slice a0_1 x0_1.length c0_1]] (by kernel_rfl) #[.agg #[.int .i64 wd0, .int .i64 hi0, .bool wr0, .slice a0_0 x0_0.length c0_0, .slice a0_1 x0_1.length c0_1]] (by simp) _ (toSheet_any _ _ _ _ _ _ _ _ _ _ (r0_0.later (HB.out.trans (Below.mono g_ HB.out.size))) (r0_1.later (HB.out.trans (Below.mono g_ HB.out.size))) n0_0 n0_1) ?_
          rintro e V19 ⟨gw0_0, gw0_1, rfl, Cw0⟩
          have q0 := Cw0.below
          refine ⟨_, rfl, below_next g_ q0, ?_⟩
          simp only [Act.put, List.setIfInBounds_toArray, List.set_cons_zero, List.set_cons_succ]
          replace g_ := below_next g_ q0
          have lq0 := q0.size
          replace bx := bx.later q0
          refine tree_call rfl rfl 20 #[] #[] rfl _ Try.func20 (by kernel_rfl) (by kernel_rfl) [.agg #[.slice a1_0 x1_0.length c1_0, .slice a1_1 x1_1.length c1_1, .slice a1_2 x1_2.length c1_2]] (by kernel_rfl) #[.agg #[.slice a1_0 x1_0.length c1_0, .slice a1_1 x1_1.length c1_1, .slice a1_2 x1_2.length c1_2]] (by simp) _ (toField_any _ _ _ _ _ _ _ _ _ _ (r1_0.later (HB.out.trans (Below.mono g_ HB.out.size))) (r1_1.later (HB.out.trans (Below.mono g_ HB.out.size))) (r1_2.later (HB.out.trans (Below.mono g_ HB.out.size))) n1_0 n1_1 n1_2) ?_
          rintro e V20 ⟨gw1_0, gw1_1, gw1_2, rfl, Cw1⟩
          have q1 := Cw1.below
          refine ⟨_, rfl, below_next g_ q1, ?_⟩
          simp only [Act.put, List.setIfInBounds_toArray, List.set_cons_zero, List.set_cons_succ]
          replace g_ := below_next g_ q1
          have lq1 := q1.size
          replace bx := bx.later q1
          refine tree_call rfl rfl 15 #[] #[] rfl _ Try.func15 (by kernel_rfl) (by kernel_rfl) [.agg #[.int .i64 fr2, .int .i64 ct2]] (by kernel_rfl) #[.agg #[.int .i64 fr2, .int .i64 ct2]] (by simp) _ (toStrip_any _ _ _  ) ?_
          rintro e V21 ⟨rfl, Cw2⟩
          have q2 := Cw2
          refine ⟨_, rfl, below_next g_ q2, ?_⟩
          simp only [Act.put, List.setIfInBounds_toArray, List.set_cons_zero, List.set_cons_succ]
          replace g_ := below_next g_ q2
          have lq2 := q2.size
          replace bx := bx.later q2
          have lg0 := Below.size g_
          refine tree_call rfl rfl 48 #[] #[] rfl _ Try.func48 (by kernel_rfl) (by kernel_rfl) [.agg #[.int .i64 wd0, .int .i64 hi0, .bool wr0, .slice (some ⟨gw0_0, 0, none⟩) x0_0.length x0_0.length, .slice (some ⟨gw0_1, 0, none⟩) x0_1.length x0_1.length], .agg #[.slice (some ⟨gw1_0, 0, none⟩) x1_0.length x1_0.length, .slice (some ⟨gw1_1, 0, none⟩) x1_1.length x1_1.length, .slice (some ⟨gw1_2, 0, none⟩) x1_2.length x1_2.length], .agg #[.int .i64 fr2, .int .i64 ct2]] (by kernel_rfl) #[.agg #[.int .i64 wd0, .int .i64 hi0, .bool wr0, .slice (some ⟨gw0_0, 0, none⟩) x0_0.length x0_0.length, .slice (some ⟨gw0_1, 0, none⟩) x0_1.length x0_1.length], .agg #[.slice (some ⟨gw1_0, 0, none⟩) x1_0.length x1_0.length, .slice (some ⟨gw1_1, 0, none⟩) x1_1.length x1_1.length, .slice (some ⟨gw1_2, 0, none⟩) x1_2.length x1_2.length], .agg #[.int .i64 fr2, .int .i64 ct2]] (by simp) _ (specStepStripL _ _ _ _ _ _ _ _ _ _ _ _ _ _ _ _ _ _ _ _ _ ((Cw0.o0.row.later q1).later q2) ((Cw0.o1.row.later q1).later q2) b0_0 b0_1 m0_0 m0_1 (Cw1.o0.row.later q2) (Cw1.o1.row.later q2) (Cw1.o2.row.later q2) b1_0 b1_1 b1_2 m1_0 m1_1 m1_2) ?_
          rintro e V22 ⟨aw0, aw1, aw2, cw0, cw1, cw2, yw0, yw1, yw2, rfl, Gw⟩
          have q3 := Gw.below
          refine ⟨_, rfl, below_next g_ q3, ?_⟩
          simp only [Act.put, List.setIfInBounds_toArray, List.set_cons_zero, List.set_cons_succ]
          replace g_ := below_next g_ q3
          have lq3 := q3.size
          replace bx := bx.later q3
          (refine tree_plain rfl rfl ?_ ?_ ?_; rotate_left; focus (intro w9; go_simp <;> with_reducible rfl)); (simp only [Act.put, List.setIfInBounds_toArray, List.set_cons_zero, List.set_cons_succ])
          (refine tree_plain rfl rfl ?_ ?_ ?_; rotate_left; focus (intro w9; go_simp <;> with_reducible rfl)); (simp only [Act.put, List.setIfInBounds_toArray, List.set_cons_zero, List.set_cons_succ])
          (refine tree_plain rfl rfl ?_ ?_ ?_; rotate_left; focus (intro w9; go_simp <;> with_reducible rfl)); (simp only [Act.put, List.setIfInBounds_toArray, List.set_cons_zero, List.set_cons_succ])
          obtain ⟨bxc, bxf⟩ := bx.open
          refine ⟨_, rfl, ?_⟩
          go_wp2_with fail
          refine And.intro ?_ ?_
          · exact (((g_.setCell (p := ⟨_, 0, none⟩) lg _).setCell (p := ⟨_, 1, none⟩) lg _).setCell (p := ⟨_, 2, none⟩) lg _)
          change wpList _ _ _ _ _ _
          (try simp only [List.drop_succ_cons, List.drop_zero])
          go_wp2_with fail
          refine NoPanic.normal ?_
          go_wp2
          go_meet
          case rel =>
            refine ⟨V4.heap.size, aw0, aw1, aw2, cw0, cw1, cw2, yw0, yw1, yw2, rfl, rfl, ?_⟩
            exact MetField.early g_ (by omega) (by omega) bx Gw.o0 Gw.o1 Gw.o2 Gw.s0 Gw.s1 Gw.s2
      case rest =>
        obtain ⟨bww, aw0, aw1, aw2, cw0, cw1, cw2, yw0, yw1, yw2, rfl, rfl, Gw⟩ := hcut
        generalize wc = V23 at *
        have q := Gw.below
        replace A0 := A0.later q
        replace A1 := A1.later q
        replace A2 := A2.later q
        replace HB := Lib.hid (HB.out.trans (q.mono HB.out.size))
        have sz23 : V3.heap.size ≤ V23.heap.size := q.size
        clear q
        have Rw0 := Lib.hid Gw.r0
        have lww0 := Gw.r0.low
        have Rw1 := Lib.hid Gw.r1
        have lww1 := Gw.r1.low
        have Rw2 := Lib.hid Gw.r2
        have lww2 := Gw.r2.low
        have Bw := Gw.box
        have sblw := Gw.le; have sbhw := Bw.lt
        have Sw0 := Lib.hid Gw.s0
        have Sw1 := Lib.hid Gw.s1
        have Sw2 := Lib.hid Gw.s2
        obtain ⟨A0c, A0f⟩ := A0.open
        go_wp2_with fail
        refine (toSheet_any _ _ _ _ _ _ _ _ _ _ (r0_0.later HB.out) (r0_1.later HB.out) n0_0 n0_1).mono ?_
        rintro e V24 ⟨gx0_0, gx0_1, rfl, Cx0⟩
        clear A0c A0f
        replace A0 := A0.later Cx0.below
        replace A1 := A1.later Cx0.below
        replace A2 := A2.later Cx0.below
        replace Bw := Bw.later Cx0.below
        replace Rw0 := Lib.hid (Rw0.out.later Cx0.below)
        replace Rw1 := Lib.hid (Rw1.out.later Cx0.below)
        replace Rw2 := Lib.hid (Rw2.out.later Cx0.below)
        replace HB := Lib.hid (HB.out.trans (Cx0.below.mono HB.out.size))
        have sz24 : V23.heap.size ≤ V24.heap.size := Cx0.below.size
        have O0_0 := Lib.hid Cx0.o0
        have so0_0 := Cx0.o0.span
        have O0_1 := Lib.hid Cx0.o1
        have so0_1 := Cx0.o1.span
        have ll0_0 := Cx0.l0
        have X0 := Blk.new V24 #[.int .i64 wd0, .int .i64 hi0, .bool wr0, .slice (some ⟨gx0_0, 0, none⟩) x0_0.length x0_0.length, .slice (some ⟨gx0_1, 0, none⟩) x0_1.length x0_1.length] 29
        have q := below_new V24 (.cells #[.int .i64 wd0, .int .i64 hi0, .bool wr0, .slice (some ⟨gx0_0, 0, none⟩) x0_0.length x0_0.length, .slice (some ⟨gx0_1, 0, none⟩) x0_1.length x0_1.length] 29)
        replace A0 := A0.later q
        replace A1 := A1.later q
        replace A2 := A2.later q
        replace Bw := Bw.later q
        replace Rw0 := Lib.hid (Rw0.out.later q)
        replace Rw1 := Lib.hid (Rw1.out.later q)
        replace Rw2 := Lib.hid (Rw2.out.later q)
        replace O0_0 := Lib.hid (O0_0.out.later q)
        replace O0_1 := Lib.hid (O0_1.out.later q)
        replace HB := Lib.hid (HB.out.trans (q.mono HB.out.size))
        clear q
        obtain ⟨A1c, A1f⟩ := A1.open
        go_wp2_with fail
        generalize V24.alloc (.cells #[.int .i64 wd0, .int .i64 hi0, .bool wr0, .slice (some ⟨gx0_0, 0, none⟩) x0_0.length x0_0.length, .slice (some ⟨gx0_1, 0, none⟩) x0_1.length x0_1.length] 29) = V25 at *
        have sz25 : V24.heap.size < V25.heap.size := X0.lt
        refine (toField_any _ _ _ _ _ _ _ _ _ _ (r1_0.later HB.out) (r1_1.later HB.out) (r1_2.later HB.out) n1_0 n1_1 n1_2).mono ?_
        rintro e V26 ⟨gx1_0, gx1_1, gx1_2, rfl, Cx1⟩
        clear A1c A1f
        replace A0 := A0.later Cx1.below
        replace A1 := A1.later Cx1.below
        replace A2 := A2.later Cx1.below
        replace Bw := Bw.later Cx1.below
        replace X0 := X0.later Cx1.below
        replace Rw0 := Lib.hid (Rw0.out.later Cx1.below)
        replace Rw1 := Lib.hid (Rw1.out.later Cx1.below)
        replace Rw2 := Lib.hid (Rw2.out.later Cx1.below)
        replace O0_0 := Lib.hid (O0_0.out.later Cx1.below)
        replace O0_1 := Lib.hid (O0_1.out.later Cx1.below)
        replace HB := Lib.hid (HB.out.trans (Cx1.below.mono HB.out.size))
        have sz26 : V25.heap.size ≤ V26.heap.size := Cx1.below.size
        have O1_0 := Lib.hid Cx1.o0
        have so1_0 := Cx1.o0.span
        have O1_1 := Lib.hid Cx1.o1
        have so1_1 := Cx1.o1.span
        have O1_2 := Lib.hid Cx1.o2
        have so1_2 := Cx1.o2.span
        have ll1_0 := Cx1.l0
        have ll1_1 := Cx1.l1
        have X1 := Blk.new V26 #[.slice (some ⟨gx1_0, 0, none⟩) x1_0.length x1_0.length, .slice (some ⟨gx1_1, 0, none⟩) x1_1.length x1_1.length, .slice (some ⟨gx1_2, 0, none⟩) x1_2.length x1_2.length] 38
        have q := below_new V26 (.cells #[.slice (some ⟨gx1_0, 0, none⟩) x1_0.length x1_0.length, .slice (some ⟨gx1_1, 0, none⟩) x1_1.length x1_1.length, .slice (some ⟨gx1_2, 0, none⟩) x1_2.length x1_2.length] 38)
        replace A0 := A0.later q
        replace A1 := A1.later q
        replace A2 := A2.later q
        replace Bw := Bw.later q
        replace X0 := X0.later q
        replace Rw0 := Lib.hid (Rw0.out.later q)
        replace Rw1 := Lib.hid (Rw1.out.later q)
        replace Rw2 := Lib.hid (Rw2.out.later q)
        replace O0_0 := Lib.hid (O0_0.out.later q)
        replace O0_1 := Lib.hid (O0_1.out.later q)
        replace O1_0 := Lib.hid (O1_0.out.later q)
        replace O1_1 := Lib.hid (O1_1.out.later q)
        replace O1_2 := Lib.hid (O1_2.out.later q)
        replace HB := Lib.hid (HB.out.trans (q.mono HB.out.size))
        clear q
        obtain ⟨X0c, X0f⟩ := X0.open
        obtain ⟨X1c, X1f⟩ := X1.open
        obtain ⟨A2c, A2f⟩ := A2.open
        go_wp2_with fail
        generalize V26.alloc (.cells #[.slice (some ⟨gx1_0, 0, none⟩) x1_0.length x1_0.length, .slice (some ⟨gx1_1, 0, none⟩) x1_1.length x1_1.length, .slice (some ⟨gx1_2, 0, none⟩) x1_2.length x1_2.length] 38) = V27 at *
        have sz27 : V26.heap.size < V27.heap.size := X1.lt
        clear X0c X0f
        clear X1c X1f
        clear A2c A2f
        obtain ⟨X0c, X0f⟩ := X0.open
        obtain ⟨X1c, X1f⟩ := X1.open
        obtain ⟨A2c, A2f⟩ := A2.open
        go_upto_region 11 with (fail)
        clear X0c X0f
        clear X1c X1f
        clear A2c A2f
        go_cut [12, 13] (fun sa sb wx => RelOField V27  (ifO (cutB wd0 hi0 wr0 x0_0 x0_1 x1_0 x1_1 x1_2 fr2 ct2) (pL wd0 fr2 ct2 (runL wd0 hi0 wr0 x0_0 x0_1 x1_0 x1_1 x1_2 1).e)) (ifO (cutB wd0 hi0 wr0 x0_0 x0_1 x1_0 x1_1 x1_2 fr2 ct2) (pL wd0 fr2 ct2 (runL wd0 hi0 wr0 x0_0 x0_1 x1_0 x1_1 x1_2 1).x)) (ifO (cutB wd0 hi0 wr0 x0_0 x0_1 x1_0 x1_1 x1_2 fr2 ct2) (pL wd0 fr2 ct2 (runL wd0 hi0 wr0 x0_0 x0_1 x1_0 x1_1 x1_2 1).y)) (cutB wd0 hi0 wr0 x0_0 x0_1 x1_0 x1_1 x1_2 fr2 ct2) sa sb wx)
        case first =>
          refine wp_region_noPanic ?_
          refine wp_region_tree (Grows V27) 10 (.take 0 (.take 1 (.take 2 (.fork 3 (.fork 4 (.take 5 (.take 6 (.take 7 (.one 8 (.one 9 .done))))) 8 (.one 4 (.take 5 (.take 6 (.take 7 (.one 9 .done)))))) 8 (.one 3 (.one 4 (.take 5 (.take 6 (.take 7 (.one 9 .done)))))))))) (by kernel_rfl) (by kernel_rfl) (fun _ _ _ _ _ h => h) (Grows.drew _) ?_
          (refine tree_load rfl rfl (⟨V24.heap.size, 0, none⟩) (by kernel_rfl) (.agg #[.int .i64 wd0, .int .i64 hi0, .bool wr0, .slice (some ⟨gx0_0, 0, none⟩) x0_0.length x0_0.length, .slice (some ⟨gx0_1, 0, none⟩) x0_1.length x0_1.length]) (fun w' hw' => run_loadVar_row w' _ _ _ _ _ _ (X0.later hw') Try.underlying29 rfl (by kernel_rfl)) ?_; simp only [Act.put, List.setIfInBounds_toArray, List.set_cons_zero, List.set_cons_succ])
          (refine tree_load rfl rfl (⟨V26.heap.size, 0, none⟩) (by kernel_rfl) (.agg #[.slice (some ⟨gx1_0, 0, none⟩) x1_0.length x1_0.length, .slice (some ⟨gx1_1, 0, none⟩) x1_1.length x1_1.length, .slice (some ⟨gx1_2, 0, none⟩) x1_2.length x1_2.length]) (fun w' hw' => run_loadVar_row w' _ _ _ _ _ _ (X1.later hw') Try.underlying38 rfl (by kernel_rfl)) ?_; simp only [Act.put, List.setIfInBounds_toArray, List.set_cons_zero, List.set_cons_succ])
          (refine tree_load rfl rfl (⟨w.heap.size + 1 + 1, 0, none⟩) (by kernel_rfl) (.agg #[.int .i64 fr2, .int .i64 ct2]) (fun w' hw' => run_loadVar_row w' _ _ _ _ _ _ (A2.later hw') Try.underlying26 rfl (by kernel_rfl)) ?_; simp only [Act.put, List.setIfInBounds_toArray, List.set_cons_zero, List.set_cons_succ])
          have g_ : Below V27.heap.size V27 V27.drew := below_drew V27
          generalize V27.drew = V28 at *
          refine tree_fork ?_ ?_
          · skip
            refine tree_call rfl rfl 15 #[] #[] rfl _ Try.func15 (by kernel_rfl) (by kernel_rfl) [.agg #[.int .i64 fr2, .int .i64 ct2]] (by kernel_rfl) #[.agg #[.int .i64 fr2, .int .i64 ct2]] (by simp) _ (toStrip_any _ _ _  ) ?_
            rintro e V29 ⟨rfl, Ci2⟩
            have q0 := Ci2
            refine ⟨_, rfl, below_next g_ q0, ?_⟩
            simp only [Act.put, List.setIfInBounds_toArray, List.set_cons_zero, List.set_cons_succ]
            replace g_ := below_next g_ q0
            have lq0 := q0.size
            refine tree_fork ?_ ?_
            · skip
              have lg0 := Below.size g_
              refine tree_call rfl rfl 49 #[] #[] rfl _ Try.func49 (by kernel_rfl) (by kernel_rfl) [.agg #[.int .i64 wd0, .int .i64 hi0, .bool wr0, .slice (some ⟨gx0_0, 0, none⟩) x0_0.length x0_0.length, .slice (some ⟨gx0_1, 0, none⟩) x0_1.length x0_1.length], .agg #[.slice (some ⟨gx1_0, 0, none⟩) x1_0.length x1_0.length, .slice (some ⟨gx1_1, 0, none⟩) x1_1.length x1_1.length, .slice (some ⟨gx1_2, 0, none⟩) x1_2.length x1_2.length], .agg #[.int .i64 fr2, .int .i64 ct2]] (by kernel_rfl) #[.agg #[.int .i64 wd0, .int .i64 hi0, .bool wr0, .slice (some ⟨gx0_0, 0, none⟩) x0_0.length x0_0.length, .slice (some ⟨gx0_1, 0, none⟩) x0_1.length x0_1.length], .agg #[.slice (some ⟨gx1_0, 0, none⟩) x1_0.length x1_0.length, .slice (some ⟨gx1_1, 0, none⟩) x1_1.length x1_1.length, .slice (some ⟨gx1_2, 0, none⟩) x1_2.length x1_2.length], .agg #[.int .i64 fr2, .int .i64 ct2]] (by simp) _ (implStepStripL _ _ _ _ _ _ _ _ _ _ _ _ _ _ _ _ _ _ _ _ _ (O0_0.out.row.later g_) (O0_1.out.row.later g_) b0_0 b0_1 m0_0 m0_1 (O1_0.out.row.later g_) (O1_1.out.row.later g_) (O1_2.out.row.later g_) b1_0 b1_1 b1_2 m1_0 m1_1 m1_2) ?_
              rintro e V30 ⟨ai0, ai1, ai2, ci0, ci1, ci2, yi0, yi1, yi2, rfl, Gi⟩
              have q1 := Gi.below
              refine ⟨_, rfl, below_next g_ q1, ?_⟩
              simp only [Act.put, List.setIfInBounds_toArray, List.set_cons_zero, List.set_cons_succ]
              replace g_ := below_next g_ q1
              have lq1 := q1.size
              (refine tree_plain rfl rfl ?_ ?_ ?_; rotate_left; focus (intro w9; go_simp <;> with_reducible rfl)); (simp only [Act.put, List.setIfInBounds_toArray, List.set_cons_zero, List.set_cons_succ])
              (refine tree_plain rfl rfl ?_ ?_ ?_; rotate_left; focus (intro w9; go_simp <;> with_reducible rfl)); (simp only [Act.put, List.setIfInBounds_toArray, List.set_cons_zero, List.set_cons_succ])
              (refine tree_plain rfl rfl ?_ ?_ ?_; rotate_left; focus (intro w9; go_simp <;> with_reducible rfl)); (simp only [Act.put, List.setIfInBounds_toArray, List.set_cons_zero, List.set_cons_succ])
              refine tree_make rfl rfl (.pointer (some ⟨V30.heap.size, 0, none⟩)) (V30.alloc (.cells #[.slice none 0 0, .slice none 0 0, .slice none 0 0] 38)) (by go_simp <;> with_reducible rfl) (below_next g_ (below_new _ _)) ?_
              simp only [Act.put, List.setIfInBounds_toArray, List.set_cons_zero, List.set_cons_succ]
              have lg := Below.size g_
              refine ⟨_, rfl, ?_⟩
              go_wp2_with fail
              refine And.intro ?_ ?_
              · exact below_next g_ (below_new _ _)
              change wpList _ _ _ _ _ _
              (try simp only [List.drop_succ_cons, List.drop_zero])
              go_wp2_with fail
              refine NoPanic.normal ?_
              go_wp2
              go_meet
              case rel =>
                refine ⟨_, V29.heap.size, V30.heap.size, ai0, ai1, ai2, ci0, ci1, ci2, yi0, yi1, yi2, rfl, rfl, ?_⟩
                exact MetOField.last g_ (by omega) q1.size Gi.o0 Gi.o1 Gi.o2 Gi.p01 Gi.p02 Gi.p12 Gi.s0 Gi.s1 Gi.s2
            · skip
              refine tree_make rfl rfl (.pointer (some ⟨V29.heap.size, 0, none⟩)) (V29.alloc (.cells #[.slice none 0 0, .slice none 0 0, .slice none 0 0] 38)) (by go_simp <;> with_reducible rfl) (below_next g_ (below_new _ _)) ?_
              simp only [Act.put, List.setIfInBounds_toArray, List.set_cons_zero, List.set_cons_succ]
              have ln : V29.heap.size < (V29.alloc (.cells #[.slice none 0 0, .slice none 0 0, .slice none 0 0] 38)).heap.size := lt_here _ _
              have bx := Blk.new V29 #[.slice none 0 0, .slice none 0 0, .slice none 0 0] 38
              have qn := below_new V29 (.cells #[.slice none 0 0, .slice none 0 0, .slice none 0 0] 38)
              have lg := Below.size g_
              replace g_ := below_next g_ qn
              generalize V29.alloc (.cells #[.slice none 0 0, .slice none 0 0, .slice none 0 0] 38) = V31 at *
              have lg0 := Below.size g_
              refine tree_call rfl rfl 49 #[] #[] rfl _ Try.func49 (by kernel_rfl) (by kernel_rfl) [.agg #[.int .i64 wd0, .int .i64 hi0, .bool wr0, .slice (some ⟨gx0_0, 0, none⟩) x0_0.length x0_0.length, .slice (some ⟨gx0_1, 0, none⟩) x0_1.length x0_1.length], .agg #[.slice (some ⟨gx1_0, 0, none⟩) x1_0.length x1_0.length, .slice (some ⟨gx1_1, 0, none⟩) x1_1.length x1_1.length, .slice (some ⟨gx1_2, 0, none⟩) x1_2.length x1_2.length], .agg #[.int .i64 fr2, .int .i64 ct2]] (by kernel_rfl) #[.agg #[.int .i64 wd0, .int .i64 hi0, .bool wr0, .slice (some ⟨gx0_0, 0, none⟩) x0_0.length x0_0.length, .slice (some ⟨gx0_1, 0, none⟩) x0_1.length x0_1.length], .agg #[.slice (some ⟨gx1_0, 0, none⟩) x1_0.length x1_0.length, .slice (some ⟨gx1_1, 0, none⟩) x1_1.length x1_1.length, .slice (some ⟨gx1_2, 0, none⟩) x1_2.length x1_2.length], .agg #[.int .i64 fr2, .int .i64 ct2]] (by simp) _ (implStepStripL _ _ _ _ _ _ _ _ _ _ _ _ _ _ _ _ _ _ _ _ _ (O0_0.out.row.later g_) (O0_1.out.row.later g_) b0_0 b0_1 m0_0 m0_1 (O1_0.out.row.later g_) (O1_1.out.row.later g_) (O1_2.out.row.later g_) b1_0 b1_1 b1_2 m1_0 m1_1 m1_2) ?_
              rintro e V32 ⟨ai0, ai1, ai2, ci0, ci1, ci2, yi0, yi1, yi2, rfl, Gi⟩
              have q1 := Gi.below
              refine ⟨_, rfl, below_next g_ q1, ?_⟩
              simp only [Act.put, List.setIfInBounds_toArray, List.set_cons_zero, List.set_cons_succ]
              replace g_ := below_next g_ q1
              have lq1 := q1.size
              replace bx := bx.later q1
              (refine tree_plain rfl rfl ?_ ?_ ?_; rotate_left; focus (intro w9; go_simp <;> with_reducible rfl)); (simp only [Act.put, List.setIfInBounds_toArray, List.set_cons_zero, List.set_cons_succ])
              (refine tree_plain rfl rfl ?_ ?_ ?_; rotate_left; focus (intro w9; go_simp <;> with_reducible rfl)); (simp only [Act.put, List.setIfInBounds_toArray, List.set_cons_zero, List.set_cons_succ])
              (refine tree_plain rfl rfl ?_ ?_ ?_; rotate_left; focus (intro w9; go_simp <;> with_reducible rfl)); (simp only [Act.put, List.setIfInBounds_toArray, List.set_cons_zero, List.set_cons_succ])
              obtain ⟨bxc, bxf⟩ := bx.open
              refine ⟨_, rfl, ?_⟩
              go_wp2_with fail
              refine And.intro ?_ ?_
              · exact (((g_.setCell (p := ⟨_, 0, none⟩) lg _).setCell (p := ⟨_, 1, none⟩) lg _).setCell (p := ⟨_, 2, none⟩) lg _)
              change wpList _ _ _ _ _ _
              (try simp only [List.drop_succ_cons, List.drop_zero])
              go_wp2_with fail
              refine NoPanic.normal ?_
              go_wp2
              go_meet
              case rel =>
                refine ⟨V29.heap.size, V31.heap.size, V32.heap.size, ai0, ai1, ai2, ci0, ci1, ci2, yi0, yi1, yi2, rfl, rfl, ?_⟩
                exact MetOField.early g_ (by omega) (by omega) q1.size bx Gi.o0 Gi.o1 Gi.o2 Gi.p01 Gi.p02 Gi.p12 Gi.s0 Gi.s1 Gi.s2
          · skip
            refine tree_make rfl rfl (.pointer (some ⟨V28.heap.size, 0, none⟩)) (V28.alloc (.cells #[.slice none 0 0, .slice none 0 0, .slice none 0 0] 38)) (by go_simp <;> with_reducible rfl) (below_next g_ (below_new _ _)) ?_
            simp only [Act.put, List.setIfInBounds_toArray, List.set_cons_zero, List.set_cons_succ]
            have ln : V28.heap.size < (V28.alloc (.cells #[.slice none 0 0, .slice none 0 0, .slice none 0 0] 38)).heap.size := lt_here _ _
            have bx := Blk.new V28 #[.slice none 0 0, .slice none 0 0, .slice none 0 0] 38
            have qn := below_new V28 (.cells #[.slice none 0 0, .slice none 0 0, .slice none 0 0] 38)
            have lg := Below.size g_
            replace g_ := below_next g_ qn
            generalize V28.alloc (.cells #[.slice none 0 0, .slice none 0 0, .slice none 0 0] 38) = V33 at *
            refine tree_call rfl rfl 15 #[] #[] rfl _ Try.func15 (by kernel_rfl) (by kernel_rfl) [.agg #[.int .i64 fr2, .int .i64 ct2]] (by kernel_rfl) #[.agg #[.int .i64 fr2, .int .i64 ct2]] (by simp) _ (toStrip_any _ _ _  ) ?_
            rintro e V34 ⟨rfl, Ci2⟩
            have q0 := Ci2
            refine ⟨_, rfl, below_next g_ q0, ?_⟩
            simp only [Act.put, List.setIfInBounds_toArray, List.set_cons_zero, List.set_cons_succ]
            replace g_ := below_next g_ q0
            have lq0 := q0.size
            replace bx := bx.later q0
            have lg0 := Below.size g_
            refine tree_call rfl rfl 49 #[] #[] rfl _ Try.func49 (by kernel_rfl) (by kernel_rfl) [.agg #[.int .i64 wd0, .int .i64 hi0, .bool wr0, .slice (some ⟨gx0_0, 0, none⟩) x0_0.length x0_0.length, .slice (some ⟨gx0_1, 0, none⟩) x0_1.length x0_1.length], .agg #[.slice (some ⟨gx1_0, 0, none⟩) x1_0.length x1_0.length, .slice (some ⟨gx1_1, 0, none⟩) x1_1.length x1_1.length, .slice (some ⟨gx1_2, 0, none⟩) x1_2.length x1_2.length], .agg #[.int .i64 fr2, .int .i64 ct2]] (by kernel_rfl) #[.agg #[.int .i64 wd0, .int .i64 hi0, .bool wr0, .slice (some ⟨gx0_0, 0, none⟩) x0_0.length x0_0.length, .slice (some ⟨gx0_1, 0, none⟩) x0_1.length x0_1.length], .agg #[.slice (some ⟨gx1_0, 0, none⟩) x1_0.length x1_0.length, .slice (some ⟨gx1_1, 0, none⟩) x1_1.length x1_1.length, .slice (some ⟨gx1_2, 0, none⟩) x1_2.length x1_2.length], .agg #[.int .i64 fr2, .int .i64 ct2]] (by simp) _ (implStepStripL _ _ _ _ _ _ _ _ _ _ _ _ _ _ _ _ _ _ _ _ _ (O0_0.out.row.later g_) (O0_1.out.row.later g_) b0_0 b0_1 m0_0 m0_1 (O1_0.out.row.later g_) (O1_1.out.row.later g_) (O1_2.out.row.later g_) b1_0 b1_1 b1_2 m1_0 m1_1 m1_2) ?_
            rintro e V35 ⟨ai0, ai1, ai2, ci0, ci1, ci2, yi0, yi1, yi2, rfl, Gi⟩
            have q1 := Gi.below
            refine ⟨_, rfl, below_next g_ q1, ?_⟩
            simp only [Act.put, List.setIfInBounds_toArray, List.set_cons_zero, List.set_cons_succ]
            replace g_ := below_next g_ q1
            have lq1 := q1.size
            replace bx := bx.later q1
            (refine tree_plain rfl rfl ?_ ?_ ?_; rotate_left; focus (intro w9; go_simp <;> with_reducible rfl)); (simp only [Act.put, List.setIfInBounds_toArray, List.set_cons_zero, List.set_cons_succ])
            (refine tree_plain rfl rfl ?_ ?_ ?_; rotate_left; focus (intro w9; go_simp <;> with_reducible rfl)); (simp only [Act.put, List.setIfInBounds_toArray, List.set_cons_zero, List.set_cons_succ])
            (refine tree_plain rfl rfl ?_ ?_ ?_; rotate_left; focus (intro w9; go_simp <;> with_reducible rfl)); (simp only [Act.put, List.setIfInBounds_toArray, List.set_cons_zero, List.set_cons_succ])
            obtain ⟨bxc, bxf⟩ := bx.open
            refine ⟨_, rfl, ?_⟩
            go_wp2_with fail
            refine And.intro ?_ ?_
            · exact (((g_.setCell (p := ⟨_, 0, none⟩) lg _).setCell (p := ⟨_, 1, none⟩) lg _).setCell (p := ⟨_, 2, none⟩) lg _)
            change wpList _ _ _ _ _ _
            (try simp only [List.drop_succ_cons, List.drop_zero])
            go_wp2_with fail
            refine NoPanic.normal ?_
            go_wp2
            go_meet
            case rel =>
              refine ⟨V28.heap.size, V34.heap.size, V35.heap.size, ai0, ai1, ai2, ci0, ci1, ci2, yi0, yi1, yi2, rfl, rfl, ?_⟩
              exact MetOField.early g_ (by omega) (by omega) q1.size bx Gi.o0 Gi.o1 Gi.o2 Gi.p01 Gi.p02 Gi.p12 Gi.s0 Gi.s1 Gi.s2
        case rest =>
          obtain ⟨bwi, loi, hii, ai0, ai1, ai2, ci0, ci1, ci2, yi0, yi1, yi2, rfl, rfl, Gi⟩ := hcut
          generalize wc = V36 at *
          have q := Gi.below
          replace A0 := A0.later q
          replace A1 := A1.later q
          replace A2 := A2.later q
          replace Bw := Bw.later q
          replace X0 := X0.later q
          replace X1 := X1.later q
          replace Rw0 := Lib.hid (Rw0.out.later q)
          replace Rw1 := Lib.hid (Rw1.out.later q)
          replace Rw2 := Lib.hid (Rw2.out.later q)
          replace O0_0 := Lib.hid (O0_0.out.later q)
          replace O0_1 := Lib.hid (O0_1.out.later q)
          replace O1_0 := Lib.hid (O1_0.out.later q)
          replace O1_1 := Lib.hid (O1_1.out.later q)
          replace O1_2 := Lib.hid (O1_2.out.later q)
          replace HB := Lib.hid (HB.out.trans (q.mono HB.out.size))
          have sz36 : V27.heap.size ≤ V36.heap.size := q.size
          clear q
          have Ri0 := Lib.hid Gi.o0; have spi0 := Gi.q0
          have Ri1 := Lib.hid Gi.o1; have spi1 := Gi.q1
          have Ri2 := Lib.hid Gi.o2; have spi2 := Gi.q2
          have gl1 := Gi.l1; have gl2 := Gi.l2; have gl3 := Gi.l3; have gl4 := Gi.l4
          have Bi := Gi.box
          have sbli := Gi.le; have sbhi := Bi.lt
          have Si0 := Lib.hid Gi.s0
          have Si1 := Lib.hid Gi.s1
          have Si2 := Lib.hid Gi.s2
          obtain ⟨Bic, Bif⟩ := Bi.open
          obtain ⟨Bwc, Bwf⟩ := Bw.open
          clear Bic Bif
          clear Bwc Bwf
          obtain ⟨Bic, Bif⟩ := Bi.open
          obtain ⟨Bwc, Bwf⟩ := Bw.open
          go_wp2_with fail
          refine (eqField_any _ _ _ _ _ _ _ _ _ _ _ _ _ _ _ _ _ _ _ Ri0.out.row Ri1.out.row Ri2.out.row Rw0.out Rw1.out Rw2.out (Si0.out.same Sw0.out) (Si1.out.same Sw1.out) (Si2.out.same Sw2.out) (few_max Si0.out) (few_max Si1.out) (few_max Si2.out)).mono ?_
          rintro e V37 ⟨rfl, q⟩
          clear Bic Bif
          clear Bwc Bwf
          replace A0 := A0.later q
          replace A1 := A1.later q
          replace A2 := A2.later q
          replace Bw := Bw.later q
          replace X0 := X0.later q
          replace X1 := X1.later q
          replace Bi := Bi.later q
          replace Rw0 := Lib.hid (Rw0.out.later q)
          replace Rw1 := Lib.hid (Rw1.out.later q)
          replace Rw2 := Lib.hid (Rw2.out.later q)
          replace O0_0 := Lib.hid (O0_0.out.later q)
          replace O0_1 := Lib.hid (O0_1.out.later q)
          replace O1_0 := Lib.hid (O1_0.out.later q)
          replace O1_1 := Lib.hid (O1_1.out.later q)
          replace O1_2 := Lib.hid (O1_2.out.later q)
          replace Ri0 := Lib.hid (Ri0.out.later q)
          replace Ri1 := Lib.hid (Ri1.out.later q)
          replace Ri2 := Lib.hid (Ri2.out.later q)
          replace HB := Lib.hid (HB.out.trans (q.mono HB.out.size))
          have sz37 : V36.heap.size ≤ V37.heap.size := q.size
          clear q
          obtain ⟨X0c, X0f⟩ := X0.open
          obtain ⟨A0c, A0f⟩ := A0.open
          go_wp2_with fail
          clear X0c X0f
          clear A0c A0f
          go_region_held3 (fun w' => (∀ i, w'.cell? ⟨V24.heap.size, i, none⟩ = (#[.int .i64 wd0, .int .i64 hi0, .bool wr0, .slice (some ⟨gx0_0, 0, none⟩) x0_0.length x0_0.length, .slice (some ⟨gx0_1, 0, none⟩) x0_1.length x0_1.length] : Array Value)[i]?) ∧ (∀ i, w'.cell? ⟨w.heap.size, i, none⟩ = (#[.int .i64 wd0, .int .i64 hi0, .bool wr0, .slice a0_0 x0_0.length c0_0, .slice a0_1 x0_1.length c0_1] : Array Value)[i]?) ∧ Below V37.heap.size V37 w') (first | with_reducible exact keep2_start X0 A0 | with_reducible exact keep2_later X0 A0 (by assumption) (by assumption))
            (first
              | (go_at_call 14; (with_reducible refine (toSheet_any _ _ _ _ _ _ _ _ _ _ (row_held2 r0_0 HB.out (by assumption)) (row_held2 r0_1 HB.out (by assumption)) n0_0 n0_1).mono ?_); rintro e V38 ⟨ge0_0, ge0_1, rfl, Ce0⟩; have qa0 := Ce0.below)
              | (go_at_call 17; (with_reducible refine (eqSheet_any _ _ _ _ _ _ _ _ _ _ _ _ _ _ _ _ (row_held2 O0_0.out.row (Below.refl _ _) (by assumption)) (row_held2 O0_1.out.row (Below.refl _ _) (by assumption)) Ce0.o0.row Ce0.o1.row (SameF.refl b0_0) (SameF.refl b0_1) m0_0 m0_1).mono ?_); rintro e V39 ⟨rfl, qa1⟩))
          have q := (below_next (below_next (below_drew V37) qa0) qa1)
          replace A0 := A0.later q
          replace A1 := A1.later q
          replace A2 := A2.later q
          replace Bw := Bw.later q
          replace X0 := X0.later q
          replace X1 := X1.later q
          replace Bi := Bi.later q
          replace Rw0 := Lib.hid (Rw0.out.later q)
          replace Rw1 := Lib.hid (Rw1.out.later q)
          replace Rw2 := Lib.hid (Rw2.out.later q)
          replace O0_0 := Lib.hid (O0_0.out.later q)
          replace O0_1 := Lib.hid (O0_1.out.later q)
          replace O1_0 := Lib.hid (O1_0.out.later q)
          replace O1_1 := Lib.hid (O1_1.out.later q)
          replace O1_2 := Lib.hid (O1_2.out.later q)
          replace Ri0 := Lib.hid (Ri0.out.later q)
          replace Ri1 := Lib.hid (Ri1.out.later q)
          replace Ri2 := Lib.hid (Ri2.out.later q)
          replace HB := Lib.hid (HB.out.trans (q.mono HB.out.size))
          have sz39 : V37.heap.size ≤ V39.heap.size := q.size
          clear q
          obtain ⟨X1c, X1f⟩ := X1.open
          obtain ⟨A1c, A1f⟩ := A1.open
          go_wp2_with fail
          clear X1c X1f
          clear A1c A1f
          go_region_held3 (fun w' => (∀ i, w'.cell? ⟨V26.heap.size, i, none⟩ = (#[.slice (some ⟨gx1_0, 0, none⟩) x1_0.length x1_0.length, .slice (some ⟨gx1_1, 0, none⟩) x1_1.length x1_1.length, .slice (some ⟨gx1_2, 0, none⟩) x1_2.length x1_2.length] : Array Value)[i]?) ∧ (∀ i, w'.cell? ⟨w.heap.size + 1, i, none⟩ = (#[.slice a1_0 x1_0.length c1_0, .slice a1_1 x1_1.length c1_1, .slice a1_2 x1_2.length c1_2] : Array Value)[i]?) ∧ Below V39.heap.size V39 w') (first | with_reducible exact keep2_start X1 A1 | with_reducible exact keep2_later X1 A1 (by assumption) (by assumption))
            (first
              | (go_at_call 20; (with_reducible refine (toField_any _ _ _ _ _ _ _ _ _ _ (row_held2 r1_0 HB.out (by assumption)) (row_held2 r1_1 HB.out (by assumption)) (row_held2 r1_2 HB.out (by assumption)) n1_0 n1_1 n1_2).mono ?_); rintro e V40 ⟨ge1_0, ge1_1, ge1_2, rfl, Ce1⟩; have qa0 := Ce1.below)
              | (go_at_call 22; (with_reducible refine (eqField_any _ _ _ _ _ _ _ _ _ _ _ _ _ _ _ _ _ _ _ (row_held2 O1_0.out.row (Below.refl _ _) (by assumption)) (row_held2 O1_1.out.row (Below.refl _ _) (by assumption)) (row_held2 O1_2.out.row (Below.refl _ _) (by assumption)) Ce1.o0.row Ce1.o1.row Ce1.o2.row (SameF.refl b1_0) (SameF.refl b1_1) (SameF.refl b1_2) m1_0 m1_1 m1_2).mono ?_); rintro e V41 ⟨rfl, qa1⟩))
          have q := (below_next (below_next (below_drew V39) qa0) qa1)
          replace A0 := A0.later q
          replace A1 := A1.later q
          replace A2 := A2.later q
          replace Bw := Bw.later q
          replace X0 := X0.later q
          replace X1 := X1.later q
          replace Bi := Bi.later q
          replace Rw0 := Lib.hid (Rw0.out.later q)
          replace Rw1 := Lib.hid (Rw1.out.later q)
          replace Rw2 := Lib.hid (Rw2.out.later q)
          replace O0_0 := Lib.hid (O0_0.out.later q)
          replace O0_1 := Lib.hid (O0_1.out.later q)
          replace O1_0 := Lib.hid (O1_0.out.later q)
          replace O1_1 := Lib.hid (O1_1.out.later q)
          replace O1_2 := Lib.hid (O1_2.out.later q)
          replace Ri0 := Lib.hid (Ri0.out.later q)
          replace Ri1 := Lib.hid (Ri1.out.later q)
          replace Ri2 := Lib.hid (Ri2.out.later q)
          replace HB := Lib.hid (HB.out.trans (q.mono HB.out.size))
          have sz41 : V39.heap.size ≤ V41.heap.size := q.size
          clear q
          obtain ⟨X0c, X0f⟩ := X0.open
          go_wp2_with fail
          have MK := markSheet_any V23.heap.size wd0 hi0 wr0 _ _ (x0_0.length) (x0_1.length) (fvals x0_0) (fvals x0_1) (1) _ (by omega) O0_0.out O0_1.out (apart_ne (by omega)) (by omega) (by simp only [fvals_length]; omega)
          simp only [fvals_length] at MK
          refine MK.mono ?_
          clear MK
          rintro e V42 ⟨rfl, M⟩
          clear X0c X0f
          have sz42 : V41.heap.size ≤ V42.heap.size := M.below.size
          have ot : Out V41 V42 V23.heap.size V24.heap.size := ⟨M.below.size, fun j hj hd => M.keep j hj (so0_0.ne hd) (so0_1.ne hd)⟩
          replace A0 := A0.out ot (by omega)
          replace A1 := A1.out ot (by omega)
          replace A2 := A2.out ot (by omega)
          replace Bw := Bw.out ot (by omega)
          replace X0 := X0.out ot (by omega)
          replace X1 := X1.out ot (by omega)
          replace Bi := Bi.out ot (by omega)
          replace Rw0 := Lib.hid (Rw0.out.outside ot lww0 (by omega))
          replace Rw1 := Lib.hid (Rw1.out.outside ot lww1 (by omega))
          replace Rw2 := Lib.hid (Rw2.out.outside ot lww2 (by omega))
          replace O1_0 := Lib.hid (O1_0.out.outside ot so1_0 (by omega))
          replace O1_1 := Lib.hid (O1_1.out.outside ot so1_1 (by omega))
          replace O1_2 := Lib.hid (O1_2.out.outside ot so1_2 (by omega))
          replace Ri0 := Lib.hid (Ri0.out.outside ot spi0 (by omega))
          replace Ri1 := Lib.hid (Ri1.out.outside ot spi1 (by omega))
          replace Ri2 := Lib.hid (Ri2.out.outside ot spi2 (by omega))
          replace O0_0 := Lib.hid M.o0
          replace O0_1 := Lib.hid M.o1
          replace HB := Lib.hid (HB.out.trans (M.below.mono (by omega)))
          clear ot M
          obtain ⟨X1c, X1f⟩ := X1.open
          go_wp2_with fail
          have MK := markField_any V25.heap.size  _ _ _ (x1_0.length) (x1_1.length) (x1_2.length) (fvals x1_0) (fvals x1_1) (fvals x1_2) (1 + (x0_0.length : Int) + (x0_1.length : Int)) _ (by omega) O1_0.out O1_1.out O1_2.out (apart_ne (by omega)) (apart_ne (by omega)) (apart_ne (by omega)) (by omega) (by simp only [fvals_length]; omega)
          simp only [fvals_length] at MK
          refine MK.mono ?_
          clear MK
          rintro e V43 ⟨rfl, M⟩
          clear X1c X1f
          have sz43 : V42.heap.size ≤ V43.heap.size := M.below.size
          have ot : Out V42 V43 V25.heap.size V26.heap.size := ⟨M.below.size, fun j hj hd => M.keep j hj (so1_0.ne hd) (so1_1.ne hd) (so1_2.ne hd)⟩
          replace A0 := A0.out ot (by omega)
          replace A1 := A1.out ot (by omega)
          replace A2 := A2.out ot (by omega)
          replace Bw := Bw.out ot (by omega)
          replace X0 := X0.out ot (by omega)
          replace X1 := X1.out ot (by omega)
          replace Bi := Bi.out ot (by omega)
          replace Rw0 := Lib.hid (Rw0.out.outside ot lww0 (by omega))
          replace Rw1 := Lib.hid (Rw1.out.outside ot lww1 (by omega))
          replace Rw2 := Lib.hid (Rw2.out.outside ot lww2 (by omega))
          replace O0_0 := Lib.hid (O0_0.out.outside ot so0_0 (by omega))
          replace O0_1 := Lib.hid (O0_1.out.outside ot so0_1 (by omega))
          replace Ri0 := Lib.hid (Ri0.out.outside ot spi0 (by omega))
          replace Ri1 := Lib.hid (Ri1.out.outside ot spi1 (by omega))
          replace Ri2 := Lib.hid (Ri2.out.outside ot spi2 (by omega))
          replace O1_0 := Lib.hid M.o0
          replace O1_1 := Lib.hid M.o1
          replace O1_2 := Lib.hid M.o2
          replace HB := Lib.hid (HB.out.trans (M.below.mono (by omega)))
          clear ot M
          have dk : ¬ (1 + (x0_0.length : Int) + (x0_1.length : Int) + (x1_0.length : Int) + (x1_1.length : Int) + (x1_2.length : Int) < 0) := by omega
          obtain ⟨Bic, Bif⟩ := Bi.open
          obtain ⟨Bwc, Bwf⟩ := Bw.open
          go_wp2_with fail
          refine (eqField_any _ _ _ _ _ _ _ _ _ _ _ _ _ _ _ _ _ _ _ Ri0.out.row Ri1.out.row Ri2.out.row Rw0.out Rw1.out Rw2.out (Si0.out.same Sw0.out) (Si1.out.same Sw1.out) (Si2.out.same Sw2.out) (few_max Si0.out) (few_max Si1.out) (few_max Si2.out)).mono ?_
          rintro e V44 ⟨rfl, q⟩
          clear Bic Bif
          clear Bwc Bwf
          replace A0 := A0.later q
          replace A1 := A1.later q
          replace A2 := A2.later q
          replace Bw := Bw.later q
          replace X0 := X0.later q
          replace X1 := X1.later q
          replace Bi := Bi.later q
          replace Rw0 := Lib.hid (Rw0.out.later q)
          replace Rw1 := Lib.hid (Rw1.out.later q)
          replace Rw2 := Lib.hid (Rw2.out.later q)
          replace O0_0 := Lib.hid (O0_0.out.later q)
          replace O0_1 := Lib.hid (O0_1.out.later q)
          replace O1_0 := Lib.hid (O1_0.out.later q)
          replace O1_1 := Lib.hid (O1_1.out.later q)
          replace O1_2 := Lib.hid (O1_2.out.later q)
          replace Ri0 := Lib.hid (Ri0.out.later q)
          replace Ri1 := Lib.hid (Ri1.out.later q)
          replace Ri2 := Lib.hid (Ri2.out.later q)
          replace HB := Lib.hid (HB.out.trans (q.mono HB.out.size))
          have sz44 : V43.heap.size ≤ V44.heap.size := q.size
          clear q
          clear dk
          have fy0 := Si0.out.few
          have fy1 := Si1.out.few
          have fy2 := Si2.out.few
          obtain ⟨Bic, Bif⟩ := Bi.open
          go_wp2_with fail
          have MK := markField_any loi  _ _ _ (ci0) (ci1) (ci2) (fvals yi0) (fvals yi1) (fvals yi2) 1 _ (by omega) Ri0.out Ri1.out Ri2.out Gi.p01 Gi.p02 Gi.p12 (by omega) (by simp only [fvals_length]; omega)
          simp only [fvals_length] at MK
          refine MK.mono ?_
          clear MK
          rintro e V45 ⟨rfl, M⟩
          clear Bic Bif
          have sz45 : V44.heap.size ≤ V45.heap.size := M.below.size
          have ot : Out V44 V45 loi hii := ⟨M.below.size, fun j hj hd => M.keep j hj (spi0.ne hd) (spi1.ne hd) (spi2.ne hd)⟩
          replace A0 := A0.out ot (by omega)
          replace A1 := A1.out ot (by omega)
          replace A2 := A2.out ot (by omega)
          replace Bw := Bw.out ot (by omega)
          replace X0 := X0.out ot (by omega)
          replace X1 := X1.out ot (by omega)
          replace Bi := Bi.out ot (by omega)
          replace Rw0 := Lib.hid (Rw0.out.outside ot lww0 (by omega))
          replace Rw1 := Lib.hid (Rw1.out.outside ot lww1 (by omega))
          replace Rw2 := Lib.hid (Rw2.out.outside ot lww2 (by omega))
          replace O0_0 := Lib.hid (O0_0.out.outside ot so0_0 (by omega))
          replace O0_1 := Lib.hid (O0_1.out.outside ot so0_1 (by omega))
          replace O1_0 := Lib.hid (O1_0.out.outside ot so1_0 (by omega))
          replace O1_1 := Lib.hid (O1_1.out.outside ot so1_1 (by omega))
          replace O1_2 := Lib.hid (O1_2.out.outside ot so1_2 (by omega))
          replace Ri0 := Lib.hid M.o0
          replace Ri1 := Lib.hid M.o1
          replace Ri2 := Lib.hid M.o2
          replace HB := Lib.hid (HB.out.trans (M.below.mono (by omega)))
          clear ot M
          obtain ⟨Bic, Bif⟩ := Bi.open
          go_wp2_with fail
          refine (heldField_any  _ _ _ _ _ _ yi0.length yi1.length yi2.length 1 _ Ri0.out.row Ri1.out.row Ri2.out.row (by omega) (by omega)).mono ?_
          rintro e V46 ⟨rfl, q⟩
          clear Bic Bif
          replace A0 := A0.later q
          replace A1 := A1.later q
          replace A2 := A2.later q
          replace Bw := Bw.later q
          replace X0 := X0.later q
          replace X1 := X1.later q
          replace Bi := Bi.later q
          replace Rw0 := Lib.hid (Rw0.out.later q)
          replace Rw1 := Lib.hid (Rw1.out.later q)
          replace Rw2 := Lib.hid (Rw2.out.later q)
          replace O0_0 := Lib.hid (O0_0.out.later q)
          replace O0_1 := Lib.hid (O0_1.out.later q)
          replace O1_0 := Lib.hid (O1_0.out.later q)
          replace O1_1 := Lib.hid (O1_1.out.later q)
          replace O1_2 := Lib.hid (O1_2.out.later q)
          replace Ri0 := Lib.hid (Ri0.out.later q)
          replace Ri1 := Lib.hid (Ri1.out.later q)
          replace Ri2 := Lib.hid (Ri2.out.later q)
          replace HB := Lib.hid (HB.out.trans (q.mono HB.out.size))
          have sz46 : V45.heap.size ≤ V46.heap.size := q.size
          clear q
          have dm : ¬ (1 + (yi0.length : Int) + (yi1.length : Int) + (yi2.length : Int) < 0) := by omega
          obtain ⟨A0c, A0f⟩ := A0.open
          obtain ⟨A1c, A1f⟩ := A1.open
          obtain ⟨A2c, A2f⟩ := A2.open
          go_upto_region 31 with (fail)
          clear A0c A0f
          clear A1c A1f
          clear A2c A2f
          go_cut [17, 18] (fun sa sb wx => RelField V46  (ifO (cutB wd0 hi0 wr0 x0_0 x0_1 x1_0 x1_1 x1_2 fr2 ct2) (pL wd0 fr2 ct2 (runL wd0 hi0 wr0 x0_0 x0_1 x1_0 x1_1 x1_2 1).e)) (ifO (cutB wd0 hi0 wr0 x0_0 x0_1 x1_0 x1_1 x1_2 fr2 ct2) (pL wd0 fr2 ct2 (runL wd0 hi0 wr0 x0_0 x0_1 x1_0 x1_1 x1_2 1).x)) (ifO (cutB wd0 hi0 wr0 x0_0 x0_1 x1_0 x1_1 x1_2 fr2 ct2) (pL wd0 fr2 ct2 (runL wd0 hi0 wr0 x0_0 x0_1 x1_0 x1_1 x1_2 1).y)) (cutB wd0 hi0 wr0 x0_0 x0_1 x1_0 x1_1 x1_2 fr2 ct2) sa sb wx)
          case first =>
            refine wp_region_noPanic ?_
            refine wp_region_tree (Grows V46) 12 (.take 0 (.take 2 (.take 4 (.fork 1 (.fork 3 (.fork 5 (.fork 6 (.take 7 (.take 8 (.take 9 (.one 10 (.one 11 .done))))) 10 (.one 6 (.take 7 (.take 8 (.take 9 (.one 11 .done)))))) 10 (.one 5 (.one 6 (.take 7 (.take 8 (.take 9 (.one 11 .done))))))) 10 (.one 3 (.one 5 (.one 6 (.take 7 (.take 8 (.take 9 (.one 11 .done)))))))) 10 (.one 1 (.one 3 (.one 5 (.one 6 (.take 7 (.take 8 (.take 9 (.one 11 .done)))))))))))) (by kernel_rfl) (by kernel_rfl) (fun _ _ _ _ _ h => h) (Grows.drew _) ?_
            (refine tree_load rfl rfl (⟨w.heap.size, 0, none⟩) (by kernel_rfl) (.agg #[.int .i64 wd0, .int .i64 hi0, .bool wr0, .slice a0_0 x0_0.length c0_0, .slice a0_1 x0_1.length c0_1]) (fun w' hw' => run_loadVar_row w' _ _ _ _ _ _ (A0.later hw') Try.underlying24 rfl (by kernel_rfl)) ?_; simp only [Act.put, List.setIfInBounds_toArray, List.set_cons_zero, List.set_cons_succ])
            (refine tree_load rfl rfl (⟨w.heap.size + 1, 0, none⟩) (by kernel_rfl) (.agg #[.slice a1_0 x1_0.length c1_0, .slice a1_1 x1_1.length c1_1, .slice a1_2 x1_2.length c1_2]) (fun w' hw' => run_loadVar_row w' _ _ _ _ _ _ (A1.later hw') Try.underlying36 rfl (by kernel_rfl)) ?_; simp only [Act.put, List.setIfInBounds_toArray, List.set_cons_zero, List.set_cons_succ])
            (refine tree_load rfl rfl (⟨w.heap.size + 1 + 1, 0, none⟩) (by kernel_rfl) (.agg #[.int .i64 fr2, .int .i64 ct2]) (fun w' hw' => run_loadVar_row w' _ _ _ _ _ _ (A2.later hw') Try.underlying26 rfl (by kernel_rfl)) ?_; simp only [Act.put, List.setIfInBounds_toArray, List.set_cons_zero, List.set_cons_succ])
            have g_ : Below V46.heap.size V46 V46.drew := below_drew V46
            generalize V46.drew = V47 at *
            refine tree_fork ?_ ?_
            · skip
              refine tree_call rfl rfl 14 #[] #[] rfl _ Try.func14 (by kernel_rfl) (by kernel_rfl) [.agg #[.int .i64 wd0, .int .i64 hi0, .bool wr0, .slice a0_0 x0_0.length c0_0, .slice a0_1 x0_1.length c0_1]] (by kernel_rfl) #[.agg #[.int .i64 wd0, .int .i64 hi0, .bool wr0, .slice a0_0 x0_0.length c0_0, .slice a0_1 x0_1.length c0_1]] (by simp) _ (toSheet_any _ _ _ _ _ _ _ _ _ _ (r0_0.later (HB.out.trans (Below.mono g_ HB.out.size))) (r0_1.later (HB.out.trans (Below.mono g_ HB.out.size))) n0_0 n0_1) ?_
              rintro e V48 ⟨gh0_0, gh0_1, rfl, Ch0⟩
              have q0 := Ch0.below
              refine ⟨_, rfl, below_next g_ q0, ?_⟩
              simp only [Act.put, List.setIfInBounds_toArray, List.set_cons_zero, List.set_cons_succ]
              replace g_ := below_next g_ q0
              have lq0 := q0.size
              refine tree_fork ?_ ?_
              · skip
                refine tree_call rfl rfl 20 #[] #[] rfl _ Try.func20 (by kernel_rfl) (by kernel_rfl) [.agg #[.slice a1_0 x1_0.length c1_0, .slice a1_1 x1_1.length c1_1, .slice a1_2 x1_2.length c1_2]] (by kernel_rfl) #[.agg #[.slice a1_0 x1_0.length c1_0, .slice a1_1 x1_1.length c1_1, .slice a1_2 x1_2.length c1_2]] (by simp) _ (toField_any _ _ _ _ _ _ _ _ _ _ (r1_0.later (HB.out.trans (Below.mono g_ HB.out.size))) (r1_1.later (HB.out.trans (Below.mono g_ HB.out.size))) (r1_2.later (HB.out.trans (Below.mono g_ HB.out.size))) n1_0 n1_1 n1_2) ?_
                rintro e V49 ⟨gh1_0, gh1_1, gh1_2, rfl, Ch1⟩
                have q1 := Ch1.below
                refine ⟨_, rfl, below_next g_ q1, ?_⟩
                simp only [Act.put, List.setIfInBounds_toArray, List.set_cons_zero, List.set_cons_succ]
                replace g_ := below_next g_ q1
                have lq1 := q1.size
                refine tree_fork ?_ ?_
                · skip
                  refine tree_call rfl rfl 15 #[] #[] rfl _ Try.func15 (by kernel_rfl) (by kernel_rfl) [.agg #[.int .i64 fr2, .int .i64 ct2]] (by kernel_rfl) #[.agg #[.int .i64 fr2, .int .i64 ct2]] (by simp) _ (toStrip_any _ _ _  ) ?_
                  rintro e V50 ⟨rfl, Ch2⟩
                  have q2 := Ch2
                  refine ⟨_, rfl, below_next g_ q2, ?_⟩
                  simp only [Act.put, List.setIfInBounds_toArray, List.set_cons_zero, List.set_cons_succ]
                  replace g_ := below_next g_ q2
                  have lq2 := q2.size
                  refine tree_fork ?_ ?_
                  · skip
                    have lg0 := Below.size g_
                    refine tree_call rfl rfl 49 #[] #[] rfl _ Try.func49 (by kernel_rfl) (by kernel_rfl) [.agg #[.int .i64 wd0, .int .i64 hi0, .bool wr0, .slice (some ⟨gh0_0, 0, none⟩) x0_0.length x0_0.length, .slice (some ⟨gh0_1, 0, none⟩) x0_1.length x0_1.length], .agg #[.slice (some ⟨gh1_0, 0, none⟩) x1_0.length x1_0.length, .slice (some ⟨gh1_1, 0, none⟩) x1_1.length x1_1.length, .slice (some ⟨gh1_2, 0, none⟩) x1_2.length x1_2.length], .agg #[.int .i64 fr2, .int .i64 ct2]] (by kernel_rfl) #[.agg #[.int .i64 wd0, .int .i64 hi0, .bool wr0, .slice (some ⟨gh0_0, 0, none⟩) x0_0.length x0_0.length, .slice (some ⟨gh0_1, 0, none⟩) x0_1.length x0_1.length], .agg #[.slice (some ⟨gh1_0, 0, none⟩) x1_0.length x1_0.length, .slice (some ⟨gh1_1, 0, none⟩) x1_1.length x1_1.length, .slice (some ⟨gh1_2, 0, none⟩) x1_2.length x1_2.length], .agg #[.int .i64 fr2, .int .i64 ct2]] (by simp) _ (implStepStripL _ _ _ _ _ _ _ _ _ _ _ _ _ _ _ _ _ _ _ _ _ ((Ch0.o0.row.later q1).later q2) ((Ch0.o1.row.later q1).later q2) b0_0 b0_1 m0_0 m0_1 (Ch1.o0.row.later q2) (Ch1.o1.row.later q2) (Ch1.o2.row.later q2) b1_0 b1_1 b1_2 m1_0 m1_1 m1_2) ?_
                    rintro e V51 ⟨ah0, ah1, ah2, ch0, ch1, ch2, yh0, yh1, yh2, rfl, Gh⟩
                    have q3 := Gh.below
                    refine ⟨_, rfl, below_next g_ q3, ?_⟩
                    simp only [Act.put, List.setIfInBounds_toArray, List.set_cons_zero, List.set_cons_succ]
                    replace g_ := below_next g_ q3
                    have lq3 := q3.size
                    (refine tree_plain rfl rfl ?_ ?_ ?_; rotate_left; focus (intro w9; go_simp <;> with_reducible rfl)); (simp only [Act.put, List.setIfInBounds_toArray, List.set_cons_zero, List.set_cons_succ])
                    (refine tree_plain rfl rfl ?_ ?_ ?_; rotate_left; focus (intro w9; go_simp <;> with_reducible rfl)); (simp only [Act.put, List.setIfInBounds_toArray, List.set_cons_zero, List.set_cons_succ])
                    (refine tree_plain rfl rfl ?_ ?_ ?_; rotate_left; focus (intro w9; go_simp <;> with_reducible rfl)); (simp only [Act.put, List.setIfInBounds_toArray, List.set_cons_zero, List.set_cons_succ])
                    refine tree_make rfl rfl (.pointer (some ⟨V51.heap.size, 0, none⟩)) (V51.alloc (.cells #[.slice none 0 0, .slice none 0 0, .slice none 0 0] 38)) (by go_simp <;> with_reducible rfl) (below_next g_ (below_new _ _)) ?_
                    simp only [Act.put, List.setIfInBounds_toArray, List.set_cons_zero, List.set_cons_succ]
                    have lg := Below.size g_
                    refine ⟨_, rfl, ?_⟩
                    go_wp2_with fail
                    refine And.intro ?_ ?_
                    · exact below_next g_ (below_new _ _)
                    change wpList _ _ _ _ _ _
                    (try simp only [List.drop_succ_cons, List.drop_zero])
                    go_wp2_with fail
                    refine NoPanic.normal ?_
                    go_wp2
                    go_meet
                    case rel =>
                      refine ⟨_, ah0, ah1, ah2, ch0, ch1, ch2, yh0, yh1, yh2, rfl, rfl, ?_⟩
                      exact MetField.last g_ Gh.o0 Gh.o1 Gh.o2 Gh.s0 Gh.s1 Gh.s2
                  · skip
                    refine tree_make rfl rfl (.pointer (some ⟨V50.heap.size, 0, none⟩)) (V50.alloc (.cells #[.slice none 0 0, .slice none 0 0, .slice none 0 0] 38)) (by go_simp <;> with_reducible rfl) (below_next g_ (below_new _ _)) ?_
                    simp only [Act.put, List.setIfInBounds_toArray, List.set_cons_zero, List.set_cons_succ]
                    have ln : V50.heap.size < (V50.alloc (.cells #[.slice none 0 0, .slice none 0 0, .slice none 0 0] 38)).heap.size := lt_here _ _
                    have bx := Blk.new V50 #[.slice none 0 0, .slice none 0 0, .slice none 0 0] 38
                    have qn := below_new V50 (.cells #[.slice none 0 0, .slice none 0 0, .slice none 0 0] 38)
                    have lg := Below.size g_
                    replace g_ := below_next g_ qn
                    generalize V50.alloc (.cells #[.slice none 0 0, .slice none 0 0, .slice none 0 0] 38) = V52 at *
                    have lg0 := Below.size g_
                    refine tree_call rfl rfl 49 #[] #[] rfl _ Try.func49 (by kernel_rfl) (by kernel_rfl) [.agg #[.int .i64 wd0, .int .i64 hi0, .bool wr0, .slice (some ⟨gh0_0, 0, none⟩) x0_0.length x0_0.length, .slice (some ⟨gh0_1, 0, none⟩) x0_1.length x0_1.length], .agg #[.slice (some ⟨gh1_0, 0, none⟩) x1_0.length x1_0.length, .slice (some ⟨gh1_1, 0, none⟩) x1_1.length x1_1.length, .slice (some ⟨gh1_2, 0, none⟩) x1_2.length x1_2.length], .agg #[.int .i64 fr2, .int .i64 ct2]] (by kernel_rfl) #[.agg #[.int .i64 wd0, .int .i64 hi0, .bool wr0, .slice (some ⟨gh0_0, 0, none⟩) x0_0.length x0_0.length, .slice (some ⟨gh0_1, 0, none⟩) x0_1.length x0_1.length], .agg #[.slice (some ⟨gh1_0, 0, none⟩) x1_0.length x1_0.length, .slice (some ⟨gh1_1, 0, none⟩) x1_1.length x1_1.length, .slice (some ⟨gh1_2, 0, none⟩) x1_2.length x1_2.length], .agg #[.int .i64 fr2, .int .i64 ct2]] (by simp) _ (implStepStripL _ _ _ _ _ _ _ _ _ _ _ _ _ _ _ _ _ _ _ _ _ (((Ch0.o0.row.later q1).later q2).later qn) (((Ch0.o1.row.later q1).later q2).later qn) b0_0 b0_1 m0_0 m0_1 ((Ch1.o0.row.later q2).later qn) ((Ch1.o1.row.later q2).later qn) ((Ch1.o2.row.later q2).later qn) b1_0 b1_1 b1_2 m1_0 m1_1 m1_2) ?_
                    rintro e V53 ⟨ah0, ah1, ah2, ch0, ch1, ch2, yh0, yh1, yh2, rfl, Gh⟩
                    have q3 := Gh.below
                    refine ⟨_, rfl, below_next g_ q3, ?_⟩
                    simp only [Act.put, List.setIfInBounds_toArray, List.set_cons_zero, List.set_cons_succ]
                    replace g_ := below_next g_ q3
                    have lq3 := q3.size
                    replace bx := bx.later q3
                    (refine tree_plain rfl rfl ?_ ?_ ?_; rotate_left; focus (intro w9; go_simp <;> with_reducible rfl)); (simp only [Act.put, List.setIfInBounds_toArray, List.set_cons_zero, List.set_cons_succ])
                    (refine tree_plain rfl rfl ?_ ?_ ?_; rotate_left; focus (intro w9; go_simp <;> with_reducible rfl)); (simp only [Act.put, List.setIfInBounds_toArray, List.set_cons_zero, List.set_cons_succ])
                    (refine tree_plain rfl rfl ?_ ?_ ?_; rotate_left; focus (intro w9; go_simp <;> with_reducible rfl)); (simp only [Act.put, List.setIfInBounds_toArray, List.set_cons_zero, List.set_cons_succ])
                    obtain ⟨bxc, bxf⟩ := bx.open
                    refine ⟨_, rfl, ?_⟩
                    go_wp2_with fail
                    refine And.intro ?_ ?_
                    · exact (((g_.setCell (p := ⟨_, 0, none⟩) lg _).setCell (p := ⟨_, 1, none⟩) lg _).setCell (p := ⟨_, 2, none⟩) lg _)
                    change wpList _ _ _ _ _ _
                    (try simp only [List.drop_succ_cons, List.drop_zero])
                    go_wp2_with fail
                    refine NoPanic.normal ?_
                    go_wp2
                    go_meet
                    case rel =>
                      refine ⟨V50.heap.size, ah0, ah1, ah2, ch0, ch1, ch2, yh0, yh1, yh2, rfl, rfl, ?_⟩
                      exact MetField.early g_ (by omega) (by omega) bx Gh.o0 Gh.o1 Gh.o2 Gh.s0 Gh.s1 Gh.s2
                · skip
                  refine tree_make rfl rfl (.pointer (some ⟨V49.heap.size, 0, none⟩)) (V49.alloc (.cells #[.slice none 0 0, .slice none 0 0, .slice none 0 0] 38)) (by go_simp <;> with_reducible rfl) (below_next g_ (below_new _ _)) ?_
                  simp only [Act.put, List.setIfInBounds_toArray, List.set_cons_zero, List.set_cons_succ]
                  have ln : V49.heap.size < (V49.alloc (.cells #[.slice none 0 0, .slice none 0 0, .slice none 0 0] 38)).heap.size := lt_here _ _
                  have bx := Blk.new V49 #[.slice none 0 0, .slice none 0 0, .slice none 0 0] 38
                  have qn := below_new V49 (.cells #[.slice none 0 0, .slice none 0 0, .slice none 0 0] 38)
                  have lg := Below.size g_
                  replace g_ := below_next g_ qn
                  generalize V49.alloc (.cells #[.slice none 0 0, .slice none 0 0, .slice none 0 0] 38) = V54 at *
                  refine tree_call rfl rfl 15 #[] #[] rfl _ Try.func15 (by kernel_rfl) (by kernel_rfl) [.agg #[.int .i64 fr2, .int .i64 ct2]] (by kernel_rfl) #[.agg #[.int .i64 fr2, .int .i64 ct2]] (by simp) _ (toStrip_any _ _ _  ) ?_
                  rintro e V55 ⟨rfl, Ch2⟩
                  have q2 := Ch2
                  refine ⟨_, rfl, below_next g_ q2, ?_⟩
                  simp only [Act.put, List.setIfInBounds_toArray, List.set_cons_zero, List.set_cons_succ]
                  replace g_ := below_next g_ q2
                  have lq2 := q2.size
                  replace bx := bx.later q2
                  have lg0 := Below.size g_
                  refine tree_call rfl rfl 49 #[] #[] rfl _ Try.func49 (by kernel_rfl) (by kernel_rfl) [.agg #[.int .i64 wd0, .int .i64 hi0, .bool wr0, .slice (some ⟨gh0_0, 0, none⟩) x0_0.length x0_0.length, .slice (some ⟨gh0_1, 0, none⟩) x0_1.length x0_1.length], .agg #[.slice (some ⟨gh1_0, 0, none⟩) x1_0.length x1_0.length, .slice (some ⟨gh1_1, 0, none⟩) x1_1.length x1_1.length, .slice (some ⟨gh1_2, 0, none⟩) x1_2.length x1_2.length], .agg #[.int .i64 fr2, .int .i64 ct2]] (by kernel_rfl) #[.agg #[.int .i64 wd0, .int .i64 hi0, .bool wr0, .slice (some ⟨gh0_0, 0, none⟩) x0_0.length x0_0.length, .slice (some ⟨gh0_1, 0, none⟩) x0_1.length x0_1.length], .agg #[.slice (some ⟨gh1_0, 0, none⟩) x1_0.length x1_0.length, .slice (some ⟨gh1_1, 0, none⟩) x1_1.length x1_1.length, .slice (some ⟨gh1_2, 0, none⟩) x1_2.length x1_2.length], .agg #[.int .i64 fr2, .int .i64 ct2]] (by simp) _ (implStepStripL _ _ _ _ _ _ _ _ _ _ _ _ _ _ _ _ _ _ _ _ _ (((Ch0.o0.row.later q1).later qn).later q2) (((Ch0.o1.row.later q1).later qn).later q2) b0_0 b0_1 m0_0 m0_1 ((Ch1.o0.row.later qn).later q2) ((Ch1.o1.row.later qn).later q2) ((Ch1.o2.row.later qn).later q2) b1_0 b1_1 b1_2 m1_0 m1_1 m1_2) ?_
                  rintro e V56 ⟨ah0, ah1, ah2, ch0, ch1, ch2, yh0, yh1, yh2, rfl, Gh⟩
                  have q3 := Gh.below
                  refine ⟨_, rfl, below_next g_ q3, ?_⟩
                  simp only [Act.put, List.setIfInBounds_toArray, List.set_cons_zero, List.set_cons_succ]
                  replace g_ := below_next g_ q3
                  have lq3 := q3.size
                  replace bx := bx.later q3
                  (refine tree_plain rfl rfl ?_ ?_ ?_; rotate_left; focus (intro w9; go_simp <;> with_reducible rfl)); (simp only [Act.put, List.setIfInBounds_toArray, List.set_cons_zero, List.set_cons_succ])
                  (refine tree_plain rfl rfl ?_ ?_ ?_; rotate_left; focus (intro w9; go_simp <;> with_reducible rfl)); (simp only [Act.put, List.setIfInBounds_toArray, List.set_cons_zero, List.set_cons_succ])
                  (refine tree_plain rfl rfl ?_ ?_ ?_; rotate_left; focus (intro w9; go_simp <;> with_reducible rfl)); (simp only [Act.put, List.setIfInBounds_toArray, List.set_cons_zero, List.set_cons_succ])
                  obtain ⟨bxc, bxf⟩ := bx.open
                  refine ⟨_, rfl, ?_⟩
                  go_wp2_with fail
                  refine And.intro ?_ ?_
                  · exact (((g_.setCell (p := ⟨_, 0, none⟩) lg _).setCell (p := ⟨_, 1, none⟩) lg _).setCell (p := ⟨_, 2, none⟩) lg _)
                  change wpList _ _ _ _ _ _
                  (try simp only [List.drop_succ_cons, List.drop_zero])
                  go_wp2_with fail
                  refine NoPanic.normal ?_
                  go_wp2
                  go_meet
                  case rel =>
                    refine ⟨V49.heap.size, ah0, ah1, ah2, ch0, ch1, ch2, yh0, yh1, yh2, rfl, rfl, ?_⟩
                    exact MetField.early g_ (by omega) (by omega) bx Gh.o0 Gh.o1 Gh.o2 Gh.s0 Gh.s1 Gh.s2
              · skip
                refine tree_make rfl rfl (.pointer (some ⟨V48.heap.size, 0, none⟩)) (V48.alloc (.cells #[.slice none 0 0, .slice none 0 0, .slice none 0 0] 38)) (by go_simp <;> with_reducible rfl) (below_next g_ (below_new _ _)) ?_
                simp only [Act.put, List.setIfInBounds_toArray, List.set_cons_zero, List.set_cons_succ]
                have ln : V48.heap.size < (V48.alloc (.cells #[.slice none 0 0, .slice none 0 0, .slice none 0 0] 38)).heap.size := lt_here _ _
                have bx := Blk.new V48 #[.slice none 0 0, .slice none 0 0, .slice none 0 0] 38
                have qn := below_new V48 (.cells #[.slice none 0 0, .slice none 0 0, .slice none 0 0] 38)
                have lg := Below.size g_
                replace g_ := below_next g_ qn
                generalize V48.alloc (.cells #[.slice none 0 0, .slice none 0 0, .slice none 0 0] 38) = V57 at *
                refine tree_call rfl rfl 20 #[] #[] rfl _ Try.func20 (by kernel_rfl) (by kernel_rfl) [.agg #[.slice a1_0 x1_0.length c1_0, .slice a1_1 x1_1.length c1_1, .slice a1_2 x1_2.length c1_2]] (by kernel_rfl) #[.agg #[.slice a1_0 x1_0.length c1_0, .slice a1_1 x1_1.length c1_1, .slice a1_2 x1_2.length c1_2]] (by simp) _ (toField_any _ _ _ _ _ _ _ _ _ _ (r1_0.later (HB.out.trans (Below.mono g_ HB.out.size))) (r1_1.later (HB.out.trans (Below.mono g_ HB.out.size))) (r1_2.later (HB.out.trans (Below.mono g_ HB.out.size))) n1_0 n1_1 n1_2) ?_
                rintro e V58 ⟨gh1_0, gh1_1, gh1_2, rfl, Ch1⟩
                have q1 := Ch1.below
                refine ⟨_, rfl, below_next g_ q1, ?_⟩
                simp only [Act.put, List.setIfInBounds_toArray, List.set_cons_zero, List.set_cons_succ]
                replace g_ := below_next g_ q1
                have lq1 := q1.size
                replace bx := bx.later q1
                refine tree_call rfl rfl 15 #[] #[] rfl _ Try.func15 (by kernel_rfl) (by kernel_rfl) [.agg #[.int .i64 fr2, .int .i64 ct2]] (by kernel_rfl) #[.agg #[.int .i64 fr2, .int .i64 ct2]] (by simp) _ (toStrip_any _ _ _  ) ?_
                rintro e V59 ⟨rfl, Ch2⟩
                have q2 := Ch2
                refine ⟨_, rfl, below_next g_ q2, ?_⟩
                simp only [Act.put, List.setIfInBounds_toArray, List.set_cons_zero, List.set_cons_succ]
                replace g_ := below_next g_ q2
                have lq2 := q2.size
                replace bx := bx.later q2
                have lg0 := Below.size g_
                refine tree_call rfl rfl 49 #[] #[] rfl _ Try.func49 (by kernel_rfl) (by kernel_rfl) [.agg #[.int .i64 wd0, .int .i64 hi0, .bool wr0, .slice (some ⟨gh0_0, 0, none⟩) x0_0.length x0_0.length, .slice (some ⟨gh0_1, 0, none⟩) x0_1.length x0_1.length], .agg #[.slice (some ⟨gh1_0, 0, none⟩) x1_0.length x1_0.length, .slice (some ⟨gh1_1, 0, none⟩) x1_1.length x1_1.length, .slice (some ⟨gh1_2, 0, none⟩) x1_2.length x1_2.length], .agg #[.int .i64 fr2, .int .i64 ct2]] (by kernel_rfl) #[.agg #[.int .i64 wd0, .int .i64 hi0, .bool wr0, .slice (some ⟨gh0_0, 0, none⟩) x0_0.length x0_0.length, .slice (some ⟨gh0_1, 0, none⟩) x0_1.length x0_1.length], .agg #[.slice (some ⟨gh1_0, 0, none⟩) x1_0.length x1_0.length, .slice (some ⟨gh1_1, 0, none⟩) x1_1.length x1_1.length, .slice (some ⟨gh1_2, 0, none⟩) x1_2.length x1_2.length], .agg #[.int .i64 fr2, .int .i64 ct2]] (by simp) _ (implStepStripL _ _ _ _ _ _ _ _ _ _ _ _ _ _ _ _ _ _ _ _ _ (((Ch0.o0.row.later qn).later q1).later q2) (((Ch0.o1.row.later qn).later q1).later q2) b0_0 b0_1 m0_0 m0_1 (Ch1.o0.row.later q2) (Ch1.o1.row.later q2) (Ch1.o2.row.later q2) b1_0 b1_1 b1_2 m1_0 m1_1 m1_2) ?_
                rintro e V60 ⟨ah0, ah1, ah2, ch0, ch1, ch2, yh0, yh1, yh2, rfl, Gh⟩
                have q3 := Gh.below
                refine ⟨_, rfl, below_next g_ q3, ?_⟩
                simp only [Act.put, List.setIfInBounds_toArray, List.set_cons_zero, List.set_cons_succ]
                replace g_ := below_next g_ q3
                have lq3 := q3.size
                replace bx := bx.later q3
                (refine tree_plain rfl rfl ?_ ?_ ?_; rotate_left; focus (intro w9; go_simp <;> with_reducible rfl)); (simp only [Act.put, List.setIfInBounds_toArray, List.set_cons_zero, List.set_cons_succ])
                (refine tree_plain rfl rfl ?_ ?_ ?_; rotate_left; focus (intro w9; go_simp <;> with_reducible rfl)); (simp only [Act.put, List.setIfInBounds_toArray, List.set_cons_zero, List.set_cons_succ])
                (refine tree_plain rfl rfl ?_ ?_ ?_; rotate_left; focus (intro w9; go_simp <;> with_reducible rfl)); (simp only [Act.put, List.setIfInBounds_toArray, List.set_cons_zero, List.set_cons_succ])
                obtain ⟨bxc, bxf⟩ := bx.open
                refine ⟨_, rfl, ?_⟩
                go_wp2_with fail
                refine And.intro ?_ ?_
                · exact (((g_.setCell (p := ⟨_, 0, none⟩) lg _).setCell (p := ⟨_, 1, none⟩) lg _).setCell (p := ⟨_, 2, none⟩) lg _)
                change wpList _ _ _ _ _ _
                (try simp only [List.drop_succ_cons, List.drop_zero])
                go_wp2_with fail
                refine NoPanic.normal ?_
                go_wp2
                go_meet
                case rel =>
                  refine ⟨V48.heap.size, ah0, ah1, ah2, ch0, ch1, ch2, yh0, yh1, yh2, rfl, rfl, ?_⟩
                  exact MetField.early g_ (by omega) (by omega) bx Gh.o0 Gh.o1 Gh.o2 Gh.s0 Gh.s1 Gh.s2
            · skip
              refine tree_make rfl rfl (.pointer (some ⟨V47.heap.size, 0, none⟩)) (V47.alloc (.cells #[.slice none 0 0, .slice none 0 0, .slice none 0 0] 38)) (by go_simp <;> with_reducible rfl) (below_next g_ (below_new _ _)) ?_
              simp only [Act.put, List.setIfInBounds_toArray, List.set_cons_zero, List.set_cons_succ]
              have ln : V47.heap.size < (V47.alloc (.cells #[.slice none 0 0, .slice none 0 0, .slice none 0 0] 38)).heap.size := lt_here _ _
              have bx := Blk.new V47 #[.slice none 0 0, .slice none 0 0, .slice none 0 0] 38
              have qn := below_new V47 (.cells #[.slice none 0 0, .slice none 0 0, .slice none 0 0] 38)
              have lg := Below.size g_
              replace g_ := below_next g_ qn
              generalize V47.alloc (.cells #[.slice none 0 0, .slice none 0 0, .slice none 0 0] 38) = V61 at *
              refine tree_call rfl rfl 14 #[] #[] rfl _ Try.func14 (by kernel_rfl) (by kernel_rfl) [.agg #[.int .i64 wd0, .int .i64 hi0, .bool wr0, .slice a0_0 x0_0.length c0_0, .slice a0_1 x0_1.length c0_1]] (by kernel_rfl) #[.agg #[.int .i64 wd0, .int .i64 hi0, .bool wr0, .slice a0_0 x0_0.length c0_0, .slice a0_1 x0_1.length c0_1]] (by simp) _ (toSheet_any _ _ _ _ _ _ _ _ _ _ (r0_0.later (HB.out.trans (Below.mono g_ HB.out.size))) (r0_1.later (HB.out.trans (Below.mono g_ HB.out.size))) n0_0 n0_1) ?_
              rintro e V62 ⟨gh0_0, gh0_1, rfl, Ch0⟩
              have q0 := Ch0.below
              refine ⟨_, rfl, below_next g_ q0, ?_⟩
              simp only [Act.put, List.setIfInBounds_toArray, List.set_cons_zero, List.set_cons_succ]
              replace g_ := below_next g_ q0
              have lq0 := q0.size
              replace bx := bx.later q0
              refine tree_call rfl rfl 20 #[] #[] rfl _ Try.func20 (by kernel_rfl) (by kernel_rfl) [.agg #[.slice a1_0 x1_0.length c1_0, .slice a1_1 x1_1.length c1_1, .slice a1_2 x1_2.length c1_2]] (by kernel_rfl) #[.agg #[.slice a1_0 x1_0.length c1_0, .slice a1_1 x1_1.length c1_1, .slice a1_2 x1_2.length c1_2]] (by simp) _ (toField_any _ _ _ _ _ _ _ _ _ _ (r1_0.later (HB.out.trans (Below.mono g_ HB.out.size))) (r1_1.later (HB.out.trans (Below.mono g_ HB.out.size))) (r1_2.later (HB.out.trans (Below.mono g_ HB.out.size))) n1_0 n1_1 n1_2) ?_
              rintro e V63 ⟨gh1_0, gh1_1, gh1_2, rfl, Ch1⟩
              have q1 := Ch1.below
              refine ⟨_, rfl, below_next g_ q1, ?_⟩
              simp only [Act.put, List.setIfInBounds_toArray, List.set_cons_zero, List.set_cons_succ]
              replace g_ := below_next g_ q1
              have lq1 := q1.size
              replace bx := bx.later q1
              refine tree_call rfl rfl 15 #[] #[] rfl _ Try.func15 (by kernel_rfl) (by kernel_rfl) [.agg #[.int .i64 fr2, .int .i64 ct2]] (by kernel_rfl) #[.agg #[.int .i64 fr2, .int .i64 ct2]] (by simp) _ (toStrip_any _ _ _  ) ?_
              rintro e V64 ⟨rfl, Ch2⟩
              have q2 := Ch2
              refine ⟨_, rfl, below_next g_ q2, ?_⟩
              simp only [Act.put, List.setIfInBounds_toArray, List.set_cons_zero, List.set_cons_succ]
              replace g_ := below_next g_ q2
              have lq2 := q2.size
              replace bx := bx.later q2
              have lg0 := Below.size g_
              refine tree_call rfl rfl 49 #[] #[] rfl _ Try.func49 (by kernel_rfl) (by kernel_rfl) [.agg #[.int .i64 wd0, .int .i64 hi0, .bool wr0, .slice (some ⟨gh0_0, 0, none⟩) x0_0.length x0_0.length, .slice (some ⟨gh0_1, 0, none⟩) x0_1.length x0_1.length], .agg #[.slice (some ⟨gh1_0, 0, none⟩) x1_0.length x1_0.length, .slice (some ⟨gh1_1, 0, none⟩) x1_1.length x1_1.length, .slice (some ⟨gh1_2, 0, none⟩) x1_2.length x1_2.length], .agg #[.int .i64 fr2, .int .i64 ct2]] (by kernel_rfl) #[.agg #[.int .i64 wd0, .int .i64 hi0, .bool wr0, .slice (some ⟨gh0_0, 0, none⟩) x0_0.length x0_0.length, .slice (some ⟨gh0_1, 0, none⟩) x0_1.length x0_1.length], .agg #[.slice (some ⟨gh1_0, 0, none⟩) x1_0.length x1_0.length, .slice (some ⟨gh1_1, 0, none⟩) x1_1.length x1_1.length, .slice (some ⟨gh1_2, 0, none⟩) x1_2.length x1_2.length], .agg #[.int .i64 fr2, .int .i64 ct2]] (by simp) _ (implStepStripL _ _ _ _ _ _ _ _ _ _ _ _ _ _ _ _ _ _ _ _ _ ((Ch0.o0.row.later q1).later q2) ((Ch0.o1.row.later q1).later q2) b0_0 b0_1 m0_0 m0_1 (Ch1.o0.row.later q2) (Ch1.o1.row.later q2) (Ch1.o2.row.later q2) b1_0 b1_1 b1_2 m1_0 m1_1 m1_2) ?_
              rintro e V65 ⟨ah0, ah1, ah2, ch0, ch1, ch2, yh0, yh1, yh2, rfl, Gh⟩
              have q3 := Gh.below
              refine ⟨_, rfl, below_next g_ q3, ?_⟩
              simp only [Act.put, List.setIfInBounds_toArray, List.set_cons_zero, List.set_cons_succ]
              replace g_ := below_next g_ q3
              have lq3 := q3.size
              replace bx := bx.later q3
              (refine tree_plain rfl rfl ?_ ?_ ?_; rotate_left; focus (intro w9; go_simp <;> with_reducible rfl)); (simp only [Act.put, List.setIfInBounds_toArray, List.set_cons_zero, List.set_cons_succ])
              (refine tree_plain rfl rfl ?_ ?_ ?_; rotate_left; focus (intro w9; go_simp <;> with_reducible rfl)); (simp only [Act.put, List.setIfInBounds_toArray, List.set_cons_zero, List.set_cons_succ])
              (refine tree_plain rfl rfl ?_ ?_ ?_; rotate_left; focus (intro w9; go_simp <;> with_reducible rfl)); (simp only [Act.put, List.setIfInBounds_toArray, List.set_cons_zero, List.set_cons_succ])
              obtain ⟨bxc, bxf⟩ := bx.open
              refine ⟨_, rfl, ?_⟩
              go_wp2_with fail
              refine And.intro ?_ ?_
              · exact (((g_.setCell (p := ⟨_, 0, none⟩) lg _).setCell (p := ⟨_, 1, none⟩) lg _).setCell (p := ⟨_, 2, none⟩) lg _)
              change wpList _ _ _ _ _ _
              (try simp only [List.drop_succ_cons, List.drop_zero])
              go_wp2_with fail
              refine NoPanic.normal ?_
              go_wp2
              go_meet
              case rel =>
                refine ⟨V47.heap.size, ah0, ah1, ah2, ch0, ch1, ch2, yh0, yh1, yh2, rfl, rfl, ?_⟩
                exact MetField.early g_ (by omega) (by omega) bx Gh.o0 Gh.o1 Gh.o2 Gh.s0 Gh.s1 Gh.s2
          case rest =>
            obtain ⟨bwh, ah0, ah1, ah2, ch0, ch1, ch2, yh0, yh1, yh2, rfl, rfl, Gh⟩ := hcut
            generalize wc = V66 at *
            have q := Gh.below
            replace A0 := A0.later q
            replace A1 := A1.later q
            replace A2 := A2.later q
            replace Bw := Bw.later q
            replace X0 := X0.later q
            replace X1 := X1.later q
            replace Bi := Bi.later q
            replace Rw0 := Lib.hid (Rw0.out.later q)
            replace Rw1 := Lib.hid (Rw1.out.later q)
            replace Rw2 := Lib.hid (Rw2.out.later q)
            replace O0_0 := Lib.hid (O0_0.out.later q)
            replace O0_1 := Lib.hid (O0_1.out.later q)
            replace O1_0 := Lib.hid (O1_0.out.later q)
            replace O1_1 := Lib.hid (O1_1.out.later q)
            replace O1_2 := Lib.hid (O1_2.out.later q)
            replace Ri0 := Lib.hid (Ri0.out.later q)
            replace Ri1 := Lib.hid (Ri1.out.later q)
            replace Ri2 := Lib.hid (Ri2.out.later q)
            replace HB := Lib.hid (HB.out.trans (q.mono HB.out.size))
            have sz66 : V46.heap.size ≤ V66.heap.size := q.size
            clear q
            have Rh0 := Lib.hid Gh.r0
            have lwh0 := Gh.r0.low
            have Rh1 := Lib.hid Gh.r1
            have lwh1 := Gh.r1.low
            have Rh2 := Lib.hid Gh.r2
            have lwh2 := Gh.r2.low
            have Bh := Gh.box
            have sblh := Gh.le; have sbhh := Bh.lt
            have Sh0 := Lib.hid Gh.s0
            have Sh1 := Lib.hid Gh.s1
            have Sh2 := Lib.hid Gh.s2
            obtain ⟨Bhc, Bhf⟩ := Bh.open
            obtain ⟨Bwc, Bwf⟩ := Bw.open
            go_wp2_with fail
            refine (eqField_any _ _ _ _ _ _ _ _ _ _ _ _ _ _ _ _ _ _ _ Rh0.out Rh1.out Rh2.out Rw0.out Rw1.out Rw2.out (Sh0.out.same Sw0.out) (Sh1.out.same Sw1.out) (Sh2.out.same Sw2.out) (few_max Sh0.out) (few_max Sh1.out) (few_max Sh2.out)).mono ?_
            rintro e V67 ⟨rfl, q⟩
            clear Bhc Bhf
            clear Bwc Bwf
            replace A0 := A0.later q
            replace A1 := A1.later q
            replace A2 := A2.later q
            replace Bw := Bw.later q
            replace X0 := X0.later q
            replace X1 := X1.later q
            replace Bi := Bi.later q
            replace Bh := Bh.later q
            replace Rw0 := Lib.hid (Rw0.out.later q)
            replace Rw1 := Lib.hid (Rw1.out.later q)
            replace Rw2 := Lib.hid (Rw2.out.later q)
            replace O0_0 := Lib.hid (O0_0.out.later q)
            replace O0_1 := Lib.hid (O0_1.out.later q)
            replace O1_0 := Lib.hid (O1_0.out.later q)
            replace O1_1 := Lib.hid (O1_1.out.later q)
            replace O1_2 := Lib.hid (O1_2.out.later q)
            replace Ri0 := Lib.hid (Ri0.out.later q)
            replace Ri1 := Lib.hid (Ri1.out.later q)
            replace Ri2 := Lib.hid (Ri2.out.later q)
            replace Rh0 := Lib.hid (Rh0.out.later q)
            replace Rh1 := Lib.hid (Rh1.out.later q)
            replace Rh2 := Lib.hid (Rh2.out.later q)
            replace HB := Lib.hid (HB.out.trans (q.mono HB.out.size))
            have sz67 : V66.heap.size ≤ V67.heap.size := q.size
            clear q
            obtain ⟨Bic, Bif⟩ := Bi.open
            go_wp2_with fail
            refine (heldField_any  _ _ _ _ _ _ yi0.length yi1.length yi2.length 1 _ Ri0.out.row Ri1.out.row Ri2.out.row (by omega) (by omega)).mono ?_
            rintro e V68 ⟨rfl, q⟩
            clear Bic Bif
            replace A0 := A0.later q
            replace A1 := A1.later q
            replace A2 := A2.later q
            replace Bw := Bw.later q
            replace X0 := X0.later q
            replace X1 := X1.later q
            replace Bi := Bi.later q
            replace Bh := Bh.later q
            replace Rw0 := Lib.hid (Rw0.out.later q)
            replace Rw1 := Lib.hid (Rw1.out.later q)
            replace Rw2 := Lib.hid (Rw2.out.later q)
            replace O0_0 := Lib.hid (O0_0.out.later q)
            replace O0_1 := Lib.hid (O0_1.out.later q)
            replace O1_0 := Lib.hid (O1_0.out.later q)
            replace O1_1 := Lib.hid (O1_1.out.later q)
            replace O1_2 := Lib.hid (O1_2.out.later q)
            replace Ri0 := Lib.hid (Ri0.out.later q)
            replace Ri1 := Lib.hid (Ri1.out.later q)
            replace Ri2 := Lib.hid (Ri2.out.later q)
            replace Rh0 := Lib.hid (Rh0.out.later q)
            replace Rh1 := Lib.hid (Rh1.out.later q)
            replace Rh2 := Lib.hid (Rh2.out.later q)
            replace HB := Lib.hid (HB.out.trans (q.mono HB.out.size))
            have sz68 : V67.heap.size ≤ V68.heap.size := q.size
            clear q
            go_wp2
            go_ret
            exact ⟨rfl, HB.out⟩
    · skip
      go_enter Try.func10, Try.ntmps10
      go_wp2_with fail
      generalize (((w.alloc (.cells #[.int .i64 wd0, .int .i64 hi0, .bool wr0, .slice a0_0 x0_0.length c0_0, .slice a0_1 x0_1.length c0_1] 24)).alloc (.cells #[.slice a1_0 x1_0.length c1_0, .slice a1_1 x1_1.length c1_1, .slice a1_2 x1_2.length c1_2] 36)).alloc (.cells #[.int .i64 fr2, .int .i64 ct2] 26)) = V1 at *
      obtain ⟨A0c, A0f⟩ := A0.open
      refine (szSheet_yes _ _ _ _ _ _ _ _ _ _ _ hs0 (by omega)).mono ?_
      rintro e V2 ⟨rfl, q⟩
      clear A0c A0f
      replace A0 := A0.later q
      replace A1 := A1.later q
      replace A2 := A2.later q
      replace HB := Lib.hid (HB.out.trans (q.mono HB.out.size))
      have sz2 : V1.heap.size ≤ V2.heap.size := q.size
      clear q
      obtain ⟨A1c, A1f⟩ := A1.open
      go_wp2_with fail
      refine (szField_no _ _ _ _ _ _ _ _ _ _ _ (by omega) (by omega) (by omega) m1_0 m1_1 m1_2).mono ?_
      rintro e V3 ⟨rfl, q⟩
      clear A1c A1f
      replace A0 := A0.later q
      replace A1 := A1.later q
      replace A2 := A2.later q
      replace HB := Lib.hid (HB.out.trans (q.mono HB.out.size))
      have sz3 : V2.heap.size ≤ V3.heap.size := q.size
      clear q
      go_wp2
      go_ret
      exact ⟨rfl, HB.out⟩
  · skip
    go_enter Try.func10, Try.ntmps10
    go_wp2_with fail
    generalize (((w.alloc (.cells #[.int .i64 wd0, .int .i64 hi0, .bool wr0, .slice a0_0 x0_0.length c0_0, .slice a0_1 x0_1.length c0_1] 24)).alloc (.cells #[.slice a1_0 x1_0.length c1_0, .slice a1_1 x1_1.length c1_1, .slice a1_2 x1_2.length c1_2] 36)).alloc (.cells #[.int .i64 fr2, .int .i64 ct2] 26)) = V1 at *
    obtain ⟨A0c, A0f⟩ := A0.open
    refine (szSheet_no _ _ _ _ _ _ _ _ _ _ _ (by omega) (by omega) (by omega) m0_0 m0_1).mono ?_
    rintro e V2 ⟨rfl, q⟩
    clear A0c A0f
    replace A0 := A0.later q
    replace A1 := A1.later q
    replace A2 := A2.later q
    replace HB := Lib.hid (HB.out.trans (q.mono HB.out.size))
    have sz2 : V1.heap.size ≤ V2.heap.size := q.size
    clear q
    go_wp2
    go_ret
    exact ⟨rfl, HB.out⟩
end Go.Proofs.Ytedfbaeajofmnaa
