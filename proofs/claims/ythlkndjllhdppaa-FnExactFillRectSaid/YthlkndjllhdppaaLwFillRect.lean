/- The walk of the law on FillRect. Conditions: none beyond those of each theorem. -/
import Derived.Test.YthlkndjllhdppaaBu6
import Derived.Test.YthlkndjllhdppaaFill
import Derived.Test.YthlkndjllhdppaaKit4
import Derived.Test.YthlkndjllhdppaaTree
import Derived.Test.YthlkndjllhdppaaBu17
namespace Go.Proofs.Ythlkndjllhdppaa
open Go Ieee Go.RowKit
set_option linter.unusedVariables false
set_option linter.unusedSimpArgs false

set_option maxHeartbeats 16000000 in
set_option maxRecDepth 100000 in
theorem fnExactFillRect_walk (wd0 : Int) (hi0 : Int) (wr0 : Bool) (a0_0 a0_1 : Option Addr) (c0_0 c0_1 : Nat) (x0_0 x0_1 : List Nat) (rx1 : Int) (ry1 : Int) (rw1 : Int) (rh1 : Int) (a2 : Nat) (a3 : Nat) (w : World) (r0_0 : RowV w a0_0 (fvals x0_0)) (r0_1 : RowV w a0_1 (fvals x0_1)) (b0_0 : ∀ x ∈ x0_0, x < 2 ^ 32) (b0_1 : ∀ x ∈ x0_1, x < 2 ^ 32) (m0_0 : x0_0.length ≤ maxLen) (m0_1 : x0_1.length ≤ maxLen) (w2 : a2 < 2 ^ 32) (w3 : a3 < 2 ^ 32) :
    Calls Try.prog 8 #[.agg #[.int .i64 wd0, .int .i64 hi0, .bool wr0, .slice a0_0 x0_0.length c0_0, .slice a0_1 x0_1.length c0_1], .agg #[.int .i64 rx1, .int .i64 ry1, .int .i64 rw1, .int .i64 rh1], .float .f32 a2, .float .f32 a3] w fun e w' => e = .returned (.bool true) ∧ Below w.heap.size w w' := by
  have A0 := Blk.new w #[.int .i64 wd0, .int .i64 hi0, .bool wr0, .slice a0_0 x0_0.length c0_0, .slice a0_1 x0_1.length c0_1] 24
  have A1 := Blk.new1 w (.cells #[.int .i64 wd0, .int .i64 hi0, .bool wr0, .slice a0_0 x0_0.length c0_0, .slice a0_1 x0_1.length c0_1] 24) #[.int .i64 rx1, .int .i64 ry1, .int .i64 rw1, .int .i64 rh1] 37
  replace A0 := A0.alloc (.cells #[.int .i64 rx1, .int .i64 ry1, .int .i64 rw1, .int .i64 rh1] 37)
  have HB : Hid (Below w.heap.size w ((w.alloc (.cells #[.int .i64 wd0, .int .i64 hi0, .bool wr0, .slice a0_0 x0_0.length c0_0, .slice a0_1 x0_1.length c0_1] 24)).alloc (.cells #[.int .i64 rx1, .int .i64 ry1, .int .i64 rw1, .int .i64 rh1] 37))) := Lib.hid (((Below.refl w.heap.size w).alloc (by simp <;> omega) _).alloc (by simp <;> omega) _)
  by_cases hs0 : (x0_0.length : Int) + (x0_1.length : Int) ≤ 1048576
  · skip
    have n0_0 : x0_0.length ≤ 1048576 := by omega
    have n0_1 : x0_1.length ≤ 1048576 := by omega
    go_enter Try.func8, Try.ntmps8
    go_wp2_with fail
    generalize ((w.alloc (.cells #[.int .i64 wd0, .int .i64 hi0, .bool wr0, .slice a0_0 x0_0.length c0_0, .slice a0_1 x0_1.length c0_1] 24)).alloc (.cells #[.int .i64 rx1, .int .i64 ry1, .int .i64 rw1, .int .i64 rh1] 37)) = V1 at *
    obtain ⟨A0c, A0f⟩ := A0.open
    refine (szSheet_yes _ _ _ _ _ _ _ _ _ _ _ hs0 (by omega)).mono ?_
    rintro e V2 ⟨rfl, q⟩
    clear A0c A0f
    replace A0 := A0.later q
    replace A1 := A1.later q
    replace HB := Lib.hid (HB.out.trans (q.mono HB.out.size))
    clear q
    have za0 := A0.lt
    have za1 := A1.lt
    have zh := HB.out.size
    obtain ⟨A0c, A0f⟩ := A0.open
    obtain ⟨A1c, A1f⟩ := A1.open
    go_upto_region 5 with (fail)
    clear A0c A0f
    clear A1c A1f
    clear hs0
    go_cut [10, 11] (fun sa sb wx => RelSheet V2 (.int .i64 (ifI (fillB wd0 hi0 x0_0 x0_1 rx1 ry1 rw1 rh1 a2 a3) wd0)) (.int .i64 (ifI (fillB wd0 hi0 x0_0 x0_1 rx1 ry1 rw1 rh1 a2 a3) hi0)) (.bool (ifB (fillB wd0 hi0 x0_0 x0_1 rx1 ry1 rw1 rh1 a2 a3) wr0)) (ifO (fillB wd0 hi0 x0_0 x0_1 rx1 ry1 rw1 rh1 a2 a3) (chgC (inP wd0 rx1 ry1 rw1 rh1) (fun _ => canon .f32 a2) x0_0)) (ifO (fillB wd0 hi0 x0_0 x0_1 rx1 ry1 rw1 rh1 a2 a3) (chgC (inP wd0 rx1 ry1 rw1 rh1) (fun _ => canon .f32 a3) x0_1)) (fillB wd0 hi0 x0_0 x0_1 rx1 ry1 rw1 rh1 a2 a3) sa sb wx)
    case first =>
      refine wp_region_noPanic ?_
      refine wp_region_tree (Grows V2) 12 (.take 0 (.take 2 (.take 4 (.take 5 (.fork 1 (.fork 3 (.fork 6 (.take 7 (.take 8 (.take 9 (.one 10 (.one 11 .done))))) 10 (.one 6 (.take 7 (.take 8 (.take 9 (.one 11 .done)))))) 10 (.one 3 (.one 6 (.take 7 (.take 8 (.take 9 (.one 11 .done))))))) 10 (.one 1 (.one 3 (.one 6 (.take 7 (.take 8 (.take 9 (.one 11 .done)))))))))))) (by kernel_rfl) (by kernel_rfl) (fun _ _ _ _ _ h => h) (Grows.drew _) ?_
      (refine tree_load rfl rfl (⟨w.heap.size, 0, none⟩) (by kernel_rfl) (.agg #[.int .i64 wd0, .int .i64 hi0, .bool wr0, .slice a0_0 x0_0.length c0_0, .slice a0_1 x0_1.length c0_1]) (fun w' hw' => run_loadVar_row w' _ _ _ _ _ _ (A0.later hw') Try.underlying24 rfl (by kernel_rfl)) ?_; simp only [Act.put, List.setIfInBounds_toArray, List.set_cons_zero, List.set_cons_succ])
      (refine tree_load rfl rfl (⟨w.heap.size + 1, 0, none⟩) (by kernel_rfl) (.agg #[.int .i64 rx1, .int .i64 ry1, .int .i64 rw1, .int .i64 rh1]) (fun w' hw' => run_loadVar_row w' _ _ _ _ _ _ (A1.later hw') Try.underlying37 rfl (by kernel_rfl)) ?_; simp only [Act.put, List.setIfInBounds_toArray, List.set_cons_zero, List.set_cons_succ])
      (refine tree_plain rfl rfl ?_ ?_ ?_; rotate_left; focus (intro w9; go_simp <;> with_reducible rfl)); (simp only [Act.put, List.setIfInBounds_toArray, List.set_cons_zero, List.set_cons_succ])
      (refine tree_plain rfl rfl ?_ ?_ ?_; rotate_left; focus (intro w9; go_simp <;> with_reducible rfl)); (simp only [Act.put, List.setIfInBounds_toArray, List.set_cons_zero, List.set_cons_succ])
      have g_ : Below V2.heap.size V2 V2.drew := below_drew V2
      generalize V2.drew = V3 at *
      refine tree_fork ?_ ?_
      · skip
        refine tree_call rfl rfl 17 #[] #[] rfl _ Try.func17 (by kernel_rfl) (by kernel_rfl) [.agg #[.int .i64 wd0, .int .i64 hi0, .bool wr0, .slice a0_0 x0_0.length c0_0, .slice a0_1 x0_1.length c0_1]] (by kernel_rfl) #[.agg #[.int .i64 wd0, .int .i64 hi0, .bool wr0, .slice a0_0 x0_0.length c0_0, .slice a0_1 x0_1.length c0_1]] (by simp) _ (toSheet_any _ _ _ _ _ _ _ _ _ _ (r0_0.later (HB.out.trans (Below.mono g_ HB.out.size))) (r0_1.later (HB.out.trans (Below.mono g_ HB.out.size))) n0_0 n0_1) ?_
        rintro e V4 ⟨gw0_0, gw0_1, rfl, Cw0⟩
        have q0 := Cw0.below
        refine ⟨_, rfl, below_next g_ q0, ?_⟩
        simp only [Act.put, List.setIfInBounds_toArray, List.set_cons_zero, List.set_cons_succ]
        replace g_ := below_next g_ q0
        have lq0 := q0.size
        refine tree_fork ?_ ?_
        · skip
          refine tree_call rfl rfl 25 #[] #[] rfl _ Try.func25 (by kernel_rfl) (by kernel_rfl) [.agg #[.int .i64 rx1, .int .i64 ry1, .int .i64 rw1, .int .i64 rh1]] (by kernel_rfl) #[.agg #[.int .i64 rx1, .int .i64 ry1, .int .i64 rw1, .int .i64 rh1]] (by simp) _ (toRect_any _ _ _ _ _  ) ?_
          rintro e V5 ⟨rfl, Cw1⟩
          have q1 := Cw1
          refine ⟨_, rfl, below_next g_ q1, ?_⟩
          simp only [Act.put, List.setIfInBounds_toArray, List.set_cons_zero, List.set_cons_succ]
          replace g_ := below_next g_ q1
          have lq1 := q1.size
          refine tree_fork ?_ ?_
          · skip
            have lg0 := Below.size g_
            refine tree_call rfl rfl 39 #[] #[] rfl _ Try.func39 (by kernel_rfl) (by kernel_rfl) [.agg #[.int .i64 wd0, .int .i64 hi0, .bool wr0, .slice (some ⟨gw0_0, 0, none⟩) x0_0.length x0_0.length, .slice (some ⟨gw0_1, 0, none⟩) x0_1.length x0_1.length], .agg #[.int .i64 rx1, .int .i64 ry1, .int .i64 rw1, .int .i64 rh1], .float .f32 a2, .float .f32 a3] (by kernel_rfl) #[.agg #[.int .i64 wd0, .int .i64 hi0, .bool wr0, .slice (some ⟨gw0_0, 0, none⟩) x0_0.length x0_0.length, .slice (some ⟨gw0_1, 0, none⟩) x0_1.length x0_1.length], .agg #[.int .i64 rx1, .int .i64 ry1, .int .i64 rw1, .int .i64 rh1], .float .f32 a2, .float .f32 a3] (by simp) _ (specFillRectL _ _ _ _ _ _ _ _ _ _ _ _ _ _ _ _ (Cw0.o0.row.later q1) (Cw0.o1.row.later q1) b0_0 b0_1 m0_0 m0_1 w2 w3) ?_
            rintro e V6 ⟨aw0, aw1, cw0, cw1, yw0, yw1, rfl, Gw⟩
            have q2 := Gw.below
            refine ⟨_, rfl, below_next g_ q2, ?_⟩
            simp only [Act.put, List.setIfInBounds_toArray, List.set_cons_zero, List.set_cons_succ]
            replace g_ := below_next g_ q2
            have lq2 := q2.size
            (refine tree_plain rfl rfl ?_ ?_ ?_; rotate_left; focus (intro w9; go_simp <;> with_reducible rfl)); (simp only [Act.put, List.setIfInBounds_toArray, List.set_cons_zero, List.set_cons_succ])
            (refine tree_plain rfl rfl ?_ ?_ ?_; rotate_left; focus (intro w9; go_simp <;> with_reducible rfl)); (simp only [Act.put, List.setIfInBounds_toArray, List.set_cons_zero, List.set_cons_succ])
            (refine tree_plain rfl rfl ?_ ?_ ?_; rotate_left; focus (intro w9; go_simp <;> with_reducible rfl)); (simp only [Act.put, List.setIfInBounds_toArray, List.set_cons_zero, List.set_cons_succ])
            refine tree_make rfl rfl (.pointer (some ⟨V6.heap.size, 0, none⟩)) (V6.alloc (.cells #[.int .i64 0, .int .i64 0, .bool false, .slice none 0 0, .slice none 0 0] 29)) (by go_simp <;> with_reducible rfl) (below_next g_ (below_new _ _)) ?_
            simp only [Act.put, List.setIfInBounds_toArray, List.set_cons_zero, List.set_cons_succ]
            have lg := Below.size g_
            refine ⟨_, rfl, ?_⟩
            go_wp2_with fail
            refine And.intro ?_ ?_
            · exact below_next g_ (below_new _ _)
            change wpList _ _ _ _ _ _
            simp only [List.drop_succ_cons, List.drop_zero]
            go_wp2_with fail
            refine NoPanic.normal ?_
            go_wp2
            go_meet
            case rel =>
              refine ⟨_, aw0, aw1, cw0, cw1, yw0, yw1, rfl, rfl, ?_⟩
              exact MetSheet.last g_ Gw.o0 Gw.o1 Gw.s0 Gw.s1
          · skip
            refine tree_make rfl rfl (.pointer (some ⟨V5.heap.size, 0, none⟩)) (V5.alloc (.cells #[.int .i64 0, .int .i64 0, .bool false, .slice none 0 0, .slice none 0 0] 29)) (by go_simp <;> with_reducible rfl) (below_next g_ (below_new _ _)) ?_
            simp only [Act.put, List.setIfInBounds_toArray, List.set_cons_zero, List.set_cons_succ]
            have ln : V5.heap.size < (V5.alloc (.cells #[.int .i64 0, .int .i64 0, .bool false, .slice none 0 0, .slice none 0 0] 29)).heap.size := lt_here _ _
            have bx := Blk.new V5 #[.int .i64 0, .int .i64 0, .bool false, .slice none 0 0, .slice none 0 0] 29
            have qn := below_new V5 (.cells #[.int .i64 0, .int .i64 0, .bool false, .slice none 0 0, .slice none 0 0] 29)
            have lg := Below.size g_
            replace g_ := below_next g_ qn
            generalize V5.alloc (.cells #[.int .i64 0, .int .i64 0, .bool false, .slice none 0 0, .slice none 0 0] 29) = V7 at *
            have lg0 := Below.size g_
            refine tree_call rfl rfl 39 #[] #[] rfl _ Try.func39 (by kernel_rfl) (by kernel_rfl) [.agg #[.int .i64 wd0, .int .i64 hi0, .bool wr0, .slice (some ⟨gw0_0, 0, none⟩) x0_0.length x0_0.length, .slice (some ⟨gw0_1, 0, none⟩) x0_1.length x0_1.length], .agg #[.int .i64 rx1, .int .i64 ry1, .int .i64 rw1, .int .i64 rh1], .float .f32 a2, .float .f32 a3] (by kernel_rfl) #[.agg #[.int .i64 wd0, .int .i64 hi0, .bool wr0, .slice (some ⟨gw0_0, 0, none⟩) x0_0.length x0_0.length, .slice (some ⟨gw0_1, 0, none⟩) x0_1.length x0_1.length], .agg #[.int .i64 rx1, .int .i64 ry1, .int .i64 rw1, .int .i64 rh1], .float .f32 a2, .float .f32 a3] (by simp) _ (specFillRectL _ _ _ _ _ _ _ _ _ _ _ _ _ _ _ _ ((Cw0.o0.row.later q1).later qn) ((Cw0.o1.row.later q1).later qn) b0_0 b0_1 m0_0 m0_1 w2 w3) ?_
            rintro e V8 ⟨aw0, aw1, cw0, cw1, yw0, yw1, rfl, Gw⟩
            have q2 := Gw.below
            refine ⟨_, rfl, below_next g_ q2, ?_⟩
            simp only [Act.put, List.setIfInBounds_toArray, List.set_cons_zero, List.set_cons_succ]
            replace g_ := below_next g_ q2
            have lq2 := q2.size
            replace bx := bx.later q2
            (refine tree_plain rfl rfl ?_ ?_ ?_; rotate_left; focus (intro w9; go_simp <;> with_reducible rfl)); (simp only [Act.put, List.setIfInBounds_toArray, List.set_cons_zero, List.set_cons_succ])
            (refine tree_plain rfl rfl ?_ ?_ ?_; rotate_left; focus (intro w9; go_simp <;> with_reducible rfl)); (simp only [Act.put, List.setIfInBounds_toArray, List.set_cons_zero, List.set_cons_succ])
            (refine tree_plain rfl rfl ?_ ?_ ?_; rotate_left; focus (intro w9; go_simp <;> with_reducible rfl)); (simp only [Act.put, List.setIfInBounds_toArray, List.set_cons_zero, List.set_cons_succ])
            obtain ⟨bxc, bxf⟩ := bx.open
            refine ⟨_, rfl, ?_⟩
            go_wp2_with fail
            refine And.intro ?_ ?_
            · exact (((((g_.setCell (p := ⟨_, 0, none⟩) lg _).setCell (p := ⟨_, 1, none⟩) lg _).setCell (p := ⟨_, 2, none⟩) lg _).setCell (p := ⟨_, 3, none⟩) lg _).setCell (p := ⟨_, 4, none⟩) lg _)
            change wpList _ _ _ _ _ _
            simp only [List.drop_succ_cons, List.drop_zero]
            go_wp2_with fail
            refine NoPanic.normal ?_
            go_wp2
            go_meet
            case rel =>
              refine ⟨V5.heap.size, aw0, aw1, cw0, cw1, yw0, yw1, rfl, rfl, ?_⟩
              exact MetSheet.early g_ (by omega) (by omega) bx Gw.o0 Gw.o1 Gw.s0 Gw.s1
        · skip
          refine tree_make rfl rfl (.pointer (some ⟨V4.heap.size, 0, none⟩)) (V4.alloc (.cells #[.int .i64 0, .int .i64 0, .bool false, .slice none 0 0, .slice none 0 0] 29)) (by go_simp <;> with_reducible rfl) (below_next g_ (below_new _ _)) ?_
          simp only [Act.put, List.setIfInBounds_toArray, List.set_cons_zero, List.set_cons_succ]
          have ln : V4.heap.size < (V4.alloc (.cells #[.int .i64 0, .int .i64 0, .bool false, .slice none 0 0, .slice none 0 0] 29)).heap.size := lt_here _ _
          have bx := Blk.new V4 #[.int .i64 0, .int .i64 0, .bool false, .slice none 0 0, .slice none 0 0] 29
          have qn := below_new V4 (.cells #[.int .i64 0, .int .i64 0, .bool false, .slice none 0 0, .slice none 0 0] 29)
          have lg := Below.size g_
          replace g_ := below_next g_ qn
          generalize V4.alloc (.cells #[.int .i64 0, .int .i64 0, .bool false, .slice none 0 0, .slice none 0 0] 29) = V9 at *
          refine tree_call rfl rfl 25 #[] #[] rfl _ Try.func25 (by kernel_rfl) (by kernel_rfl) [.agg #[.int .i64 rx1, .int .i64 ry1, .int .i64 rw1, .int .i64 rh1]] (by kernel_rfl) #[.agg #[.int .i64 rx1, .int .i64 ry1, .int .i64 rw1, .int .i64 rh1]] (by simp) _ (toRect_any _ _ _ _ _  ) ?_
          rintro e V10 ⟨rfl, Cw1⟩
          have q1 := Cw1
          refine ⟨_, rfl, below_next g_ q1, ?_⟩
          simp only [Act.put, List.setIfInBounds_toArray, List.set_cons_zero, List.set_cons_succ]
          replace g_ := below_next g_ q1
          have lq1 := q1.size
          replace bx := bx.later q1
          have lg0 := Below.size g_
          refine tree_call rfl rfl 39 #[] #[] rfl _ Try.func39 (by kernel_rfl) (by kernel_rfl) [.agg #[.int .i64 wd0, .int .i64 hi0, .bool wr0, .slice (some ⟨gw0_0, 0, none⟩) x0_0.length x0_0.length, .slice (some ⟨gw0_1, 0, none⟩) x0_1.length x0_1.length], .agg #[.int .i64 rx1, .int .i64 ry1, .int .i64 rw1, .int .i64 rh1], .float .f32 a2, .float .f32 a3] (by kernel_rfl) #[.agg #[.int .i64 wd0, .int .i64 hi0, .bool wr0, .slice (some ⟨gw0_0, 0, none⟩) x0_0.length x0_0.length, .slice (some ⟨gw0_1, 0, none⟩) x0_1.length x0_1.length], .agg #[.int .i64 rx1, .int .i64 ry1, .int .i64 rw1, .int .i64 rh1], .float .f32 a2, .float .f32 a3] (by simp) _ (specFillRectL _ _ _ _ _ _ _ _ _ _ _ _ _ _ _ _ ((Cw0.o0.row.later qn).later q1) ((Cw0.o1.row.later qn).later q1) b0_0 b0_1 m0_0 m0_1 w2 w3) ?_
          rintro e V11 ⟨aw0, aw1, cw0, cw1, yw0, yw1, rfl, Gw⟩
          have q2 := Gw.below
          refine ⟨_, rfl, below_next g_ q2, ?_⟩
          simp only [Act.put, List.setIfInBounds_toArray, List.set_cons_zero, List.set_cons_succ]
          replace g_ := below_next g_ q2
          have lq2 := q2.size
          replace bx := bx.later q2
          (refine tree_plain rfl rfl ?_ ?_ ?_; rotate_left; focus (intro w9; go_simp <;> with_reducible rfl)); (simp only [Act.put, List.setIfInBounds_toArray, List.set_cons_zero, List.set_cons_succ])
          (refine tree_plain rfl rfl ?_ ?_ ?_; rotate_left; focus (intro w9; go_simp <;> with_reducible rfl)); (simp only [Act.put, List.setIfInBounds_toArray, List.set_cons_zero, List.set_cons_succ])
          (refine tree_plain rfl rfl ?_ ?_ ?_; rotate_left; focus (intro w9; go_simp <;> with_reducible rfl)); (simp only [Act.put, List.setIfInBounds_toArray, List.set_cons_zero, List.set_cons_succ])
          obtain ⟨bxc, bxf⟩ := bx.open
          refine ⟨_, rfl, ?_⟩
          go_wp2_with fail
          refine And.intro ?_ ?_
          · exact (((((g_.setCell (p := ⟨_, 0, none⟩) lg _).setCell (p := ⟨_, 1, none⟩) lg _).setCell (p := ⟨_, 2, none⟩) lg _).setCell (p := ⟨_, 3, none⟩) lg _).setCell (p := ⟨_, 4, none⟩) lg _)
          change wpList _ _ _ _ _ _
          simp only [List.drop_succ_cons, List.drop_zero]
          go_wp2_with fail
          refine NoPanic.normal ?_
          go_wp2
          go_meet
          case rel =>
            refine ⟨V4.heap.size, aw0, aw1, cw0, cw1, yw0, yw1, rfl, rfl, ?_⟩
            exact MetSheet.early g_ (by omega) (by omega) bx Gw.o0 Gw.o1 Gw.s0 Gw.s1
      · skip
        refine tree_make rfl rfl (.pointer (some ⟨V3.heap.size, 0, none⟩)) (V3.alloc (.cells #[.int .i64 0, .int .i64 0, .bool false, .slice none 0 0, .slice none 0 0] 29)) (by go_simp <;> with_reducible rfl) (below_next g_ (below_new _ _)) ?_
        simp only [Act.put, List.setIfInBounds_toArray, List.set_cons_zero, List.set_cons_succ]
        have ln : V3.heap.size < (V3.alloc (.cells #[.int .i64 0, .int .i64 0, .bool false, .slice none 0 0, .slice none 0 0] 29)).heap.size := lt_here _ _
        have bx := Blk.new V3 #[.int .i64 0, .int .i64 0, .bool false, .slice none 0 0, .slice none 0 0] 29
        have qn := below_new V3 (.cells #[.int .i64 0, .int .i64 0, .bool false, .slice none 0 0, .slice none 0 0] 29)
        have lg := Below.size g_
        replace g_ := below_next g_ qn
        generalize V3.alloc (.cells #[.int .i64 0, .int .i64 0, .bool false, .slice none 0 0, .slice none 0 0] 29) = V12 at *
        refine tree_call rfl rfl 17 #[] #[] rfl _ Try.func17 (by kernel_rfl) (by kernel_rfl) [.agg #[.int .i64 wd0, .int .i64 hi0, .bool wr0, .slice a0_0 x0_0.length c0_0, .slice a0_1 x0_1.length c0_1]] (by kernel_rfl) #[.agg #[.int .i64 wd0, .int .i64 hi0, .bool wr0, .slice a0_0 x0_0.length c0_0, .slice a0_1 x0_1.length c0_1]] (by simp) _ (toSheet_any _ _ _ _ _ _ _ _ _ _ (r0_0.later (HB.out.trans (Below.mono g_ HB.out.size))) (r0_1.later (HB.out.trans (Below.mono g_ HB.out.size))) n0_0 n0_1) ?_
        rintro e V13 ⟨gw0_0, gw0_1, rfl, Cw0⟩
        have q0 := Cw0.below
        refine ⟨_, rfl, below_next g_ q0, ?_⟩
        simp only [Act.put, List.setIfInBounds_toArray, List.set_cons_zero, List.set_cons_succ]
        replace g_ := below_next g_ q0
        have lq0 := q0.size
        replace bx := bx.later q0
        refine tree_call rfl rfl 25 #[] #[] rfl _ Try.func25 (by kernel_rfl) (by kernel_rfl) [.agg #[.int .i64 rx1, .int .i64 ry1, .int .i64 rw1, .int .i64 rh1]] (by kernel_rfl) #[.agg #[.int .i64 rx1, .int .i64 ry1, .int .i64 rw1, .int .i64 rh1]] (by simp) _ (toRect_any _ _ _ _ _  ) ?_
        rintro e V14 ⟨rfl, Cw1⟩
        have q1 := Cw1
        refine ⟨_, rfl, below_next g_ q1, ?_⟩
        simp only [Act.put, List.setIfInBounds_toArray, List.set_cons_zero, List.set_cons_succ]
        replace g_ := below_next g_ q1
        have lq1 := q1.size
        replace bx := bx.later q1
        have lg0 := Below.size g_
        refine tree_call rfl rfl 39 #[] #[] rfl _ Try.func39 (by kernel_rfl) (by kernel_rfl) [.agg #[.int .i64 wd0, .int .i64 hi0, .bool wr0, .slice (some ⟨gw0_0, 0, none⟩) x0_0.length x0_0.length, .slice (some ⟨gw0_1, 0, none⟩) x0_1.length x0_1.length], .agg #[.int .i64 rx1, .int .i64 ry1, .int .i64 rw1, .int .i64 rh1], .float .f32 a2, .float .f32 a3] (by kernel_rfl) #[.agg #[.int .i64 wd0, .int .i64 hi0, .bool wr0, .slice (some ⟨gw0_0, 0, none⟩) x0_0.length x0_0.length, .slice (some ⟨gw0_1, 0, none⟩) x0_1.length x0_1.length], .agg #[.int .i64 rx1, .int .i64 ry1, .int .i64 rw1, .int .i64 rh1], .float .f32 a2, .float .f32 a3] (by simp) _ (specFillRectL _ _ _ _ _ _ _ _ _ _ _ _ _ _ _ _ (Cw0.o0.row.later q1) (Cw0.o1.row.later q1) b0_0 b0_1 m0_0 m0_1 w2 w3) ?_
        rintro e V15 ⟨aw0, aw1, cw0, cw1, yw0, yw1, rfl, Gw⟩
        have q2 := Gw.below
        refine ⟨_, rfl, below_next g_ q2, ?_⟩
        simp only [Act.put, List.setIfInBounds_toArray, List.set_cons_zero, List.set_cons_succ]
        replace g_ := below_next g_ q2
        have lq2 := q2.size
        replace bx := bx.later q2
        (refine tree_plain rfl rfl ?_ ?_ ?_; rotate_left; focus (intro w9; go_simp <;> with_reducible rfl)); (simp only [Act.put, List.setIfInBounds_toArray, List.set_cons_zero, List.set_cons_succ])
        (refine tree_plain rfl rfl ?_ ?_ ?_; rotate_left; focus (intro w9; go_simp <;> with_reducible rfl)); (simp only [Act.put, List.setIfInBounds_toArray, List.set_cons_zero, List.set_cons_succ])
        (refine tree_plain rfl rfl ?_ ?_ ?_; rotate_left; focus (intro w9; go_simp <;> with_reducible rfl)); (simp only [Act.put, List.setIfInBounds_toArray, List.set_cons_zero, List.set_cons_succ])
        obtain ⟨bxc, bxf⟩ := bx.open
        refine ⟨_, rfl, ?_⟩
        go_wp2_with fail
        refine And.intro ?_ ?_
        · exact (((((g_.setCell (p := ⟨_, 0, none⟩) lg _).setCell (p := ⟨_, 1, none⟩) lg _).setCell (p := ⟨_, 2, none⟩) lg _).setCell (p := ⟨_, 3, none⟩) lg _).setCell (p := ⟨_, 4, none⟩) lg _)
        change wpList _ _ _ _ _ _
        simp only [List.drop_succ_cons, List.drop_zero]
        go_wp2_with fail
        refine NoPanic.normal ?_
        go_wp2
        go_meet
        case rel =>
          refine ⟨V3.heap.size, aw0, aw1, cw0, cw1, yw0, yw1, rfl, rfl, ?_⟩
          exact MetSheet.early g_ (by omega) (by omega) bx Gw.o0 Gw.o1 Gw.s0 Gw.s1
    case rest =>
      obtain ⟨bww, aw0, aw1, cw0, cw1, yw0, yw1, rfl, rfl, Gw⟩ := hcut
      generalize wc = V16 at *
      have q := Gw.below
      replace A0 := A0.later q
      replace A1 := A1.later q
      replace HB := Lib.hid (HB.out.trans (q.mono HB.out.size))
      have sz16 : V2.heap.size ≤ V16.heap.size := q.size
      clear q
      have Rw0 := Lib.hid Gw.r0
      have lww0 := Gw.r0.low
      have Rw1 := Lib.hid Gw.r1
      have lww1 := Gw.r1.low
      have Bw := Gw.box
      have sblw := Gw.le; have sbhw := Bw.lt
      have Sw0 := Lib.hid Gw.s0
      have Sw1 := Lib.hid Gw.s1
      obtain ⟨A0c, A0f⟩ := A0.open
      go_wp2_with fail
      refine (toSheet_any _ _ _ _ _ _ _ _ _ _ (r0_0.later HB.out) (r0_1.later HB.out) n0_0 n0_1).mono ?_
      rintro e V17 ⟨gx0_0, gx0_1, rfl, Cx0⟩
      clear A0c A0f
      replace A0 := A0.later Cx0.below
      replace A1 := A1.later Cx0.below
      replace Bw := Bw.later Cx0.below
      replace Rw0 := Lib.hid (Rw0.out.later Cx0.below)
      replace Rw1 := Lib.hid (Rw1.out.later Cx0.below)
      replace HB := Lib.hid (HB.out.trans (Cx0.below.mono HB.out.size))
      have sz17 : V16.heap.size ≤ V17.heap.size := Cx0.below.size
      have O0_0 := Lib.hid Cx0.o0
      have so0_0 := Cx0.o0.span
      have O0_1 := Lib.hid Cx0.o1
      have so0_1 := Cx0.o1.span
      have ll0_0 := Cx0.l0
      have X0 := Blk.new V17 #[.int .i64 wd0, .int .i64 hi0, .bool wr0, .slice (some ⟨gx0_0, 0, none⟩) x0_0.length x0_0.length, .slice (some ⟨gx0_1, 0, none⟩) x0_1.length x0_1.length] 29
      have q := below_new V17 (.cells #[.int .i64 wd0, .int .i64 hi0, .bool wr0, .slice (some ⟨gx0_0, 0, none⟩) x0_0.length x0_0.length, .slice (some ⟨gx0_1, 0, none⟩) x0_1.length x0_1.length] 29)
      replace A0 := A0.later q
      replace A1 := A1.later q
      replace Bw := Bw.later q
      replace Rw0 := Lib.hid (Rw0.out.later q)
      replace Rw1 := Lib.hid (Rw1.out.later q)
      replace O0_0 := Lib.hid (O0_0.out.later q)
      replace O0_1 := Lib.hid (O0_1.out.later q)
      replace HB := Lib.hid (HB.out.trans (q.mono HB.out.size))
      clear q
      obtain ⟨X0c, X0f⟩ := X0.open
      obtain ⟨A1c, A1f⟩ := A1.open
      go_wp2_with fail
      generalize V17.alloc (.cells #[.int .i64 wd0, .int .i64 hi0, .bool wr0, .slice (some ⟨gx0_0, 0, none⟩) x0_0.length x0_0.length, .slice (some ⟨gx0_1, 0, none⟩) x0_1.length x0_1.length] 29) = V18 at *
      have sz18 : V17.heap.size < V18.heap.size := X0.lt
      clear X0c X0f
      clear A1c A1f
      obtain ⟨X0c, X0f⟩ := X0.open
      obtain ⟨A1c, A1f⟩ := A1.open
      go_upto_region 7 with (fail)
      clear X0c X0f
      clear A1c A1f
      go_cut [13, 14] (fun sa sb wx => RelOSheet V18 (.int .i64 (ifI (fillB wd0 hi0 x0_0 x0_1 rx1 ry1 rw1 rh1 a2 a3) wd0)) (.int .i64 (ifI (fillB wd0 hi0 x0_0 x0_1 rx1 ry1 rw1 rh1 a2 a3) hi0)) (.bool (ifB (fillB wd0 hi0 x0_0 x0_1 rx1 ry1 rw1 rh1 a2 a3) wr0)) (ifO (fillB wd0 hi0 x0_0 x0_1 rx1 ry1 rw1 rh1 a2 a3) (chgC (inP wd0 rx1 ry1 rw1 rh1) (fun _ => canon .f32 a2) x0_0)) (ifO (fillB wd0 hi0 x0_0 x0_1 rx1 ry1 rw1 rh1 a2 a3) (chgC (inP wd0 rx1 ry1 rw1 rh1) (fun _ => canon .f32 a3) x0_1)) (fillB wd0 hi0 x0_0 x0_1 rx1 ry1 rw1 rh1 a2 a3) sa sb wx)
      case first =>
        refine wp_region_noPanic ?_
        refine wp_region_tree (Grows V18) 11 (.take 0 (.take 1 (.take 3 (.take 4 (.fork 2 (.fork 5 (.take 6 (.take 7 (.take 8 (.one 9 (.one 10 .done))))) 9 (.one 5 (.take 6 (.take 7 (.take 8 (.one 10 .done)))))) 9 (.one 2 (.one 5 (.take 6 (.take 7 (.take 8 (.one 10 .done))))))))))) (by kernel_rfl) (by kernel_rfl) (fun _ _ _ _ _ h => h) (Grows.drew _) ?_
        (refine tree_load rfl rfl (⟨V17.heap.size, 0, none⟩) (by kernel_rfl) (.agg #[.int .i64 wd0, .int .i64 hi0, .bool wr0, .slice (some ⟨gx0_0, 0, none⟩) x0_0.length x0_0.length, .slice (some ⟨gx0_1, 0, none⟩) x0_1.length x0_1.length]) (fun w' hw' => run_loadVar_row w' _ _ _ _ _ _ (X0.later hw') Try.underlying29 rfl (by kernel_rfl)) ?_; simp only [Act.put, List.setIfInBounds_toArray, List.set_cons_zero, List.set_cons_succ])
        (refine tree_load rfl rfl (⟨w.heap.size + 1, 0, none⟩) (by kernel_rfl) (.agg #[.int .i64 rx1, .int .i64 ry1, .int .i64 rw1, .int .i64 rh1]) (fun w' hw' => run_loadVar_row w' _ _ _ _ _ _ (A1.later hw') Try.underlying37 rfl (by kernel_rfl)) ?_; simp only [Act.put, List.setIfInBounds_toArray, List.set_cons_zero, List.set_cons_succ])
        (refine tree_plain rfl rfl ?_ ?_ ?_; rotate_left; focus (intro w9; go_simp <;> with_reducible rfl)); (simp only [Act.put, List.setIfInBounds_toArray, List.set_cons_zero, List.set_cons_succ])
        (refine tree_plain rfl rfl ?_ ?_ ?_; rotate_left; focus (intro w9; go_simp <;> with_reducible rfl)); (simp only [Act.put, List.setIfInBounds_toArray, List.set_cons_zero, List.set_cons_succ])
        have g_ : Below V18.heap.size V18 V18.drew := below_drew V18
        generalize V18.drew = V19 at *
        refine tree_fork ?_ ?_
        · skip
          refine tree_call rfl rfl 25 #[] #[] rfl _ Try.func25 (by kernel_rfl) (by kernel_rfl) [.agg #[.int .i64 rx1, .int .i64 ry1, .int .i64 rw1, .int .i64 rh1]] (by kernel_rfl) #[.agg #[.int .i64 rx1, .int .i64 ry1, .int .i64 rw1, .int .i64 rh1]] (by simp) _ (toRect_any _ _ _ _ _  ) ?_
          rintro e V20 ⟨rfl, Ci1⟩
          have q0 := Ci1
          refine ⟨_, rfl, below_next g_ q0, ?_⟩
          simp only [Act.put, List.setIfInBounds_toArray, List.set_cons_zero, List.set_cons_succ]
          replace g_ := below_next g_ q0
          have lq0 := q0.size
          refine tree_fork ?_ ?_
          · skip
            have lg0 := Below.size g_
            refine tree_call rfl rfl 40 #[] #[] rfl _ Try.func40 (by kernel_rfl) (by kernel_rfl) [.agg #[.int .i64 wd0, .int .i64 hi0, .bool wr0, .slice (some ⟨gx0_0, 0, none⟩) x0_0.length x0_0.length, .slice (some ⟨gx0_1, 0, none⟩) x0_1.length x0_1.length], .agg #[.int .i64 rx1, .int .i64 ry1, .int .i64 rw1, .int .i64 rh1], .float .f32 a2, .float .f32 a3] (by kernel_rfl) #[.agg #[.int .i64 wd0, .int .i64 hi0, .bool wr0, .slice (some ⟨gx0_0, 0, none⟩) x0_0.length x0_0.length, .slice (some ⟨gx0_1, 0, none⟩) x0_1.length x0_1.length], .agg #[.int .i64 rx1, .int .i64 ry1, .int .i64 rw1, .int .i64 rh1], .float .f32 a2, .float .f32 a3] (by simp) _ (implFillRectL _ _ _ _ _ _ _ _ _ _ _ _ _ _ _ _ (O0_0.out.row.later g_) (O0_1.out.row.later g_) b0_0 b0_1 m0_0 m0_1 w2 w3) ?_
            rintro e V21 ⟨ai0, ai1, ci0, ci1, yi0, yi1, rfl, Gi⟩
            have q1 := Gi.below
            refine ⟨_, rfl, below_next g_ q1, ?_⟩
            simp only [Act.put, List.setIfInBounds_toArray, List.set_cons_zero, List.set_cons_succ]
            replace g_ := below_next g_ q1
            have lq1 := q1.size
            (refine tree_plain rfl rfl ?_ ?_ ?_; rotate_left; focus (intro w9; go_simp <;> with_reducible rfl)); (simp only [Act.put, List.setIfInBounds_toArray, List.set_cons_zero, List.set_cons_succ])
            (refine tree_plain rfl rfl ?_ ?_ ?_; rotate_left; focus (intro w9; go_simp <;> with_reducible rfl)); (simp only [Act.put, List.setIfInBounds_toArray, List.set_cons_zero, List.set_cons_succ])
            (refine tree_plain rfl rfl ?_ ?_ ?_; rotate_left; focus (intro w9; go_simp <;> with_reducible rfl)); (simp only [Act.put, List.setIfInBounds_toArray, List.set_cons_zero, List.set_cons_succ])
            refine tree_make rfl rfl (.pointer (some ⟨V21.heap.size, 0, none⟩)) (V21.alloc (.cells #[.int .i64 0, .int .i64 0, .bool false, .slice none 0 0, .slice none 0 0] 29)) (by go_simp <;> with_reducible rfl) (below_next g_ (below_new _ _)) ?_
            simp only [Act.put, List.setIfInBounds_toArray, List.set_cons_zero, List.set_cons_succ]
            have lg := Below.size g_
            refine ⟨_, rfl, ?_⟩
            go_wp2_with fail
            refine And.intro ?_ ?_
            · exact below_next g_ (below_new _ _)
            change wpList _ _ _ _ _ _
            simp only [List.drop_succ_cons, List.drop_zero]
            go_wp2_with fail
            refine NoPanic.normal ?_
            go_wp2
            go_meet
            case rel =>
              refine ⟨_, V20.heap.size, V21.heap.size, ai0, ai1, ci0, ci1, yi0, yi1, rfl, rfl, ?_⟩
              exact MetOSheet.last g_ (by omega) q1.size Gi.o0 Gi.o1 Gi.p01 Gi.s0 Gi.s1
          · skip
            refine tree_make rfl rfl (.pointer (some ⟨V20.heap.size, 0, none⟩)) (V20.alloc (.cells #[.int .i64 0, .int .i64 0, .bool false, .slice none 0 0, .slice none 0 0] 29)) (by go_simp <;> with_reducible rfl) (below_next g_ (below_new _ _)) ?_
            simp only [Act.put, List.setIfInBounds_toArray, List.set_cons_zero, List.set_cons_succ]
            have ln : V20.heap.size < (V20.alloc (.cells #[.int .i64 0, .int .i64 0, .bool false, .slice none 0 0, .slice none 0 0] 29)).heap.size := lt_here _ _
            have bx := Blk.new V20 #[.int .i64 0, .int .i64 0, .bool false, .slice none 0 0, .slice none 0 0] 29
            have qn := below_new V20 (.cells #[.int .i64 0, .int .i64 0, .bool false, .slice none 0 0, .slice none 0 0] 29)
            have lg := Below.size g_
            replace g_ := below_next g_ qn
            generalize V20.alloc (.cells #[.int .i64 0, .int .i64 0, .bool false, .slice none 0 0, .slice none 0 0] 29) = V22 at *
            have lg0 := Below.size g_
            refine tree_call rfl rfl 40 #[] #[] rfl _ Try.func40 (by kernel_rfl) (by kernel_rfl) [.agg #[.int .i64 wd0, .int .i64 hi0, .bool wr0, .slice (some ⟨gx0_0, 0, none⟩) x0_0.length x0_0.length, .slice (some ⟨gx0_1, 0, none⟩) x0_1.length x0_1.length], .agg #[.int .i64 rx1, .int .i64 ry1, .int .i64 rw1, .int .i64 rh1], .float .f32 a2, .float .f32 a3] (by kernel_rfl) #[.agg #[.int .i64 wd0, .int .i64 hi0, .bool wr0, .slice (some ⟨gx0_0, 0, none⟩) x0_0.length x0_0.length, .slice (some ⟨gx0_1, 0, none⟩) x0_1.length x0_1.length], .agg #[.int .i64 rx1, .int .i64 ry1, .int .i64 rw1, .int .i64 rh1], .float .f32 a2, .float .f32 a3] (by simp) _ (implFillRectL _ _ _ _ _ _ _ _ _ _ _ _ _ _ _ _ (O0_0.out.row.later g_) (O0_1.out.row.later g_) b0_0 b0_1 m0_0 m0_1 w2 w3) ?_
            rintro e V23 ⟨ai0, ai1, ci0, ci1, yi0, yi1, rfl, Gi⟩
            have q1 := Gi.below
            refine ⟨_, rfl, below_next g_ q1, ?_⟩
            simp only [Act.put, List.setIfInBounds_toArray, List.set_cons_zero, List.set_cons_succ]
            replace g_ := below_next g_ q1
            have lq1 := q1.size
            replace bx := bx.later q1
            (refine tree_plain rfl rfl ?_ ?_ ?_; rotate_left; focus (intro w9; go_simp <;> with_reducible rfl)); (simp only [Act.put, List.setIfInBounds_toArray, List.set_cons_zero, List.set_cons_succ])
            (refine tree_plain rfl rfl ?_ ?_ ?_; rotate_left; focus (intro w9; go_simp <;> with_reducible rfl)); (simp only [Act.put, List.setIfInBounds_toArray, List.set_cons_zero, List.set_cons_succ])
            (refine tree_plain rfl rfl ?_ ?_ ?_; rotate_left; focus (intro w9; go_simp <;> with_reducible rfl)); (simp only [Act.put, List.setIfInBounds_toArray, List.set_cons_zero, List.set_cons_succ])
            obtain ⟨bxc, bxf⟩ := bx.open
            refine ⟨_, rfl, ?_⟩
            go_wp2_with fail
            refine And.intro ?_ ?_
            · exact (((((g_.setCell (p := ⟨_, 0, none⟩) lg _).setCell (p := ⟨_, 1, none⟩) lg _).setCell (p := ⟨_, 2, none⟩) lg _).setCell (p := ⟨_, 3, none⟩) lg _).setCell (p := ⟨_, 4, none⟩) lg _)
            change wpList _ _ _ _ _ _
            simp only [List.drop_succ_cons, List.drop_zero]
            go_wp2_with fail
            refine NoPanic.normal ?_
            go_wp2
            go_meet
            case rel =>
              refine ⟨V20.heap.size, V22.heap.size, V23.heap.size, ai0, ai1, ci0, ci1, yi0, yi1, rfl, rfl, ?_⟩
              exact MetOSheet.early g_ (by omega) (by omega) q1.size bx Gi.o0 Gi.o1 Gi.p01 Gi.s0 Gi.s1
        · skip
          refine tree_make rfl rfl (.pointer (some ⟨V19.heap.size, 0, none⟩)) (V19.alloc (.cells #[.int .i64 0, .int .i64 0, .bool false, .slice none 0 0, .slice none 0 0] 29)) (by go_simp <;> with_reducible rfl) (below_next g_ (below_new _ _)) ?_
          simp only [Act.put, List.setIfInBounds_toArray, List.set_cons_zero, List.set_cons_succ]
          have ln : V19.heap.size < (V19.alloc (.cells #[.int .i64 0, .int .i64 0, .bool false, .slice none 0 0, .slice none 0 0] 29)).heap.size := lt_here _ _
          have bx := Blk.new V19 #[.int .i64 0, .int .i64 0, .bool false, .slice none 0 0, .slice none 0 0] 29
          have qn := below_new V19 (.cells #[.int .i64 0, .int .i64 0, .bool false, .slice none 0 0, .slice none 0 0] 29)
          have lg := Below.size g_
          replace g_ := below_next g_ qn
          generalize V19.alloc (.cells #[.int .i64 0, .int .i64 0, .bool false, .slice none 0 0, .slice none 0 0] 29) = V24 at *
          refine tree_call rfl rfl 25 #[] #[] rfl _ Try.func25 (by kernel_rfl) (by kernel_rfl) [.agg #[.int .i64 rx1, .int .i64 ry1, .int .i64 rw1, .int .i64 rh1]] (by kernel_rfl) #[.agg #[.int .i64 rx1, .int .i64 ry1, .int .i64 rw1, .int .i64 rh1]] (by simp) _ (toRect_any _ _ _ _ _  ) ?_
          rintro e V25 ⟨rfl, Ci1⟩
          have q0 := Ci1
          refine ⟨_, rfl, below_next g_ q0, ?_⟩
          simp only [Act.put, List.setIfInBounds_toArray, List.set_cons_zero, List.set_cons_succ]
          replace g_ := below_next g_ q0
          have lq0 := q0.size
          replace bx := bx.later q0
          have lg0 := Below.size g_
          refine tree_call rfl rfl 40 #[] #[] rfl _ Try.func40 (by kernel_rfl) (by kernel_rfl) [.agg #[.int .i64 wd0, .int .i64 hi0, .bool wr0, .slice (some ⟨gx0_0, 0, none⟩) x0_0.length x0_0.length, .slice (some ⟨gx0_1, 0, none⟩) x0_1.length x0_1.length], .agg #[.int .i64 rx1, .int .i64 ry1, .int .i64 rw1, .int .i64 rh1], .float .f32 a2, .float .f32 a3] (by kernel_rfl) #[.agg #[.int .i64 wd0, .int .i64 hi0, .bool wr0, .slice (some ⟨gx0_0, 0, none⟩) x0_0.length x0_0.length, .slice (some ⟨gx0_1, 0, none⟩) x0_1.length x0_1.length], .agg #[.int .i64 rx1, .int .i64 ry1, .int .i64 rw1, .int .i64 rh1], .float .f32 a2, .float .f32 a3] (by simp) _ (implFillRectL _ _ _ _ _ _ _ _ _ _ _ _ _ _ _ _ (O0_0.out.row.later g_) (O0_1.out.row.later g_) b0_0 b0_1 m0_0 m0_1 w2 w3) ?_
          rintro e V26 ⟨ai0, ai1, ci0, ci1, yi0, yi1, rfl, Gi⟩
          have q1 := Gi.below
          refine ⟨_, rfl, below_next g_ q1, ?_⟩
          simp only [Act.put, List.setIfInBounds_toArray, List.set_cons_zero, List.set_cons_succ]
          replace g_ := below_next g_ q1
          have lq1 := q1.size
          replace bx := bx.later q1
          (refine tree_plain rfl rfl ?_ ?_ ?_; rotate_left; focus (intro w9; go_simp <;> with_reducible rfl)); (simp only [Act.put, List.setIfInBounds_toArray, List.set_cons_zero, List.set_cons_succ])
          (refine tree_plain rfl rfl ?_ ?_ ?_; rotate_left; focus (intro w9; go_simp <;> with_reducible rfl)); (simp only [Act.put, List.setIfInBounds_toArray, List.set_cons_zero, List.set_cons_succ])
          (refine tree_plain rfl rfl ?_ ?_ ?_; rotate_left; focus (intro w9; go_simp <;> with_reducible rfl)); (simp only [Act.put, List.setIfInBounds_toArray, List.set_cons_zero, List.set_cons_succ])
          obtain ⟨bxc, bxf⟩ := bx.open
          refine ⟨_, rfl, ?_⟩
          go_wp2_with fail
          refine And.intro ?_ ?_
          · exact (((((g_.setCell (p := ⟨_, 0, none⟩) lg _).setCell (p := ⟨_, 1, none⟩) lg _).setCell (p := ⟨_, 2, none⟩) lg _).setCell (p := ⟨_, 3, none⟩) lg _).setCell (p := ⟨_, 4, none⟩) lg _)
          change wpList _ _ _ _ _ _
          simp only [List.drop_succ_cons, List.drop_zero]
          go_wp2_with fail
          refine NoPanic.normal ?_
          go_wp2
          go_meet
          case rel =>
            refine ⟨V19.heap.size, V25.heap.size, V26.heap.size, ai0, ai1, ci0, ci1, yi0, yi1, rfl, rfl, ?_⟩
            exact MetOSheet.early g_ (by omega) (by omega) q1.size bx Gi.o0 Gi.o1 Gi.p01 Gi.s0 Gi.s1
      case rest =>
        obtain ⟨bwi, loi, hii, ai0, ai1, ci0, ci1, yi0, yi1, rfl, rfl, Gi⟩ := hcut
        generalize wc = V27 at *
        have q := Gi.below
        replace A0 := A0.later q
        replace A1 := A1.later q
        replace Bw := Bw.later q
        replace X0 := X0.later q
        replace Rw0 := Lib.hid (Rw0.out.later q)
        replace Rw1 := Lib.hid (Rw1.out.later q)
        replace O0_0 := Lib.hid (O0_0.out.later q)
        replace O0_1 := Lib.hid (O0_1.out.later q)
        replace HB := Lib.hid (HB.out.trans (q.mono HB.out.size))
        have sz27 : V18.heap.size ≤ V27.heap.size := q.size
        clear q
        have Ri0 := Lib.hid Gi.o0; have spi0 := Gi.q0
        have Ri1 := Lib.hid Gi.o1; have spi1 := Gi.q1
        have gl1 := Gi.l1; have gl2 := Gi.l2; have gl3 := Gi.l3; have gl4 := Gi.l4
        have Bi := Gi.box
        have sbli := Gi.le; have sbhi := Bi.lt
        have Si0 := Lib.hid Gi.s0
        have Si1 := Lib.hid Gi.s1
        obtain ⟨Bic, Bif⟩ := Bi.open
        obtain ⟨Bwc, Bwf⟩ := Bw.open
        clear Bic Bif
        clear Bwc Bwf
        obtain ⟨Bic, Bif⟩ := Bi.open
        obtain ⟨Bwc, Bwf⟩ := Bw.open
        go_wp2_with fail
        refine (eqSheet_any _ _ _ _ _ _ _ _ _ _ _ _ _ _ _ _ Ri0.out.row Ri1.out.row Rw0.out Rw1.out (Si0.out.same Sw0.out) (Si1.out.same Sw1.out) (few_max Si0.out) (few_max Si1.out)).mono ?_
        rintro e V28 ⟨rfl, q⟩
        clear Bic Bif
        clear Bwc Bwf
        replace A0 := A0.later q
        replace A1 := A1.later q
        replace Bw := Bw.later q
        replace X0 := X0.later q
        replace Bi := Bi.later q
        replace Rw0 := Lib.hid (Rw0.out.later q)
        replace Rw1 := Lib.hid (Rw1.out.later q)
        replace O0_0 := Lib.hid (O0_0.out.later q)
        replace O0_1 := Lib.hid (O0_1.out.later q)
        replace Ri0 := Lib.hid (Ri0.out.later q)
        replace Ri1 := Lib.hid (Ri1.out.later q)
        replace HB := Lib.hid (HB.out.trans (q.mono HB.out.size))
        have sz28 : V27.heap.size ≤ V28.heap.size := q.size
        clear q
        obtain ⟨X0c, X0f⟩ := X0.open
        obtain ⟨A0c, A0f⟩ := A0.open
        go_wp2_with fail
        clear X0c X0f
        clear A0c A0f
        go_region_held3 (fun w' => (∀ i, w'.cell? ⟨V17.heap.size, i, none⟩ = (#[.int .i64 wd0, .int .i64 hi0, .bool wr0, .slice (some ⟨gx0_0, 0, none⟩) x0_0.length x0_0.length, .slice (some ⟨gx0_1, 0, none⟩) x0_1.length x0_1.length] : Array Value)[i]?) ∧ (∀ i, w'.cell? ⟨w.heap.size, i, none⟩ = (#[.int .i64 wd0, .int .i64 hi0, .bool wr0, .slice a0_0 x0_0.length c0_0, .slice a0_1 x0_1.length c0_1] : Array Value)[i]?) ∧ Below V28.heap.size V28 w') (first | with_reducible exact keep2_start X0 A0 | with_reducible exact keep2_later X0 A0 (by assumption) (by assumption))
          (first
            | (go_at_call 17; (with_reducible refine (toSheet_any _ _ _ _ _ _ _ _ _ _ (row_held2 r0_0 HB.out (by assumption)) (row_held2 r0_1 HB.out (by assumption)) n0_0 n0_1).mono ?_); rintro e V29 ⟨ge0_0, ge0_1, rfl, Ce0⟩; have qa0 := Ce0.below)
            | (go_at_call 20; (with_reducible refine (eqSheet_any _ _ _ _ _ _ _ _ _ _ _ _ _ _ _ _ (row_held2 O0_0.out.row (Below.refl _ _) (by assumption)) (row_held2 O0_1.out.row (Below.refl _ _) (by assumption)) Ce0.o0.row Ce0.o1.row (SameF.refl b0_0) (SameF.refl b0_1) m0_0 m0_1).mono ?_); rintro e V30 ⟨rfl, qa1⟩))
        have q := (below_next (below_next (below_drew V28) qa0) qa1)
        replace A0 := A0.later q
        replace A1 := A1.later q
        replace Bw := Bw.later q
        replace X0 := X0.later q
        replace Bi := Bi.later q
        replace Rw0 := Lib.hid (Rw0.out.later q)
        replace Rw1 := Lib.hid (Rw1.out.later q)
        replace O0_0 := Lib.hid (O0_0.out.later q)
        replace O0_1 := Lib.hid (O0_1.out.later q)
        replace Ri0 := Lib.hid (Ri0.out.later q)
        replace Ri1 := Lib.hid (Ri1.out.later q)
        replace HB := Lib.hid (HB.out.trans (q.mono HB.out.size))
        have sz30 : V28.heap.size ≤ V30.heap.size := q.size
        clear q
        obtain ⟨X0c, X0f⟩ := X0.open
        go_wp2_with fail
        have MK := markSheet_any V16.heap.size wd0 hi0 wr0 _ _ (x0_0.length) (x0_1.length) (fvals x0_0) (fvals x0_1) (1) _ (by omega) O0_0.out O0_1.out (apart_ne (by omega)) (by omega) (by simp only [fvals_length]; omega)
        simp only [fvals_length] at MK
        refine MK.mono ?_
        clear MK
        rintro e V31 ⟨rfl, M⟩
        clear X0c X0f
        have sz31 : V30.heap.size ≤ V31.heap.size := M.below.size
        have ot : Out V30 V31 V16.heap.size V17.heap.size := ⟨M.below.size, fun j hj hd => M.keep j hj (so0_0.ne hd) (so0_1.ne hd)⟩
        replace A0 := A0.out ot (by omega)
        replace A1 := A1.out ot (by omega)
        replace Bw := Bw.out ot (by omega)
        replace X0 := X0.out ot (by omega)
        replace Bi := Bi.out ot (by omega)
        replace Rw0 := Lib.hid (Rw0.out.outside ot lww0 (by omega))
        replace Rw1 := Lib.hid (Rw1.out.outside ot lww1 (by omega))
        replace Ri0 := Lib.hid (Ri0.out.outside ot spi0 (by omega))
        replace Ri1 := Lib.hid (Ri1.out.outside ot spi1 (by omega))
        replace O0_0 := Lib.hid M.o0
        replace O0_1 := Lib.hid M.o1
        replace HB := Lib.hid (HB.out.trans (M.below.mono (by omega)))
        clear ot M
        have dk : ¬ (1 + (x0_0.length : Int) + (x0_1.length : Int) < 0) := by omega
        obtain ⟨Bic, Bif⟩ := Bi.open
        obtain ⟨Bwc, Bwf⟩ := Bw.open
        go_wp2_with fail
        refine (eqSheet_any _ _ _ _ _ _ _ _ _ _ _ _ _ _ _ _ Ri0.out.row Ri1.out.row Rw0.out Rw1.out (Si0.out.same Sw0.out) (Si1.out.same Sw1.out) (few_max Si0.out) (few_max Si1.out)).mono ?_
        rintro e V32 ⟨rfl, q⟩
        clear Bic Bif
        clear Bwc Bwf
        replace A0 := A0.later q
        replace A1 := A1.later q
        replace Bw := Bw.later q
        replace X0 := X0.later q
        replace Bi := Bi.later q
        replace Rw0 := Lib.hid (Rw0.out.later q)
        replace Rw1 := Lib.hid (Rw1.out.later q)
        replace O0_0 := Lib.hid (O0_0.out.later q)
        replace O0_1 := Lib.hid (O0_1.out.later q)
        replace Ri0 := Lib.hid (Ri0.out.later q)
        replace Ri1 := Lib.hid (Ri1.out.later q)
        replace HB := Lib.hid (HB.out.trans (q.mono HB.out.size))
        have sz32 : V31.heap.size ≤ V32.heap.size := q.size
        clear q
        clear dk
        have fy0 := Si0.out.few
        have fy1 := Si1.out.few
        obtain ⟨Bic, Bif⟩ := Bi.open
        go_wp2_with fail
        have MK := markSheet_any loi (ifI (fillB wd0 hi0 x0_0 x0_1 rx1 ry1 rw1 rh1 a2 a3) wd0) (ifI (fillB wd0 hi0 x0_0 x0_1 rx1 ry1 rw1 rh1 a2 a3) hi0) (ifB (fillB wd0 hi0 x0_0 x0_1 rx1 ry1 rw1 rh1 a2 a3) wr0) _ _ (ci0) (ci1) (fvals yi0) (fvals yi1) 1 _ (by omega) Ri0.out Ri1.out Gi.p01 (by omega) (by simp only [fvals_length]; omega)
        simp only [fvals_length] at MK
        refine MK.mono ?_
        clear MK
        rintro e V33 ⟨rfl, M⟩
        clear Bic Bif
        have sz33 : V32.heap.size ≤ V33.heap.size := M.below.size
        have ot : Out V32 V33 loi hii := ⟨M.below.size, fun j hj hd => M.keep j hj (spi0.ne hd) (spi1.ne hd)⟩
        replace A0 := A0.out ot (by omega)
        replace A1 := A1.out ot (by omega)
        replace Bw := Bw.out ot (by omega)
        replace X0 := X0.out ot (by omega)
        replace Bi := Bi.out ot (by omega)
        replace Rw0 := Lib.hid (Rw0.out.outside ot lww0 (by omega))
        replace Rw1 := Lib.hid (Rw1.out.outside ot lww1 (by omega))
        replace O0_0 := Lib.hid (O0_0.out.outside ot so0_0 (by omega))
        replace O0_1 := Lib.hid (O0_1.out.outside ot so0_1 (by omega))
        replace Ri0 := Lib.hid M.o0
        replace Ri1 := Lib.hid M.o1
        replace HB := Lib.hid (HB.out.trans (M.below.mono (by omega)))
        clear ot M
        obtain ⟨Bic, Bif⟩ := Bi.open
        go_wp2_with fail
        refine (heldSheet_any (ifI (fillB wd0 hi0 x0_0 x0_1 rx1 ry1 rw1 rh1 a2 a3) wd0) (ifI (fillB wd0 hi0 x0_0 x0_1 rx1 ry1 rw1 rh1 a2 a3) hi0) (ifB (fillB wd0 hi0 x0_0 x0_1 rx1 ry1 rw1 rh1 a2 a3) wr0) _ _ _ _ yi0.length yi1.length 1 _ Ri0.out.row Ri1.out.row (by omega) (by omega)).mono ?_
        rintro e V34 ⟨rfl, q⟩
        clear Bic Bif
        replace A0 := A0.later q
        replace A1 := A1.later q
        replace Bw := Bw.later q
        replace X0 := X0.later q
        replace Bi := Bi.later q
        replace Rw0 := Lib.hid (Rw0.out.later q)
        replace Rw1 := Lib.hid (Rw1.out.later q)
        replace O0_0 := Lib.hid (O0_0.out.later q)
        replace O0_1 := Lib.hid (O0_1.out.later q)
        replace Ri0 := Lib.hid (Ri0.out.later q)
        replace Ri1 := Lib.hid (Ri1.out.later q)
        replace HB := Lib.hid (HB.out.trans (q.mono HB.out.size))
        have sz34 : V33.heap.size ≤ V34.heap.size := q.size
        clear q
        have dm : ¬ (1 + (yi0.length : Int) + (yi1.length : Int) < 0) := by omega
        obtain ⟨A0c, A0f⟩ := A0.open
        obtain ⟨A1c, A1f⟩ := A1.open
        go_upto_region 24 with (fail)
        clear A0c A0f
        clear A1c A1f
        go_cut [18, 19] (fun sa sb wx => RelSheet V34 (.int .i64 (ifI (fillB wd0 hi0 x0_0 x0_1 rx1 ry1 rw1 rh1 a2 a3) wd0)) (.int .i64 (ifI (fillB wd0 hi0 x0_0 x0_1 rx1 ry1 rw1 rh1 a2 a3) hi0)) (.bool (ifB (fillB wd0 hi0 x0_0 x0_1 rx1 ry1 rw1 rh1 a2 a3) wr0)) (ifO (fillB wd0 hi0 x0_0 x0_1 rx1 ry1 rw1 rh1 a2 a3) (chgC (inP wd0 rx1 ry1 rw1 rh1) (fun _ => canon .f32 a2) x0_0)) (ifO (fillB wd0 hi0 x0_0 x0_1 rx1 ry1 rw1 rh1 a2 a3) (chgC (inP wd0 rx1 ry1 rw1 rh1) (fun _ => canon .f32 a3) x0_1)) (fillB wd0 hi0 x0_0 x0_1 rx1 ry1 rw1 rh1 a2 a3) sa sb wx)
        case first =>
          refine wp_region_noPanic ?_
          refine wp_region_tree (Grows V34) 12 (.take 0 (.take 2 (.take 4 (.take 5 (.fork 1 (.fork 3 (.fork 6 (.take 7 (.take 8 (.take 9 (.one 10 (.one 11 .done))))) 10 (.one 6 (.take 7 (.take 8 (.take 9 (.one 11 .done)))))) 10 (.one 3 (.one 6 (.take 7 (.take 8 (.take 9 (.one 11 .done))))))) 10 (.one 1 (.one 3 (.one 6 (.take 7 (.take 8 (.take 9 (.one 11 .done)))))))))))) (by kernel_rfl) (by kernel_rfl) (fun _ _ _ _ _ h => h) (Grows.drew _) ?_
          (refine tree_load rfl rfl (⟨w.heap.size, 0, none⟩) (by kernel_rfl) (.agg #[.int .i64 wd0, .int .i64 hi0, .bool wr0, .slice a0_0 x0_0.length c0_0, .slice a0_1 x0_1.length c0_1]) (fun w' hw' => run_loadVar_row w' _ _ _ _ _ _ (A0.later hw') Try.underlying24 rfl (by kernel_rfl)) ?_; simp only [Act.put, List.setIfInBounds_toArray, List.set_cons_zero, List.set_cons_succ])
          (refine tree_load rfl rfl (⟨w.heap.size + 1, 0, none⟩) (by kernel_rfl) (.agg #[.int .i64 rx1, .int .i64 ry1, .int .i64 rw1, .int .i64 rh1]) (fun w' hw' => run_loadVar_row w' _ _ _ _ _ _ (A1.later hw') Try.underlying37 rfl (by kernel_rfl)) ?_; simp only [Act.put, List.setIfInBounds_toArray, List.set_cons_zero, List.set_cons_succ])
          (refine tree_plain rfl rfl ?_ ?_ ?_; rotate_left; focus (intro w9; go_simp <;> with_reducible rfl)); (simp only [Act.put, List.setIfInBounds_toArray, List.set_cons_zero, List.set_cons_succ])
          (refine tree_plain rfl rfl ?_ ?_ ?_; rotate_left; focus (intro w9; go_simp <;> with_reducible rfl)); (simp only [Act.put, List.setIfInBounds_toArray, List.set_cons_zero, List.set_cons_succ])
          have g_ : Below V34.heap.size V34 V34.drew := below_drew V34
          generalize V34.drew = V35 at *
          refine tree_fork ?_ ?_
          · skip
            refine tree_call rfl rfl 17 #[] #[] rfl _ Try.func17 (by kernel_rfl) (by kernel_rfl) [.agg #[.int .i64 wd0, .int .i64 hi0, .bool wr0, .slice a0_0 x0_0.length c0_0, .slice a0_1 x0_1.length c0_1]] (by kernel_rfl) #[.agg #[.int .i64 wd0, .int .i64 hi0, .bool wr0, .slice a0_0 x0_0.length c0_0, .slice a0_1 x0_1.length c0_1]] (by simp) _ (toSheet_any _ _ _ _ _ _ _ _ _ _ (r0_0.later (HB.out.trans (Below.mono g_ HB.out.size))) (r0_1.later (HB.out.trans (Below.mono g_ HB.out.size))) n0_0 n0_1) ?_
            rintro e V36 ⟨gh0_0, gh0_1, rfl, Ch0⟩
            have q0 := Ch0.below
            refine ⟨_, rfl, below_next g_ q0, ?_⟩
            simp only [Act.put, List.setIfInBounds_toArray, List.set_cons_zero, List.set_cons_succ]
            replace g_ := below_next g_ q0
            have lq0 := q0.size
            refine tree_fork ?_ ?_
            · skip
              refine tree_call rfl rfl 25 #[] #[] rfl _ Try.func25 (by kernel_rfl) (by kernel_rfl) [.agg #[.int .i64 rx1, .int .i64 ry1, .int .i64 rw1, .int .i64 rh1]] (by kernel_rfl) #[.agg #[.int .i64 rx1, .int .i64 ry1, .int .i64 rw1, .int .i64 rh1]] (by simp) _ (toRect_any _ _ _ _ _  ) ?_
              rintro e V37 ⟨rfl, Ch1⟩
              have q1 := Ch1
              refine ⟨_, rfl, below_next g_ q1, ?_⟩
              simp only [Act.put, List.setIfInBounds_toArray, List.set_cons_zero, List.set_cons_succ]
              replace g_ := below_next g_ q1
              have lq1 := q1.size
              refine tree_fork ?_ ?_
              · skip
                have lg0 := Below.size g_
                refine tree_call rfl rfl 40 #[] #[] rfl _ Try.func40 (by kernel_rfl) (by kernel_rfl) [.agg #[.int .i64 wd0, .int .i64 hi0, .bool wr0, .slice (some ⟨gh0_0, 0, none⟩) x0_0.length x0_0.length, .slice (some ⟨gh0_1, 0, none⟩) x0_1.length x0_1.length], .agg #[.int .i64 rx1, .int .i64 ry1, .int .i64 rw1, .int .i64 rh1], .float .f32 a2, .float .f32 a3] (by kernel_rfl) #[.agg #[.int .i64 wd0, .int .i64 hi0, .bool wr0, .slice (some ⟨gh0_0, 0, none⟩) x0_0.length x0_0.length, .slice (some ⟨gh0_1, 0, none⟩) x0_1.length x0_1.length], .agg #[.int .i64 rx1, .int .i64 ry1, .int .i64 rw1, .int .i64 rh1], .float .f32 a2, .float .f32 a3] (by simp) _ (implFillRectL _ _ _ _ _ _ _ _ _ _ _ _ _ _ _ _ (Ch0.o0.row.later q1) (Ch0.o1.row.later q1) b0_0 b0_1 m0_0 m0_1 w2 w3) ?_
                rintro e V38 ⟨ah0, ah1, ch0, ch1, yh0, yh1, rfl, Gh⟩
                have q2 := Gh.below
                refine ⟨_, rfl, below_next g_ q2, ?_⟩
                simp only [Act.put, List.setIfInBounds_toArray, List.set_cons_zero, List.set_cons_succ]
                replace g_ := below_next g_ q2
                have lq2 := q2.size
                (refine tree_plain rfl rfl ?_ ?_ ?_; rotate_left; focus (intro w9; go_simp <;> with_reducible rfl)); (simp only [Act.put, List.setIfInBounds_toArray, List.set_cons_zero, List.set_cons_succ])
                (refine tree_plain rfl rfl ?_ ?_ ?_; rotate_left; focus (intro w9; go_simp <;> with_reducible rfl)); (simp only [Act.put, List.setIfInBounds_toArray, List.set_cons_zero, List.set_cons_succ])
                (refine tree_plain rfl rfl ?_ ?_ ?_; rotate_left; focus (intro w9; go_simp <;> with_reducible rfl)); (simp only [Act.put, List.setIfInBounds_toArray, List.set_cons_zero, List.set_cons_succ])
                refine tree_make rfl rfl (.pointer (some ⟨V38.heap.size, 0, none⟩)) (V38.alloc (.cells #[.int .i64 0, .int .i64 0, .bool false, .slice none 0 0, .slice none 0 0] 29)) (by go_simp <;> with_reducible rfl) (below_next g_ (below_new _ _)) ?_
                simp only [Act.put, List.setIfInBounds_toArray, List.set_cons_zero, List.set_cons_succ]
                have lg := Below.size g_
                refine ⟨_, rfl, ?_⟩
                go_wp2_with fail
                refine And.intro ?_ ?_
                · exact below_next g_ (below_new _ _)
                change wpList _ _ _ _ _ _
                simp only [List.drop_succ_cons, List.drop_zero]
                go_wp2_with fail
                refine NoPanic.normal ?_
                go_wp2
                go_meet
                case rel =>
                  refine ⟨_, ah0, ah1, ch0, ch1, yh0, yh1, rfl, rfl, ?_⟩
                  exact MetSheet.last g_ Gh.o0 Gh.o1 Gh.s0 Gh.s1
              · skip
                refine tree_make rfl rfl (.pointer (some ⟨V37.heap.size, 0, none⟩)) (V37.alloc (.cells #[.int .i64 0, .int .i64 0, .bool false, .slice none 0 0, .slice none 0 0] 29)) (by go_simp <;> with_reducible rfl) (below_next g_ (below_new _ _)) ?_
                simp only [Act.put, List.setIfInBounds_toArray, List.set_cons_zero, List.set_cons_succ]
                have ln : V37.heap.size < (V37.alloc (.cells #[.int .i64 0, .int .i64 0, .bool false, .slice none 0 0, .slice none 0 0] 29)).heap.size := lt_here _ _
                have bx := Blk.new V37 #[.int .i64 0, .int .i64 0, .bool false, .slice none 0 0, .slice none 0 0] 29
                have qn := below_new V37 (.cells #[.int .i64 0, .int .i64 0, .bool false, .slice none 0 0, .slice none 0 0] 29)
                have lg := Below.size g_
                replace g_ := below_next g_ qn
                generalize V37.alloc (.cells #[.int .i64 0, .int .i64 0, .bool false, .slice none 0 0, .slice none 0 0] 29) = V39 at *
                have lg0 := Below.size g_
                refine tree_call rfl rfl 40 #[] #[] rfl _ Try.func40 (by kernel_rfl) (by kernel_rfl) [.agg #[.int .i64 wd0, .int .i64 hi0, .bool wr0, .slice (some ⟨gh0_0, 0, none⟩) x0_0.length x0_0.length, .slice (some ⟨gh0_1, 0, none⟩) x0_1.length x0_1.length], .agg #[.int .i64 rx1, .int .i64 ry1, .int .i64 rw1, .int .i64 rh1], .float .f32 a2, .float .f32 a3] (by kernel_rfl) #[.agg #[.int .i64 wd0, .int .i64 hi0, .bool wr0, .slice (some ⟨gh0_0, 0, none⟩) x0_0.length x0_0.length, .slice (some ⟨gh0_1, 0, none⟩) x0_1.length x0_1.length], .agg #[.int .i64 rx1, .int .i64 ry1, .int .i64 rw1, .int .i64 rh1], .float .f32 a2, .float .f32 a3] (by simp) _ (implFillRectL _ _ _ _ _ _ _ _ _ _ _ _ _ _ _ _ ((Ch0.o0.row.later q1).later qn) ((Ch0.o1.row.later q1).later qn) b0_0 b0_1 m0_0 m0_1 w2 w3) ?_
                rintro e V40 ⟨ah0, ah1, ch0, ch1, yh0, yh1, rfl, Gh⟩
                have q2 := Gh.below
                refine ⟨_, rfl, below_next g_ q2, ?_⟩
                simp only [Act.put, List.setIfInBounds_toArray, List.set_cons_zero, List.set_cons_succ]
                replace g_ := below_next g_ q2
                have lq2 := q2.size
                replace bx := bx.later q2
                (refine tree_plain rfl rfl ?_ ?_ ?_; rotate_left; focus (intro w9; go_simp <;> with_reducible rfl)); (simp only [Act.put, List.setIfInBounds_toArray, List.set_cons_zero, List.set_cons_succ])
                (refine tree_plain rfl rfl ?_ ?_ ?_; rotate_left; focus (intro w9; go_simp <;> with_reducible rfl)); (simp only [Act.put, List.setIfInBounds_toArray, List.set_cons_zero, List.set_cons_succ])
                (refine tree_plain rfl rfl ?_ ?_ ?_; rotate_left; focus (intro w9; go_simp <;> with_reducible rfl)); (simp only [Act.put, List.setIfInBounds_toArray, List.set_cons_zero, List.set_cons_succ])
                obtain ⟨bxc, bxf⟩ := bx.open
                refine ⟨_, rfl, ?_⟩
                go_wp2_with fail
                refine And.intro ?_ ?_
                · exact (((((g_.setCell (p := ⟨_, 0, none⟩) lg _).setCell (p := ⟨_, 1, none⟩) lg _).setCell (p := ⟨_, 2, none⟩) lg _).setCell (p := ⟨_, 3, none⟩) lg _).setCell (p := ⟨_, 4, none⟩) lg _)
                change wpList _ _ _ _ _ _
                simp only [List.drop_succ_cons, List.drop_zero]
                go_wp2_with fail
                refine NoPanic.normal ?_
                go_wp2
                go_meet
                case rel =>
                  refine ⟨V37.heap.size, ah0, ah1, ch0, ch1, yh0, yh1, rfl, rfl, ?_⟩
                  exact MetSheet.early g_ (by omega) (by omega) bx Gh.o0 Gh.o1 Gh.s0 Gh.s1
            · skip
              refine tree_make rfl rfl (.pointer (some ⟨V36.heap.size, 0, none⟩)) (V36.alloc (.cells #[.int .i64 0, .int .i64 0, .bool false, .slice none 0 0, .slice none 0 0] 29)) (by go_simp <;> with_reducible rfl) (below_next g_ (below_new _ _)) ?_
              simp only [Act.put, List.setIfInBounds_toArray, List.set_cons_zero, List.set_cons_succ]
              have ln : V36.heap.size < (V36.alloc (.cells #[.int .i64 0, .int .i64 0, .bool false, .slice none 0 0, .slice none 0 0] 29)).heap.size := lt_here _ _
              have bx := Blk.new V36 #[.int .i64 0, .int .i64 0, .bool false, .slice none 0 0, .slice none 0 0] 29
              have qn := below_new V36 (.cells #[.int .i64 0, .int .i64 0, .bool false, .slice none 0 0, .slice none 0 0] 29)
              have lg := Below.size g_
              replace g_ := below_next g_ qn
              generalize V36.alloc (.cells #[.int .i64 0, .int .i64 0, .bool false, .slice none 0 0, .slice none 0 0] 29) = V41 at *
              refine tree_call rfl rfl 25 #[] #[] rfl _ Try.func25 (by kernel_rfl) (by kernel_rfl) [.agg #[.int .i64 rx1, .int .i64 ry1, .int .i64 rw1, .int .i64 rh1]] (by kernel_rfl) #[.agg #[.int .i64 rx1, .int .i64 ry1, .int .i64 rw1, .int .i64 rh1]] (by simp) _ (toRect_any _ _ _ _ _  ) ?_
              rintro e V42 ⟨rfl, Ch1⟩
              have q1 := Ch1
              refine ⟨_, rfl, below_next g_ q1, ?_⟩
              simp only [Act.put, List.setIfInBounds_toArray, List.set_cons_zero, List.set_cons_succ]
              replace g_ := below_next g_ q1
              have lq1 := q1.size
              replace bx := bx.later q1
              have lg0 := Below.size g_
              refine tree_call rfl rfl 40 #[] #[] rfl _ Try.func40 (by kernel_rfl) (by kernel_rfl) [.agg #[.int .i64 wd0, .int .i64 hi0, .bool wr0, .slice (some ⟨gh0_0, 0, none⟩) x0_0.length x0_0.length, .slice (some ⟨gh0_1, 0, none⟩) x0_1.length x0_1.length], .agg #[.int .i64 rx1, .int .i64 ry1, .int .i64 rw1, .int .i64 rh1], .float .f32 a2, .float .f32 a3] (by kernel_rfl) #[.agg #[.int .i64 wd0, .int .i64 hi0, .bool wr0, .slice (some ⟨gh0_0, 0, none⟩) x0_0.length x0_0.length, .slice (some ⟨gh0_1, 0, none⟩) x0_1.length x0_1.length], .agg #[.int .i64 rx1, .int .i64 ry1, .int .i64 rw1, .int .i64 rh1], .float .f32 a2, .float .f32 a3] (by simp) _ (implFillRectL _ _ _ _ _ _ _ _ _ _ _ _ _ _ _ _ ((Ch0.o0.row.later qn).later q1) ((Ch0.o1.row.later qn).later q1) b0_0 b0_1 m0_0 m0_1 w2 w3) ?_
              rintro e V43 ⟨ah0, ah1, ch0, ch1, yh0, yh1, rfl, Gh⟩
              have q2 := Gh.below
              refine ⟨_, rfl, below_next g_ q2, ?_⟩
              simp only [Act.put, List.setIfInBounds_toArray, List.set_cons_zero, List.set_cons_succ]
              replace g_ := below_next g_ q2
              have lq2 := q2.size
              replace bx := bx.later q2
              (refine tree_plain rfl rfl ?_ ?_ ?_; rotate_left; focus (intro w9; go_simp <;> with_reducible rfl)); (simp only [Act.put, List.setIfInBounds_toArray, List.set_cons_zero, List.set_cons_succ])
              (refine tree_plain rfl rfl ?_ ?_ ?_; rotate_left; focus (intro w9; go_simp <;> with_reducible rfl)); (simp only [Act.put, List.setIfInBounds_toArray, List.set_cons_zero, List.set_cons_succ])
              (refine tree_plain rfl rfl ?_ ?_ ?_; rotate_left; focus (intro w9; go_simp <;> with_reducible rfl)); (simp only [Act.put, List.setIfInBounds_toArray, List.set_cons_zero, List.set_cons_succ])
              obtain ⟨bxc, bxf⟩ := bx.open
              refine ⟨_, rfl, ?_⟩
              go_wp2_with fail
              refine And.intro ?_ ?_
              · exact (((((g_.setCell (p := ⟨_, 0, none⟩) lg _).setCell (p := ⟨_, 1, none⟩) lg _).setCell (p := ⟨_, 2, none⟩) lg _).setCell (p := ⟨_, 3, none⟩) lg _).setCell (p := ⟨_, 4, none⟩) lg _)
              change wpList _ _ _ _ _ _
              simp only [List.drop_succ_cons, List.drop_zero]
              go_wp2_with fail
              refine NoPanic.normal ?_
              go_wp2
              go_meet
              case rel =>
                refine ⟨V36.heap.size, ah0, ah1, ch0, ch1, yh0, yh1, rfl, rfl, ?_⟩
                exact MetSheet.early g_ (by omega) (by omega) bx Gh.o0 Gh.o1 Gh.s0 Gh.s1
          · skip
            refine tree_make rfl rfl (.pointer (some ⟨V35.heap.size, 0, none⟩)) (V35.alloc (.cells #[.int .i64 0, .int .i64 0, .bool false, .slice none 0 0, .slice none 0 0] 29)) (by go_simp <;> with_reducible rfl) (below_next g_ (below_new _ _)) ?_
            simp only [Act.put, List.setIfInBounds_toArray, List.set_cons_zero, List.set_cons_succ]
            have ln : V35.heap.size < (V35.alloc (.cells #[.int .i64 0, .int .i64 0, .bool false, .slice none 0 0, .slice none 0 0] 29)).heap.size := lt_here _ _
            have bx := Blk.new V35 #[.int .i64 0, .int .i64 0, .bool false, .slice none 0 0, .slice none 0 0] 29
            have qn := below_new V35 (.cells #[.int .i64 0, .int .i64 0, .bool false, .slice none 0 0, .slice none 0 0] 29)
            have lg := Below.size g_
            replace g_ := below_next g_ qn
            generalize V35.alloc (.cells #[.int .i64 0, .int .i64 0, .bool false, .slice none 0 0, .slice none 0 0] 29) = V44 at *
            refine tree_call rfl rfl 17 #[] #[] rfl _ Try.func17 (by kernel_rfl) (by kernel_rfl) [.agg #[.int .i64 wd0, .int .i64 hi0, .bool wr0, .slice a0_0 x0_0.length c0_0, .slice a0_1 x0_1.length c0_1]] (by kernel_rfl) #[.agg #[.int .i64 wd0, .int .i64 hi0, .bool wr0, .slice a0_0 x0_0.length c0_0, .slice a0_1 x0_1.length c0_1]] (by simp) _ (toSheet_any _ _ _ _ _ _ _ _ _ _ (r0_0.later (HB.out.trans (Below.mono g_ HB.out.size))) (r0_1.later (HB.out.trans (Below.mono g_ HB.out.size))) n0_0 n0_1) ?_
            rintro e V45 ⟨gh0_0, gh0_1, rfl, Ch0⟩
            have q0 := Ch0.below
            refine ⟨_, rfl, below_next g_ q0, ?_⟩
            simp only [Act.put, List.setIfInBounds_toArray, List.set_cons_zero, List.set_cons_succ]
            replace g_ := below_next g_ q0
            have lq0 := q0.size
            replace bx := bx.later q0
            refine tree_call rfl rfl 25 #[] #[] rfl _ Try.func25 (by kernel_rfl) (by kernel_rfl) [.agg #[.int .i64 rx1, .int .i64 ry1, .int .i64 rw1, .int .i64 rh1]] (by kernel_rfl) #[.agg #[.int .i64 rx1, .int .i64 ry1, .int .i64 rw1, .int .i64 rh1]] (by simp) _ (toRect_any _ _ _ _ _  ) ?_
            rintro e V46 ⟨rfl, Ch1⟩
            have q1 := Ch1
            refine ⟨_, rfl, below_next g_ q1, ?_⟩
            simp only [Act.put, List.setIfInBounds_toArray, List.set_cons_zero, List.set_cons_succ]
            replace g_ := below_next g_ q1
            have lq1 := q1.size
            replace bx := bx.later q1
            have lg0 := Below.size g_
            refine tree_call rfl rfl 40 #[] #[] rfl _ Try.func40 (by kernel_rfl) (by kernel_rfl) [.agg #[.int .i64 wd0, .int .i64 hi0, .bool wr0, .slice (some ⟨gh0_0, 0, none⟩) x0_0.length x0_0.length, .slice (some ⟨gh0_1, 0, none⟩) x0_1.length x0_1.length], .agg #[.int .i64 rx1, .int .i64 ry1, .int .i64 rw1, .int .i64 rh1], .float .f32 a2, .float .f32 a3] (by kernel_rfl) #[.agg #[.int .i64 wd0, .int .i64 hi0, .bool wr0, .slice (some ⟨gh0_0, 0, none⟩) x0_0.length x0_0.length, .slice (some ⟨gh0_1, 0, none⟩) x0_1.length x0_1.length], .agg #[.int .i64 rx1, .int .i64 ry1, .int .i64 rw1, .int .i64 rh1], .float .f32 a2, .float .f32 a3] (by simp) _ (implFillRectL _ _ _ _ _ _ _ _ _ _ _ _ _ _ _ _ (Ch0.o0.row.later q1) (Ch0.o1.row.later q1) b0_0 b0_1 m0_0 m0_1 w2 w3) ?_
            rintro e V47 ⟨ah0, ah1, ch0, ch1, yh0, yh1, rfl, Gh⟩
            have q2 := Gh.below
            refine ⟨_, rfl, below_next g_ q2, ?_⟩
            simp only [Act.put, List.setIfInBounds_toArray, List.set_cons_zero, List.set_cons_succ]
            replace g_ := below_next g_ q2
            have lq2 := q2.size
            replace bx := bx.later q2
            (refine tree_plain rfl rfl ?_ ?_ ?_; rotate_left; focus (intro w9; go_simp <;> with_reducible rfl)); (simp only [Act.put, List.setIfInBounds_toArray, List.set_cons_zero, List.set_cons_succ])
            (refine tree_plain rfl rfl ?_ ?_ ?_; rotate_left; focus (intro w9; go_simp <;> with_reducible rfl)); (simp only [Act.put, List.setIfInBounds_toArray, List.set_cons_zero, List.set_cons_succ])
            (refine tree_plain rfl rfl ?_ ?_ ?_; rotate_left; focus (intro w9; go_simp <;> with_reducible rfl)); (simp only [Act.put, List.setIfInBounds_toArray, List.set_cons_zero, List.set_cons_succ])
            obtain ⟨bxc, bxf⟩ := bx.open
            refine ⟨_, rfl, ?_⟩
            go_wp2_with fail
            refine And.intro ?_ ?_
            · exact (((((g_.setCell (p := ⟨_, 0, none⟩) lg _).setCell (p := ⟨_, 1, none⟩) lg _).setCell (p := ⟨_, 2, none⟩) lg _).setCell (p := ⟨_, 3, none⟩) lg _).setCell (p := ⟨_, 4, none⟩) lg _)
            change wpList _ _ _ _ _ _
            simp only [List.drop_succ_cons, List.drop_zero]
            go_wp2_with fail
            refine NoPanic.normal ?_
            go_wp2
            go_meet
            case rel =>
              refine ⟨V35.heap.size, ah0, ah1, ch0, ch1, yh0, yh1, rfl, rfl, ?_⟩
              exact MetSheet.early g_ (by omega) (by omega) bx Gh.o0 Gh.o1 Gh.s0 Gh.s1
        case rest =>
          obtain ⟨bwh, ah0, ah1, ch0, ch1, yh0, yh1, rfl, rfl, Gh⟩ := hcut
          generalize wc = V48 at *
          have q := Gh.below
          replace A0 := A0.later q
          replace A1 := A1.later q
          replace Bw := Bw.later q
          replace X0 := X0.later q
          replace Bi := Bi.later q
          replace Rw0 := Lib.hid (Rw0.out.later q)
          replace Rw1 := Lib.hid (Rw1.out.later q)
          replace O0_0 := Lib.hid (O0_0.out.later q)
          replace O0_1 := Lib.hid (O0_1.out.later q)
          replace Ri0 := Lib.hid (Ri0.out.later q)
          replace Ri1 := Lib.hid (Ri1.out.later q)
          replace HB := Lib.hid (HB.out.trans (q.mono HB.out.size))
          have sz48 : V34.heap.size ≤ V48.heap.size := q.size
          clear q
          have Rh0 := Lib.hid Gh.r0
          have lwh0 := Gh.r0.low
          have Rh1 := Lib.hid Gh.r1
          have lwh1 := Gh.r1.low
          have Bh := Gh.box
          have sblh := Gh.le; have sbhh := Bh.lt
          have Sh0 := Lib.hid Gh.s0
          have Sh1 := Lib.hid Gh.s1
          obtain ⟨Bhc, Bhf⟩ := Bh.open
          obtain ⟨Bwc, Bwf⟩ := Bw.open
          go_wp2_with fail
          refine (eqSheet_any _ _ _ _ _ _ _ _ _ _ _ _ _ _ _ _ Rh0.out Rh1.out Rw0.out Rw1.out (Sh0.out.same Sw0.out) (Sh1.out.same Sw1.out) (few_max Sh0.out) (few_max Sh1.out)).mono ?_
          rintro e V49 ⟨rfl, q⟩
          clear Bhc Bhf
          clear Bwc Bwf
          replace A0 := A0.later q
          replace A1 := A1.later q
          replace Bw := Bw.later q
          replace X0 := X0.later q
          replace Bi := Bi.later q
          replace Bh := Bh.later q
          replace Rw0 := Lib.hid (Rw0.out.later q)
          replace Rw1 := Lib.hid (Rw1.out.later q)
          replace O0_0 := Lib.hid (O0_0.out.later q)
          replace O0_1 := Lib.hid (O0_1.out.later q)
          replace Ri0 := Lib.hid (Ri0.out.later q)
          replace Ri1 := Lib.hid (Ri1.out.later q)
          replace Rh0 := Lib.hid (Rh0.out.later q)
          replace Rh1 := Lib.hid (Rh1.out.later q)
          replace HB := Lib.hid (HB.out.trans (q.mono HB.out.size))
          have sz49 : V48.heap.size ≤ V49.heap.size := q.size
          clear q
          obtain ⟨Bic, Bif⟩ := Bi.open
          go_wp2_with fail
          refine (heldSheet_any (ifI (fillB wd0 hi0 x0_0 x0_1 rx1 ry1 rw1 rh1 a2 a3) wd0) (ifI (fillB wd0 hi0 x0_0 x0_1 rx1 ry1 rw1 rh1 a2 a3) hi0) (ifB (fillB wd0 hi0 x0_0 x0_1 rx1 ry1 rw1 rh1 a2 a3) wr0) _ _ _ _ yi0.length yi1.length 1 _ Ri0.out.row Ri1.out.row (by omega) (by omega)).mono ?_
          rintro e V50 ⟨rfl, q⟩
          clear Bic Bif
          replace A0 := A0.later q
          replace A1 := A1.later q
          replace Bw := Bw.later q
          replace X0 := X0.later q
          replace Bi := Bi.later q
          replace Bh := Bh.later q
          replace Rw0 := Lib.hid (Rw0.out.later q)
          replace Rw1 := Lib.hid (Rw1.out.later q)
          replace O0_0 := Lib.hid (O0_0.out.later q)
          replace O0_1 := Lib.hid (O0_1.out.later q)
          replace Ri0 := Lib.hid (Ri0.out.later q)
          replace Ri1 := Lib.hid (Ri1.out.later q)
          replace Rh0 := Lib.hid (Rh0.out.later q)
          replace Rh1 := Lib.hid (Rh1.out.later q)
          replace HB := Lib.hid (HB.out.trans (q.mono HB.out.size))
          have sz50 : V49.heap.size ≤ V50.heap.size := q.size
          clear q
          go_wp2
          go_ret
          exact ⟨rfl, HB.out⟩
  · skip
    go_enter Try.func8, Try.ntmps8
    go_wp2_with fail
    generalize ((w.alloc (.cells #[.int .i64 wd0, .int .i64 hi0, .bool wr0, .slice a0_0 x0_0.length c0_0, .slice a0_1 x0_1.length c0_1] 24)).alloc (.cells #[.int .i64 rx1, .int .i64 ry1, .int .i64 rw1, .int .i64 rh1] 37)) = V1 at *
    obtain ⟨A0c, A0f⟩ := A0.open
    refine (szSheet_no _ _ _ _ _ _ _ _ _ _ _ (by omega) (by omega) (by omega) m0_0 m0_1).mono ?_
    rintro e V2 ⟨rfl, q⟩
    clear A0c A0f
    replace A0 := A0.later q
    replace A1 := A1.later q
    replace HB := Lib.hid (HB.out.trans (q.mono HB.out.size))
    have sz2 : V1.heap.size ≤ V2.heap.size := q.size
    clear q
    go_wp2
    go_ret
    exact ⟨rfl, HB.out⟩
end Go.Proofs.Ythlkndjllhdppaa
