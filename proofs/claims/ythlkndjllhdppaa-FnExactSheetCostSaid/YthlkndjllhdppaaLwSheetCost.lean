/- The walk of the law on SheetCost. Conditions: none beyond those of each theorem. -/
import Derived.Test.YthlkndjllhdppaaBu6
import Derived.Test.YthlkndjllhdppaaCost
import Derived.Test.YthlkndjllhdppaaBu2
namespace Go.Proofs.Ythlkndjllhdppaa
open Go Ieee Go.RowKit
set_option linter.unusedVariables false

set_option maxHeartbeats 16000000 in
set_option maxRecDepth 100000 in
theorem fnExactSheetCost_walk (wd0 : Int) (hi0 : Int) (wr0 : Bool) (a0_0 a0_1 : Option Addr) (c0_0 c0_1 : Nat) (x0_0 x0_1 : List Nat) (w : World) (r0_0 : RowV w a0_0 (fvals x0_0)) (r0_1 : RowV w a0_1 (fvals x0_1)) (b0_0 : ∀ x ∈ x0_0, x < 2 ^ 32) (b0_1 : ∀ x ∈ x0_1, x < 2 ^ 32) (m0_0 : x0_0.length ≤ maxLen) (m0_1 : x0_1.length ≤ maxLen) :
    Calls Try.prog 14 #[.agg #[.int .i64 wd0, .int .i64 hi0, .bool wr0, .slice a0_0 x0_0.length c0_0, .slice a0_1 x0_1.length c0_1]] w fun e w' => e = .returned (.bool true) ∧ Below w.heap.size w w' := by
  have A0 := Blk.new w #[.int .i64 wd0, .int .i64 hi0, .bool wr0, .slice a0_0 x0_0.length c0_0, .slice a0_1 x0_1.length c0_1] 24
  have HB : Hid (Below w.heap.size w (w.alloc (.cells #[.int .i64 wd0, .int .i64 hi0, .bool wr0, .slice a0_0 x0_0.length c0_0, .slice a0_1 x0_1.length c0_1] 24))) := Lib.hid ((Below.refl w.heap.size w).alloc (by simp <;> omega) _)
  by_cases hs0 : (x0_0.length : Int) + (x0_1.length : Int) ≤ 1048576
  · skip
    have n0_0 : x0_0.length ≤ 1048576 := by omega
    have n0_1 : x0_1.length ≤ 1048576 := by omega
    go_enter Try.func14, Try.ntmps14
    go_wp2_with fail
    generalize (w.alloc (.cells #[.int .i64 wd0, .int .i64 hi0, .bool wr0, .slice a0_0 x0_0.length c0_0, .slice a0_1 x0_1.length c0_1] 24)) = V1 at *
    obtain ⟨A0c, A0f⟩ := A0.open
    refine (szSheet_yes _ _ _ _ _ _ _ _ _ _ _ hs0 (by omega)).mono ?_
    rintro e V2 ⟨rfl, q⟩
    clear A0c A0f
    replace A0 := A0.later q
    replace HB := Lib.hid (HB.out.trans (q.mono HB.out.size))
    clear q
    have za0 := A0.lt
    have zh := HB.out.size
    obtain ⟨A0c, A0f⟩ := A0.open
    go_wp2_with fail
    clear hs0
    clear A0c A0f
    refine (toSheet_any _ _ _ _ _ _ _ _ _ _ (r0_0.later HB.out) (r0_1.later HB.out) n0_0 n0_1).mono ?_
    rintro e V3 ⟨gw0_0, gw0_1, rfl, Cw0⟩
    replace A0 := A0.later Cw0.below
    replace HB := Lib.hid (HB.out.trans (Cw0.below.mono HB.out.size))
    have sz3 : V2.heap.size ≤ V3.heap.size := Cw0.below.size
    go_wp2_with fail
    refine (specSheetCostL _ _ _ _ _ _ _ _ _ _ Cw0.o0.row Cw0.o1.row b0_0 b0_1 m0_0 m0_1).mono ?_
    rintro e V4 ⟨rfl, bw⟩
    replace A0 := A0.later bw
    replace HB := Lib.hid (HB.out.trans (bw.mono HB.out.size))
    have sz4 : V3.heap.size ≤ V4.heap.size := bw.size
    obtain ⟨A0c, A0f⟩ := A0.open
    go_wp2_with fail
    refine (toSheet_any _ _ _ _ _ _ _ _ _ _ (r0_0.later HB.out) (r0_1.later HB.out) n0_0 n0_1).mono ?_
    rintro e V5 ⟨gx0_0, gx0_1, rfl, Cx0⟩
    clear A0c A0f
    replace A0 := A0.later Cx0.below
    replace HB := Lib.hid (HB.out.trans (Cx0.below.mono HB.out.size))
    have sz5 : V4.heap.size ≤ V5.heap.size := Cx0.below.size
    have O0_0 := Lib.hid Cx0.o0
    have so0_0 := Cx0.o0.span
    have O0_1 := Lib.hid Cx0.o1
    have so0_1 := Cx0.o1.span
    have ll0_0 := Cx0.l0
    have X0 := Blk.new V5 #[.int .i64 wd0, .int .i64 hi0, .bool wr0, .slice (some ⟨gx0_0, 0, none⟩) x0_0.length x0_0.length, .slice (some ⟨gx0_1, 0, none⟩) x0_1.length x0_1.length] 29
    have q := below_new V5 (.cells #[.int .i64 wd0, .int .i64 hi0, .bool wr0, .slice (some ⟨gx0_0, 0, none⟩) x0_0.length x0_0.length, .slice (some ⟨gx0_1, 0, none⟩) x0_1.length x0_1.length] 29)
    replace A0 := A0.later q
    replace O0_0 := Lib.hid (O0_0.out.later q)
    replace O0_1 := Lib.hid (O0_1.out.later q)
    replace HB := Lib.hid (HB.out.trans (q.mono HB.out.size))
    clear q
    obtain ⟨X0c, X0f⟩ := X0.open
    go_wp2_with fail
    generalize V5.alloc (.cells #[.int .i64 wd0, .int .i64 hi0, .bool wr0, .slice (some ⟨gx0_0, 0, none⟩) x0_0.length x0_0.length, .slice (some ⟨gx0_1, 0, none⟩) x0_1.length x0_1.length] 29) = V6 at *
    have sz6 : V5.heap.size < V6.heap.size := X0.lt
    clear X0c X0f
    refine (implSheetCostL _ _ _ _ _ _ _ _ _ _ O0_0.out.row O0_1.out.row b0_0 b0_1 m0_0 m0_1).mono ?_
    rintro e V7 ⟨rfl, bi⟩
    replace A0 := A0.later bi
    replace X0 := X0.later bi
    replace O0_0 := Lib.hid (O0_0.out.later bi)
    replace O0_1 := Lib.hid (O0_1.out.later bi)
    replace HB := Lib.hid (HB.out.trans (bi.mono HB.out.size))
    have sz7 : V6.heap.size ≤ V7.heap.size := bi.size
    obtain ⟨X0c, X0f⟩ := X0.open
    obtain ⟨A0c, A0f⟩ := A0.open
    go_wp2_with fail
    clear X0c X0f
    clear A0c A0f
    go_region_held3 (fun w' => (∀ i, w'.cell? ⟨V5.heap.size, i, none⟩ = (#[.int .i64 wd0, .int .i64 hi0, .bool wr0, .slice (some ⟨gx0_0, 0, none⟩) x0_0.length x0_0.length, .slice (some ⟨gx0_1, 0, none⟩) x0_1.length x0_1.length] : Array Value)[i]?) ∧ (∀ i, w'.cell? ⟨w.heap.size, i, none⟩ = (#[.int .i64 wd0, .int .i64 hi0, .bool wr0, .slice a0_0 x0_0.length c0_0, .slice a0_1 x0_1.length c0_1] : Array Value)[i]?) ∧ Below V7.heap.size V7 w') (first | with_reducible exact keep2_start X0 A0 | with_reducible exact keep2_later X0 A0 (by assumption) (by assumption))
      (first
        | (go_at_call 17; (with_reducible refine (toSheet_any _ _ _ _ _ _ _ _ _ _ (row_held2 r0_0 HB.out (by assumption)) (row_held2 r0_1 HB.out (by assumption)) n0_0 n0_1).mono ?_); rintro e V8 ⟨ge0_0, ge0_1, rfl, Ce0⟩; have qa0 := Ce0.below)
        | (go_at_call 20; (with_reducible refine (eqSheet_any _ _ _ _ _ _ _ _ _ _ _ _ _ _ _ _ (row_held2 O0_0.out.row (Below.refl _ _) (by assumption)) (row_held2 O0_1.out.row (Below.refl _ _) (by assumption)) Ce0.o0.row Ce0.o1.row (SameF.refl b0_0) (SameF.refl b0_1) m0_0 m0_1).mono ?_); rintro e V9 ⟨rfl, qa1⟩))
    have q := (below_next (below_next (below_drew V7) qa0) qa1)
    replace A0 := A0.later q
    replace X0 := X0.later q
    replace O0_0 := Lib.hid (O0_0.out.later q)
    replace O0_1 := Lib.hid (O0_1.out.later q)
    replace HB := Lib.hid (HB.out.trans (q.mono HB.out.size))
    have sz9 : V7.heap.size ≤ V9.heap.size := q.size
    clear q
    go_wp2
    go_ret
    exact ⟨rfl, HB.out⟩
  · skip
    go_enter Try.func14, Try.ntmps14
    go_wp2_with fail
    generalize (w.alloc (.cells #[.int .i64 wd0, .int .i64 hi0, .bool wr0, .slice a0_0 x0_0.length c0_0, .slice a0_1 x0_1.length c0_1] 24)) = V1 at *
    obtain ⟨A0c, A0f⟩ := A0.open
    refine (szSheet_no _ _ _ _ _ _ _ _ _ _ _ (by omega) (by omega) (by omega) m0_0 m0_1).mono ?_
    rintro e V2 ⟨rfl, q⟩
    clear A0c A0f
    replace A0 := A0.later q
    replace HB := Lib.hid (HB.out.trans (q.mono HB.out.size))
    have sz2 : V1.heap.size ≤ V2.heap.size := q.size
    clear q
    go_wp2
    go_ret
    exact ⟨rfl, HB.out⟩
end Go.Proofs.Ythlkndjllhdppaa
