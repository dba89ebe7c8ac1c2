/- The walk of the law on QuietAfter. Conditions: none beyond those of each theorem. -/
import Derived.Test.YtedfbaeajofmnabBu6
import Derived.Test.YtedfbaeajofmnabQuietI
import Derived.Test.YtedfbaeajofmnabQuietS
import Derived.Test.YtedfbaeajofmnabBu2
namespace Go.Proofs.Ytedfbaeajofmnab
open Go Ieee Go.RowKit
set_option linter.unusedVariables false

set_option maxHeartbeats 16000000 in
set_option maxRecDepth 100000 in
theorem fnExactQuietAfter_walk (wd0 : Int) (hi0 : Int) (wr0 : Bool) (a0_0 a0_1 : Option Addr) (c0_0 c0_1 : Nat) (x0_0 x0_1 : List Nat) (a1_0 a1_1 a1_2 : Option Addr) (c1_0 c1_1 c1_2 : Nat) (x1_0 x1_1 x1_2 : List Nat) (a2 : Nat) (a3 : Int) (w : World) (r0_0 : RowV w a0_0 (fvals x0_0)) (r0_1 : RowV w a0_1 (fvals x0_1)) (b0_0 : ∀ x ∈ x0_0, x < 2 ^ 32) (b0_1 : ∀ x ∈ x0_1, x < 2 ^ 32) (m0_0 : x0_0.length ≤ maxLen) (m0_1 : x0_1.length ≤ maxLen) (r1_0 : RowV w a1_0 (fvals x1_0)) (r1_1 : RowV w a1_1 (fvals x1_1)) (r1_2 : RowV w a1_2 (fvals x1_2)) (b1_0 : ∀ x ∈ x1_0, x < 2 ^ 32) (b1_1 : ∀ x ∈ x1_1, x < 2 ^ 32) (b1_2 : ∀ x ∈ x1_2, x < 2 ^ 32) (m1_0 : x1_0.length ≤ maxLen) (m1_1 : x1_1.length ≤ maxLen) (m1_2 : x1_2.length ≤ maxLen) (w2 : a2 < 2 ^ 32) (w3 : (Lit.int .i64 a3).wf = true) :
    Calls Try.prog 9 #[.agg #[.int .i64 wd0, .int .i64 hi0, .bool wr0, .slice a0_0 x0_0.length c0_0, .slice a0_1 x0_1.length c0_1], .agg #[.slice a1_0 x1_0.length c1_0, .slice a1_1 x1_1.length c1_1, .slice a1_2 x1_2.length c1_2], .float .f32 a2, .int .i64 a3] w fun e w' => e = .returned (.bool true) ∧ Below w.heap.size w w' := by
  have A0 := Blk.new w #[.int .i64 wd0, .int .i64 hi0, .bool wr0, .slice a0_0 x0_0.length c0_0, .slice a0_1 x0_1.length c0_1] 24
  have A1 := Blk.new1 w (.cells #[.int .i64 wd0, .int .i64 hi0, .bool wr0, .slice a0_0 x0_0.length c0_0, .slice a0_1 x0_1.length c0_1] 24) #[.slice a1_0 x1_0.length c1_0, .slice a1_1 x1_1.length c1_1, .slice a1_2 x1_2.length c1_2] 26
  replace A0 := A0.alloc (.cells #[.slice a1_0 x1_0.length c1_0, .slice a1_1 x1_1.length c1_1, .slice a1_2 x1_2.length c1_2] 26)
  have HB : Hid (Below w.heap.size w ((w.alloc (.cells #[.int .i64 wd0, .int .i64 hi0, .bool wr0, .slice a0_0 x0_0.length c0_0, .slice a0_1 x0_1.length c0_1] 24)).alloc (.cells #[.slice a1_0 x1_0.length c1_0, .slice a1_1 x1_1.length c1_1, .slice a1_2 x1_2.length c1_2] 26))) := Lib.hid (((Below.refl w.heap.size w).alloc (by simp <;> omega) _).alloc (by simp <;> omega) _)
  by_cases hs0 : (x0_0.length : Int) + (x0_1.length : Int) ≤ 1048576
  · skip
    by_cases hs1 : (x1_0.length : Int) + (x1_1.length : Int) + (x1_2.length : Int) ≤ 1048576 - ((x0_0.length : Int) + (x0_1.length : Int))
    · skip
      have n0_0 : x0_0.length ≤ 1048576 := by omega
      have n0_1 : x0_1.length ≤ 1048576 := by omega
      have n1_0 : x1_0.length ≤ 1048576 := by omega
      have n1_1 : x1_1.length ≤ 1048576 := by omega
      have n1_2 : x1_2.length ≤ 1048576 := by omega
      go_enter Try.func9, Try.ntmps9
      go_wp2_with fail
      generalize ((w.alloc (.cells #[.int .i64 wd0, .int .i64 hi0, .bool wr0, .slice a0_0 x0_0.length c0_0, .slice a0_1 x0_1.length c0_1] 24)).alloc (.cells #[.slice a1_0 x1_0.length c1_0, .slice a1_1 x1_1.length c1_1, .slice a1_2 x1_2.length c1_2] 26)) = V1 at *
      obtain ⟨A0c, A0f⟩ := A0.open
      refine (szSheet_yes _ _ _ _ _ _ _ _ _ _ _ hs0 (by omega)).mono ?_
      rintro e V2 ⟨rfl, q⟩
      clear A0c A0f
      replace A0 := A0.later q
      replace A1 := A1.later q
      replace HB := Lib.hid (HB.out.trans (q.mono HB.out.size))
      clear q
      obtain ⟨A1c, A1f⟩ := A1.open
      go_wp2_with fail
      refine (szField_yes _ _ _ _ _ _ _ _ _ _ _ hs1 (by omega)).mono ?_
      rintro e V3 ⟨rfl, q⟩
      clear A1c A1f
      replace A0 := A0.later q
      replace A1 := A1.later q
      replace HB := Lib.hid (HB.out.trans (q.mono HB.out.size))
      clear q
      have za0 := A0.lt
      have za1 := A1.lt
      have zh := HB.out.size
      obtain ⟨A0c, A0f⟩ := A0.open
      obtain ⟨A1c, A1f⟩ := A1.open
      go_wp2_with fail
      clear hs0
      clear hs1
      clear A0c A0f
      clear A1c A1f
      go_region_held3 (fun w' => (∀ i, w'.cell? ⟨w.heap.size, i, none⟩ = (#[.int .i64 wd0, .int .i64 hi0, .bool wr0, .slice a0_0 x0_0.length c0_0, .slice a0_1 x0_1.length c0_1] : Array Value)[i]?) ∧ (∀ i, w'.cell? ⟨w.heap.size + 1, i, none⟩ = (#[.slice a1_0 x1_0.length c1_0, .slice a1_1 x1_1.length c1_1, .slice a1_2 x1_2.length c1_2] : Array Value)[i]?) ∧ Below V3.heap.size V3 w') (first | with_reducible exact keep2_start A0 A1 | with_reducible exact keep2_later A0 A1 (by assumption) (by assumption))
        (first
          | (go_at_call 13; (with_reducible refine (toSheet_any _ _ _ _ _ _ _ _ _ _ (row_held2 r0_0 HB.out (by assumption)) (row_held2 r0_1 HB.out (by assumption)) n0_0 n0_1).mono ?_); rintro e V4 ⟨gw0_0, gw0_1, rfl, Cw0⟩; have qa0 := Cw0.below)
          | (go_at_call 14; (with_reducible refine (toField_any _ _ _ _ _ _ _ _ _ _ (row_held2 r1_0 HB.out (by assumption)) (row_held2 r1_1 HB.out (by assumption)) (row_held2 r1_2 HB.out (by assumption)) n1_0 n1_1 n1_2).mono ?_); rintro e V5 ⟨gw1_0, gw1_1, gw1_2, rfl, Cw1⟩; have qa1 := Cw1.below)
          | (go_at_call 34; (with_reducible refine (specQuietAfterL _ _ _ _ _ _ _ _ _ _ _ _ _ _ _ _ _ _ _ _ _ (Cw0.o0.row.later qa1) (Cw0.o1.row.later qa1) b0_0 b0_1 m0_0 m0_1 Cw1.o0.row Cw1.o1.row Cw1.o2.row b1_0 b1_1 b1_2 m1_0 m1_1 m1_2 w2 w3).mono ?_); rintro e V6 ⟨rfl, bw⟩; have qa2 := bw))
      have q := (below_next (below_next (below_next (below_drew V3) qa0) qa1) qa2)
      replace A0 := A0.later q
      replace A1 := A1.later q
      replace HB := Lib.hid (HB.out.trans (q.mono HB.out.size))
      have sz6 : V3.heap.size ≤ V6.heap.size := q.size
      clear q
      obtain ⟨A0c, A0f⟩ := A0.open
      go_wp2_with fail
      refine (toSheet_any _ _ _ _ _ _ _ _ _ _ (r0_0.later HB.out) (r0_1.later HB.out) n0_0 n0_1).mono ?_
      rintro e V7 ⟨gx0_0, gx0_1, rfl, Cx0⟩
      clear A0c A0f
      replace A0 := A0.later Cx0.below
      replace A1 := A1.later Cx0.below
      replace HB := Lib.hid (HB.out.trans (Cx0.below.mono HB.out.size))
      have sz7 : V6.heap.size ≤ V7.heap.size := Cx0.below.size
      have O0_0 := Lib.hid Cx0.o0
      have so0_0 := Cx0.o0.span
      have O0_1 := Lib.hid Cx0.o1
      have so0_1 := Cx0.o1.span
      have ll0_0 := Cx0.l0
      have X0 := Blk.new V7 #[.int .i64 wd0, .int .i64 hi0, .bool wr0, .slice (some ⟨gx0_0, 0, none⟩) x0_0.length x0_0.length, .slice (some ⟨gx0_1, 0, none⟩) x0_1.length x0_1.length] 32
      have q := below_new V7 (.cells #[.int .i64 wd0, .int .i64 hi0, .bool wr0, .slice (some ⟨gx0_0, 0, none⟩) x0_0.length x0_0.length, .slice (some ⟨gx0_1, 0, none⟩) x0_1.length x0_1.length] 32)
      replace A0 := A0.later q
      replace A1 := A1.later q
      replace O0_0 := Lib.hid (O0_0.out.later q)
      replace O0_1 := Lib.hid (O0_1.out.later q)
      replace HB := Lib.hid (HB.out.trans (q.mono HB.out.size))
      clear q
      obtain ⟨A1c, A1f⟩ := A1.open
      go_wp2_with fail
      generalize V7.alloc (.cells #[.int .i64 wd0, .int .i64 hi0, .bool wr0, .slice (some ⟨gx0_0, 0, none⟩) x0_0.length x0_0.length, .slice (some ⟨gx0_1, 0, none⟩) x0_1.length x0_1.length] 32) = V8 at *
      have sz8 : V7.heap.size < V8.heap.size := X0.lt
      refine (toField_any _ _ _ _ _ _ _ _ _ _ (r1_0.later HB.out) (r1_1.later HB.out) (r1_2.later HB.out) n1_0 n1_1 n1_2).mono ?_
      rintro e V9 ⟨gx1_0, gx1_1, gx1_2, rfl, Cx1⟩
      clear A1c A1f
      replace A0 := A0.later Cx1.below
      replace A1 := A1.later Cx1.below
      replace X0 := X0.later Cx1.below
      replace O0_0 := Lib.hid (O0_0.out.later Cx1.below)
      replace O0_1 := Lib.hid (O0_1.out.later Cx1.below)
      replace HB := Lib.hid (HB.out.trans (Cx1.below.mono HB.out.size))
      have sz9 : V8.heap.size ≤ V9.heap.size := Cx1.below.size
      have O1_0 := Lib.hid Cx1.o0
      have so1_0 := Cx1.o0.span
      have O1_1 := Lib.hid Cx1.o1
      have so1_1 := Cx1.o1.span
      have O1_2 := Lib.hid Cx1.o2
      have so1_2 := Cx1.o2.span
      have ll1_0 := Cx1.l0
      have ll1_1 := Cx1.l1
      have X1 := Blk.new V9 #[.slice (some ⟨gx1_0, 0, none⟩) x1_0.length x1_0.length, .slice (some ⟨gx1_1, 0, none⟩) x1_1.length x1_1.length, .slice (some ⟨gx1_2, 0, none⟩) x1_2.length x1_2.length] 29
      have q := below_new V9 (.cells #[.slice (some ⟨gx1_0, 0, none⟩) x1_0.length x1_0.length, .slice (some ⟨gx1_1, 0, none⟩) x1_1.length x1_1.length, .slice (some ⟨gx1_2, 0, none⟩) x1_2.length x1_2.length] 29)
      replace A0 := A0.later q
      replace A1 := A1.later q
      replace X0 := X0.later q
      replace O0_0 := Lib.hid (O0_0.out.later q)
      replace O0_1 := Lib.hid (O0_1.out.later q)
      replace O1_0 := Lib.hid (O1_0.out.later q)
      replace O1_1 := Lib.hid (O1_1.out.later q)
      replace O1_2 := Lib.hid (O1_2.out.later q)
      replace HB := Lib.hid (HB.out.trans (q.mono HB.out.size))
      clear q
      obtain ⟨X0c, X0f⟩ := X0.open
      obtain ⟨X1c, X1f⟩ := X1.open
      go_wp2_with fail
      generalize V9.alloc (.cells #[.slice (some ⟨gx1_0, 0, none⟩) x1_0.length x1_0.length, .slice (some ⟨gx1_1, 0, none⟩) x1_1.length x1_1.length, .slice (some ⟨gx1_2, 0, none⟩) x1_2.length x1_2.length] 29) = V10 at *
      have sz10 : V9.heap.size < V10.heap.size := X1.lt
      clear X0c X0f
      clear X1c X1f
      refine (implQuietAfterL _ _ _ _ _ _ _ _ _ _ _ _ _ _ _ _ _ _ _ _ _ O0_0.out.row O0_1.out.row b0_0 b0_1 m0_0 m0_1 O1_0.out.row O1_1.out.row O1_2.out.row b1_0 b1_1 b1_2 m1_0 m1_1 m1_2 w2 w3).mono ?_
      rintro e V11 ⟨rfl, bi⟩
      replace A0 := A0.later bi
      replace A1 := A1.later bi
      replace X0 := X0.later bi
      replace X1 := X1.later bi
      replace O0_0 := Lib.hid (O0_0.out.later bi)
      replace O0_1 := Lib.hid (O0_1.out.later bi)
      replace O1_0 := Lib.hid (O1_0.out.later bi)
      replace O1_1 := Lib.hid (O1_1.out.later bi)
      replace O1_2 := Lib.hid (O1_2.out.later bi)
      replace HB := Lib.hid (HB.out.trans (bi.mono HB.out.size))
      have sz11 : V10.heap.size ≤ V11.heap.size := bi.size
      obtain ⟨X0c, X0f⟩ := X0.open
      obtain ⟨A0c, A0f⟩ := A0.open
      go_wp2_with fail
      clear X0c X0f
      clear A0c A0f
      go_region_held3 (fun w' => (∀ i, w'.cell? ⟨V7.heap.size, i, none⟩ = (#[.int .i64 wd0, .int .i64 hi0, .bool wr0, .slice (some ⟨gx0_0, 0, none⟩) x0_0.length x0_0.length, .slice (some ⟨gx0_1, 0, none⟩) x0_1.length x0_1.length] : Array Value)[i]?) ∧ (∀ i, w'.cell? ⟨w.heap.size, i, none⟩ = (#[.int .i64 wd0, .int .i64 hi0, .bool wr0, .slice a0_0 x0_0.length c0_0, .slice a0_1 x0_1.length c0_1] : Array Value)[i]?) ∧ Below V11.heap.size V11 w') (first | with_reducible exact keep2_start X0 A0 | with_reducible exact keep2_later X0 A0 (by assumption) (by assumption))
        (first
          | (go_at_call 13; (with_reducible refine (toSheet_any _ _ _ _ _ _ _ _ _ _ (row_held2 r0_0 HB.out (by assumption)) (row_held2 r0_1 HB.out (by assumption)) n0_0 n0_1).mono ?_); rintro e V12 ⟨ge0_0, ge0_1, rfl, Ce0⟩; have qa0 := Ce0.below)
          | (go_at_call 17; (with_reducible refine (eqSheet_any _ _ _ _ _ _ _ _ _ _ _ _ _ _ _ _ (row_held2 O0_0.out.row (Below.refl _ _) (by assumption)) (row_held2 O0_1.out.row (Below.refl _ _) (by assumption)) Ce0.o0.row Ce0.o1.row (SameF.refl b0_0) (SameF.refl b0_1) m0_0 m0_1).mono ?_); rintro e V13 ⟨rfl, qa1⟩))
      have q := (below_next (below_next (below_drew V11) qa0) qa1)
      replace A0 := A0.later q
      replace A1 := A1.later q
      replace X0 := X0.later q
      replace X1 := X1.later q
      replace O0_0 := Lib.hid (O0_0.out.later q)
      replace O0_1 := Lib.hid (O0_1.out.later q)
      replace O1_0 := Lib.hid (O1_0.out.later q)
      replace O1_1 := Lib.hid (O1_1.out.later q)
      replace O1_2 := Lib.hid (O1_2.out.later q)
      replace HB := Lib.hid (HB.out.trans (q.mono HB.out.size))
      have sz13 : V11.heap.size ≤ V13.heap.size := q.size
      clear q
      obtain ⟨X1c, X1f⟩ := X1.open
      obtain ⟨A1c, A1f⟩ := A1.open
      go_wp2_with fail
      clear X1c X1f
      clear A1c A1f
      go_region_held3 (fun w' => (∀ i, w'.cell? ⟨V9.heap.size, i, none⟩ = (#[.slice (some ⟨gx1_0, 0, none⟩) x1_0.length x1_0.length, .slice (some ⟨gx1_1, 0, none⟩) x1_1.length x1_1.length, .slice (some ⟨gx1_2, 0, none⟩) x1_2.length x1_2.length] : Array Value)[i]?) ∧ (∀ i, w'.cell? ⟨w.heap.size + 1, i, none⟩ = (#[.slice a1_0 x1_0.length c1_0, .slice a1_1 x1_1.length c1_1, .slice a1_2 x1_2.length c1_2] : Array Value)[i]?) ∧ Below V13.heap.size V13 w') (first | with_reducible exact keep2_start X1 A1 | with_reducible exact keep2_later X1 A1 (by assumption) (by assumption))
        (first
          | (go_at_call 14; (with_reducible refine (toField_any _ _ _ _ _ _ _ _ _ _ (row_held2 r1_0 HB.out (by assumption)) (row_held2 r1_1 HB.out (by assumption)) (row_held2 r1_2 HB.out (by assumption)) n1_0 n1_1 n1_2).mono ?_); rintro e V14 ⟨ge1_0, ge1_1, ge1_2, rfl, Ce1⟩; have qa0 := Ce1.below)
          | (go_at_call 16; (with_reducible refine (eqField_any _ _ _ _ _ _ _ _ _ _ _ _ _ _ _ _ _ _ _ (row_held2 O1_0.out.row (Below.refl _ _) (by assumption)) (row_held2 O1_1.out.row (Below.refl _ _) (by assumption)) (row_held2 O1_2.out.row (Below.refl _ _) (by assumption)) Ce1.o0.row Ce1.o1.row Ce1.o2.row (SameF.refl b1_0) (SameF.refl b1_1) (SameF.refl b1_2) m1_0 m1_1 m1_2).mono ?_); rintro e V15 ⟨rfl, qa1⟩))
      have q := (below_next (below_next (below_drew V13) qa0) qa1)
      replace A0 := A0.later q
      replace A1 := A1.later q
      replace X0 := X0.later q
      replace X1 := X1.later q
      replace O0_0 := Lib.hid (O0_0.out.later q)
      replace O0_1 := Lib.hid (O0_1.out.later q)
      replace O1_0 := Lib.hid (O1_0.out.later q)
      replace O1_1 := Lib.hid (O1_1.out.later q)
      replace O1_2 := Lib.hid (O1_2.out.later q)
      replace HB := Lib.hid (HB.out.trans (q.mono HB.out.size))
      have sz15 : V13.heap.size ≤ V15.heap.size := q.size
      clear q
      go_wp2
      go_ret
      exact ⟨rfl, HB.out⟩
    · skip
      go_enter Try.func9, Try.ntmps9
      go_wp2_with fail
      generalize ((w.alloc (.cells #[.int .i64 wd0, .int .i64 hi0, .bool wr0, .slice a0_0 x0_0.length c0_0, .slice a0_1 x0_1.length c0_1] 24)).alloc (.cells #[.slice a1_0 x1_0.length c1_0, .slice a1_1 x1_1.length c1_1, .slice a1_2 x1_2.length c1_2] 26)) = V1 at *
      obtain ⟨A0c, A0f⟩ := A0.open
      refine (szSheet_yes _ _ _ _ _ _ _ _ _ _ _ hs0 (by omega)).mono ?_
      rintro e V2 ⟨rfl, q⟩
      clear A0c A0f
      replace A0 := A0.later q
      replace A1 := A1.later q
      replace HB := Lib.hid (HB.out.trans (q.mono HB.out.size))
      have sz2 : V1.heap.size ≤ V2.heap.size := q.size
      clear q
      obtain ⟨A1c, A1f⟩ := A1.open
      go_wp2_with fail
      refine (szField_no _ _ _ _ _ _ _ _ _ _ _ (by omega) (by omega) (by omega) m1_0 m1_1 m1_2).mono ?_
      rintro e V3 ⟨rfl, q⟩
      clear A1c A1f
      replace A0 := A0.later q
      replace A1 := A1.later q
      replace HB := Lib.hid (HB.out.trans (q.mono HB.out.size))
      have sz3 : V2.heap.size ≤ V3.heap.size := q.size
      clear q
      go_wp2
      go_ret
      exact ⟨rfl, HB.out⟩
  · skip
    go_enter Try.func9, Try.ntmps9
    go_wp2_with fail
    generalize ((w.alloc (.cells #[.int .i64 wd0, .int .i64 hi0, .bool wr0, .slice a0_0 x0_0.length c0_0, .slice a0_1 x0_1.length c0_1] 24)).alloc (.cells #[.slice a1_0 x1_0.length c1_0, .slice a1_1 x1_1.length c1_1, .slice a1_2 x1_2.length c1_2] 26)) = V1 at *
    obtain ⟨A0c, A0f⟩ := A0.open
    refine (szSheet_no _ _ _ _ _ _ _ _ _ _ _ (by omega) (by omega) (by omega) m0_0 m0_1).mono ?_
    rintro e V2 ⟨rfl, q⟩
    clear A0c A0f
    replace A0 := A0.later q
    replace A1 := A1.later q
    replace HB := Lib.hid (HB.out.trans (q.mono HB.out.size))
    have sz2 : V1.heap.size ≤ V2.heap.size := q.size
    clear q
    go_wp2
    go_ret
    exact ⟨rfl, HB.out⟩
end Go.Proofs.Ytedfbaeajofmnab
