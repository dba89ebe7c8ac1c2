/- The part of a strip: the program's answer and the model's. Conditions: none beyond those of each theorem. -/
import Derived.Test.YtedfbaeajofmnaaStrip
import Derived.Test.YtedfbaeajofmnaaRamp
import Derived.Test.YtedfbaeajofmnaaRowOf
import Derived.Test.YtedfbaeajofmnaaInvC
namespace Go.Proofs.Ytedfbaeajofmnaa
open Go Ieee Go.RowKit
set_option linter.unusedVariables false
set_option linter.unusedSimpArgs false

def cutB (wd hi : Int) (wb : Bool) (xs ys e x y : List Nat) (fr ct : Int) : Bool := fieldB wd hi wb xs ys e x y && isStripB wd hi xs ys fr ct
/-- the numbers of a list that lie in the rows of a strip -/
def cutL (wd fr ct : Int) (xs : List Nat) : List Nat := placed (fun i => (wd * fr).toNat + i) (wd * ct).toNat xs

def cutM (wd fr ct : Int) (xs : List Nat) : List (Option Nat) := cl (cutL wd fr ct xs)

theorem cut_nums {wd hi fr ct : Int} {n : Nat} (s1 : 3 ≤ wd) (s2 : wd ≤ 16) (s4 : hi ≤ 16) (hn : wd * hi = (n : Int)) (h : stripB hi fr ct = true) : ∃ q m : Nat, wd * fr = (q : Int) ∧ wd * ct = (m : Int) ∧ wd * (fr + ct) = ((q + m : Nat) : Int) ∧ 0 < m ∧ q + m ≤ n ∧ 0 ≤ fr ∧ fr + ct ≤ 16 ∧ 1 ≤ ct ∧ (wd * fr).toNat = q ∧ (wd * ct).toNat = m := by
  obtain ⟨f1, f2, f3, f4⟩ := strip_in h
  obtain ⟨q, hq⟩ := Int.eq_ofNat_of_zero_le (Int.mul_nonneg (show 0 ≤ wd by omega) f1)
  obtain ⟨m, hm⟩ := Int.eq_ofNat_of_zero_le (Int.mul_nonneg (show 0 ≤ wd by omega) (show 0 ≤ ct by omega))
  have hs : wd * (fr + ct) = wd * fr + wd * ct := Int.mul_add _ _ _
  have h1 : wd * 1 ≤ wd * ct := Int.mul_le_mul_of_nonneg_left f3 (by omega)
  have h2 : wd * (fr + ct) ≤ wd * hi := Int.mul_le_mul_of_nonneg_left (by omega) (by omega)
  exact ⟨q, m, hq, hm, by omega, by omega, by omega, f1, by omega, f3, by omega, by omega⟩

set_option maxHeartbeats 8000000 in
set_option maxRecDepth 100000 in
theorem specCutOf (g gf gp p0 p1 p2 o0 o1 o2 c0 c1 c2 n q m : Nat) (wd hi : Int) (wb : Bool) (v3 v4 : Value) (fr ct : Int) (e x y : List Nat) (w : World) (X : Blk w g #[.int .i64 wd, .int .i64 hi, .bool wb, v3, v4] 29) (Y : Blk w gf #[.slice (some ⟨p0, o0, none⟩) n c0, .slice (some ⟨p1, o1, none⟩) n c1, .slice (some ⟨p2, o2, none⟩) n c2] 38) (Q : Blk w gp #[.int .i64 fr, .int .i64 ct] 31) (h0 : RowV w (some ⟨p0, o0, none⟩) (fvals e)) (h1 : RowV w (some ⟨p1, o1, none⟩) (fvals x)) (h2 : RowV w (some ⟨p2, o2, none⟩) (fvals y)) (l0 : e.length = n) (l1 : x.length = n) (l2 : y.length = n) (n256 : n ≤ 256) (z0 : n ≤ c0) (z1 : n ≤ c1) (z2 : n ≤ c2) (s1 : 3 ≤ wd) (s2 : wd ≤ 16) (hq : Hid (wd * fr = (q : Int))) (hqm : Hid (wd * (fr + ct) = ((q + m : Nat) : Int))) (m0 : 0 < m) (hle : q + m ≤ n) (f0 : 0 ≤ fr) (f1 : fr + ct ≤ 16) (f3 : 1 ≤ ct) :
    Calls Try.prog 61 #[.pointer (some ⟨g, 0, none⟩), .pointer (some ⟨gf, 0, none⟩), .pointer (some ⟨gp, 0, none⟩)] w fun r w' => ∃ g0 g1 g2 k0 k1 k2, r = .returned (.agg #[.slice (some ⟨g0, 0, none⟩) m k0, .slice (some ⟨g1, 0, none⟩) m k1, .slice (some ⟨g2, 0, none⟩) m k2]) ∧ OwnV w' w.heap.size (some ⟨g0, 0, none⟩) (fvals (placed (fun i => q + i) m e)) ∧ OwnV w' w.heap.size (some ⟨g1, 0, none⟩) (fvals (placed (fun i => q + i) m x)) ∧ OwnV w' w.heap.size (some ⟨g2, 0, none⟩) (fvals (placed (fun i => q + i) m y)) ∧ g0 < g1 ∧ g1 < g2 ∧ Below w.heap.size w w' := by
  have HP0 := Lib.hid (fun u (hu : Below w.heap.size w u) => row_part (q := q) (m := m) (h0.later hu) (by rw [l0]; exact hle))
  have HL0 : Hid ((placed (fun i => q + i) m e).length = m) := Lib.hid (placed_length _ _ _)
  have HP1 := Lib.hid (fun u (hu : Below w.heap.size w u) => row_part (q := q) (m := m) (h1.later hu) (by rw [l1]; exact hle))
  have HL1 : Hid ((placed (fun i => q + i) m x).length = m) := Lib.hid (placed_length _ _ _)
  have HP2 := Lib.hid (fun u (hu : Below w.heap.size w u) => row_part (q := q) (m := m) (h2.later hu) (by rw [l2]; exact hle))
  have HL2 : Hid ((placed (fun i => q + i) m y).length = m) := Lib.hid (placed_length _ _ _)
  clear h0 h1 h2 l0 l1 l2
  generalize (placed (fun i => q + i) m e) = t0 at *
  generalize (placed (fun i => q + i) m x) = t1 at *
  generalize (placed (fun i => q + i) m y) = t2 at *
  have R := Blk.new w #[.slice none 0 0, .slice none 0 0, .slice none 0 0] 38
  have HB : Hid (Below w.heap.size w (w.alloc (.cells #[.slice none 0 0, .slice none 0 0, .slice none 0 0] 38))) := Lib.hid ((Below.refl w.heap.size w).alloc (by simp <;> omega) _)
  go_enter Try.func61, Try.ntmps61
  go_upto_region 1 with (fail)
  generalize (w.alloc (.cells #[.slice none 0 0, .slice none 0 0, .slice none 0 0] 38)) = u1 at *
  replace X := X.later HB.out
  replace Y := Y.later HB.out
  replace Q := Q.later HB.out
  obtain ⟨Xc, Xf⟩ := X.open; obtain ⟨Yc, Yf⟩ := Y.open; obtain ⟨Qc, Qf⟩ := Q.open
  have q1 := hq.out; have q2 := hqm.out
  have ZR := R.lt
  have HW1 : Hid (IntKind.i64.wrap (wd * fr) = (q : Int)) := Lib.hid (by rw [q1]; exact IntWalk.i64_in _ (by omega))
  have HW2 : Hid (IntKind.i64.wrap (fr + ct) = fr + ct) := Lib.hid (IntWalk.i64_in _ (by omega))
  have HW3 : Hid (IntKind.i64.wrap (wd * (fr + ct)) = ((q + m : Nat) : Int)) := Lib.hid (by rw [q2]; exact IntWalk.i64_in _ (by omega))
  clear q1 q2
  have ai64 : ∀ w, (isAgg 2).run Try.prog w = .ok false w := fun w => by kernel_rfl
  have aslc : ∀ w, (isAgg 22).run Try.prog w = .ok false w := fun w => by kernel_rfl
  refine wp_region_noPanic ?_
  refine wp_region_plan (Grows u1) 9 [(0, true), (1, true), (2, true), (3, true), (4, true), (5, true), (6, true), (7, true), (8, true)] (by kernel_rfl) (by kernel_rfl) (fun _ _ _ _ _ h => h) (Grows.drew _) ?_
  (refine plan_plain rfl rfl ?_ ?_ ?_; rotate_left; focus (intro w9; go_simp <;> with_reducible rfl)); (simp only [Act.put, List.setIfInBounds_toArray, List.set_cons_zero, List.set_cons_succ, List.getElem_toArray, List.getElem_cons_zero, List.getElem_cons_succ])
  (refine plan_plain rfl rfl ?_ ?_ ?_; rotate_left; focus (intro w9; go_simp <;> with_reducible rfl)); (simp only [Act.put, List.setIfInBounds_toArray, List.set_cons_zero, List.set_cons_succ, List.getElem_toArray, List.getElem_cons_zero, List.getElem_cons_succ])
  (refine plan_plain rfl rfl ?_ ?_ ?_; rotate_left; focus (intro w9; go_simp <;> with_reducible rfl)); (simp only [Act.put, List.setIfInBounds_toArray, List.set_cons_zero, List.set_cons_succ, List.getElem_toArray, List.getElem_cons_zero, List.getElem_cons_succ])
  (refine plan_load rfl rfl (⟨g, 0, none⟩) (by kernel_rfl) (.int .i64 wd) (load_cell ai64 (Xc 0)) ?_; simp only [Act.put, List.setIfInBounds_toArray, List.set_cons_zero, List.set_cons_succ, List.getElem_toArray, List.getElem_cons_zero, List.getElem_cons_succ])
  (refine plan_plain rfl rfl ?_ ?_ ?_; rotate_left; focus (intro w9; go_simp <;> with_reducible rfl)); (simp only [Act.put, List.setIfInBounds_toArray, List.set_cons_zero, List.set_cons_succ, List.getElem_toArray, List.getElem_cons_zero, List.getElem_cons_succ])
  (refine plan_plain rfl rfl ?_ ?_ ?_; rotate_left; focus (intro w9; go_simp <;> with_reducible rfl)); (simp only [Act.put, List.setIfInBounds_toArray, List.set_cons_zero, List.set_cons_succ, List.getElem_toArray, List.getElem_cons_zero, List.getElem_cons_succ])
  (refine plan_plain rfl rfl ?_ ?_ ?_; rotate_left; focus (intro w9; go_simp <;> with_reducible rfl)); (simp only [Act.put, List.setIfInBounds_toArray, List.set_cons_zero, List.set_cons_succ, List.getElem_toArray, List.getElem_cons_zero, List.getElem_cons_succ])
  (refine plan_load rfl rfl (⟨gp, 0, none⟩) (by kernel_rfl) (.int .i64 fr) (load_cell ai64 (Qc 0)) ?_; simp only [Act.put, List.setIfInBounds_toArray, List.set_cons_zero, List.set_cons_succ, List.getElem_toArray, List.getElem_cons_zero, List.getElem_cons_succ])
  (refine plan_plain rfl rfl ?_ ?_ ?_; rotate_left; focus (intro w9; go_simp <;> with_reducible rfl)); (simp only [Act.put, List.setIfInBounds_toArray, List.set_cons_zero, List.set_cons_succ, List.getElem_toArray, List.getElem_cons_zero, List.getElem_cons_succ])
  simp only [HW1.out]
  change wpList _ _ _ _ _ _
  simp only [List.drop_succ_cons, List.drop_zero]
  have b_ := Grows.drew u1
  replace b_ : Below u1.heap.size u1 u1.drew := b_
  generalize u1.drew = u2 at *
  clear Xc Xf Yc Yf Qc Qf
  replace R := R.later b_
  replace X := X.later b_
  replace Y := Y.later b_
  replace Q := Q.later b_
  replace HB := Lib.hid (HB.out.trans (b_.mono HB.out.size))
  clear b_
  obtain ⟨Xc, Xf⟩ := X.open; obtain ⟨Yc, Yf⟩ := Y.open; obtain ⟨Qc, Qf⟩ := Q.open
  go_upto_region 2 with (fail)
  refine NoPanic.normal ?_
  go_upto_region 2 with (fail)
  refine wp_region_noPanic ?_
  refine wp_region_plan (Grows u2) 14 [(0, true), (1, true), (2, true), (3, true), (4, true), (5, true), (6, true), (7, true), (8, true), (9, true), (10, true), (11, true), (12, true), (13, true)] (by kernel_rfl) (by kernel_rfl) (fun _ _ _ _ _ h => h) (Grows.drew _) ?_
  (refine plan_plain rfl rfl ?_ ?_ ?_; rotate_left; focus (intro w9; go_simp <;> with_reducible rfl)); (simp only [Act.put, List.setIfInBounds_toArray, List.set_cons_zero, List.set_cons_succ, List.getElem_toArray, List.getElem_cons_zero, List.getElem_cons_succ])
  (refine plan_plain rfl rfl ?_ ?_ ?_; rotate_left; focus (intro w9; go_simp <;> with_reducible rfl)); (simp only [Act.put, List.setIfInBounds_toArray, List.set_cons_zero, List.set_cons_succ, List.getElem_toArray, List.getElem_cons_zero, List.getElem_cons_succ])
  (refine plan_plain rfl rfl ?_ ?_ ?_; rotate_left; focus (intro w9; go_simp <;> with_reducible rfl)); (simp only [Act.put, List.setIfInBounds_toArray, List.set_cons_zero, List.set_cons_succ, List.getElem_toArray, List.getElem_cons_zero, List.getElem_cons_succ])
  (refine plan_load rfl rfl (⟨g, 0, none⟩) (by kernel_rfl) (.int .i64 wd) (load_cell ai64 (Xc 0)) ?_; simp only [Act.put, List.setIfInBounds_toArray, List.set_cons_zero, List.set_cons_succ, List.getElem_toArray, List.getElem_cons_zero, List.getElem_cons_succ])
  (refine plan_plain rfl rfl ?_ ?_ ?_; rotate_left; focus (intro w9; go_simp <;> with_reducible rfl)); (simp only [Act.put, List.setIfInBounds_toArray, List.set_cons_zero, List.set_cons_succ, List.getElem_toArray, List.getElem_cons_zero, List.getElem_cons_succ])
  (refine plan_plain rfl rfl ?_ ?_ ?_; rotate_left; focus (intro w9; go_simp <;> with_reducible rfl)); (simp only [Act.put, List.setIfInBounds_toArray, List.set_cons_zero, List.set_cons_succ, List.getElem_toArray, List.getElem_cons_zero, List.getElem_cons_succ])
  (refine plan_plain rfl rfl ?_ ?_ ?_; rotate_left; focus (intro w9; go_simp <;> with_reducible rfl)); (simp only [Act.put, List.setIfInBounds_toArray, List.set_cons_zero, List.set_cons_succ, List.getElem_toArray, List.getElem_cons_zero, List.getElem_cons_succ])
  (refine plan_load rfl rfl (⟨gp, 0, none⟩) (by kernel_rfl) (.int .i64 fr) (load_cell ai64 (Qc 0)) ?_; simp only [Act.put, List.setIfInBounds_toArray, List.set_cons_zero, List.set_cons_succ, List.getElem_toArray, List.getElem_cons_zero, List.getElem_cons_succ])
  (refine plan_plain rfl rfl ?_ ?_ ?_; rotate_left; focus (intro w9; go_simp <;> with_reducible rfl)); (simp only [Act.put, List.setIfInBounds_toArray, List.set_cons_zero, List.set_cons_succ, List.getElem_toArray, List.getElem_cons_zero, List.getElem_cons_succ])
  (refine plan_plain rfl rfl ?_ ?_ ?_; rotate_left; focus (intro w9; go_simp <;> with_reducible rfl)); (simp only [Act.put, List.setIfInBounds_toArray, List.set_cons_zero, List.set_cons_succ, List.getElem_toArray, List.getElem_cons_zero, List.getElem_cons_succ])
  (refine plan_plain rfl rfl ?_ ?_ ?_; rotate_left; focus (intro w9; go_simp <;> with_reducible rfl)); (simp only [Act.put, List.setIfInBounds_toArray, List.set_cons_zero, List.set_cons_succ, List.getElem_toArray, List.getElem_cons_zero, List.getElem_cons_succ])
  (refine plan_load rfl rfl (⟨gp, 1, none⟩) (by kernel_rfl) (.int .i64 ct) (load_cell ai64 (Qc 1)) ?_; simp only [Act.put, List.setIfInBounds_toArray, List.set_cons_zero, List.set_cons_succ, List.getElem_toArray, List.getElem_cons_zero, List.getElem_cons_succ])
  (refine plan_plain rfl rfl ?_ ?_ ?_; rotate_left; focus (intro w9; go_simp <;> with_reducible rfl)); (simp only [Act.put, List.setIfInBounds_toArray, List.set_cons_zero, List.set_cons_succ, List.getElem_toArray, List.getElem_cons_zero, List.getElem_cons_succ])
  simp only [HW2.out]
  (refine plan_plain rfl rfl ?_ ?_ ?_; rotate_left; focus (intro w9; go_simp <;> with_reducible rfl)); (simp only [Act.put, List.setIfInBounds_toArray, List.set_cons_zero, List.set_cons_succ, List.getElem_toArray, List.getElem_cons_zero, List.getElem_cons_succ])
  simp only [HW3.out]
  change wpList _ _ _ _ _ _
  simp only [List.drop_succ_cons, List.drop_zero]
  have b_ := Grows.drew u2
  replace b_ : Below u2.heap.size u2 u2.drew := b_
  generalize u2.drew = u3 at *
  clear Xc Xf Yc Yf Qc Qf
  replace R := R.later b_
  replace X := X.later b_
  replace Y := Y.later b_
  replace Q := Q.later b_
  replace HB := Lib.hid (HB.out.trans (b_.mono HB.out.size))
  clear b_
  obtain ⟨Xc, Xf⟩ := X.open; obtain ⟨Yc, Yf⟩ := Y.open; obtain ⟨Qc, Qf⟩ := Q.open
  go_upto_region 3 with (fail)
  refine NoPanic.normal ?_
  go_upto_region 3 with (fail)
  have hsz := HB.out.size
  have hzu := R.lt
  refine wp_region_noPanic ?_
  refine wp_region_inv (Grows u3) 27 [1, 2, 3, 4, 5, 6, 7, 10, 11, 12, 13, 14, 15, 16, 19, 20, 21, 22, 23, 24, 25] [0, 8, 9, 17, 18, 26] (by kernel_rfl) (by kernel_rfl) (fun _ _ _ _ _ h => h) (Grows.drew _) ?_
  (refine itake_plain rfl (by kernel_rfl) ?_ ?_ ?_; rotate_left; focus (intro w9 _; go_simp <;> with_reducible rfl)); (simp only [Act.put, List.setIfInBounds_toArray, List.set_cons_zero, List.set_cons_succ, List.getElem_toArray, List.getElem_cons_zero, List.getElem_cons_succ])
  (refine itake_plain rfl (by kernel_rfl) ?_ ?_ ?_; rotate_left; focus (intro w9 _; go_simp <;> with_reducible rfl)); (simp only [Act.put, List.setIfInBounds_toArray, List.set_cons_zero, List.set_cons_succ, List.getElem_toArray, List.getElem_cons_zero, List.getElem_cons_succ])
  (refine itake_plain rfl (by kernel_rfl) ?_ ?_ ?_; rotate_left; focus (intro w9 _; go_simp <;> with_reducible rfl)); (simp only [Act.put, List.setIfInBounds_toArray, List.set_cons_zero, List.set_cons_succ, List.getElem_toArray, List.getElem_cons_zero, List.getElem_cons_succ])
  (refine itake_load rfl (by kernel_rfl) (⟨gf, 0, none⟩) (by kernel_rfl) (.slice (some ⟨p0, o0, none⟩) n c0) (load_cell aslc (Yc 0)) ?_; simp only [Act.put, List.setIfInBounds_toArray, List.set_cons_zero, List.set_cons_succ, List.getElem_toArray, List.getElem_cons_zero, List.getElem_cons_succ])
  (refine itake_plain rfl (by kernel_rfl) ?_ ?_ ?_; rotate_left; focus (intro w9 _; go_simp <;> with_reducible rfl)); (simp only [Act.put, List.setIfInBounds_toArray, List.set_cons_zero, List.set_cons_succ, List.getElem_toArray, List.getElem_cons_zero, List.getElem_cons_succ])
  (refine itake_plain rfl (by kernel_rfl) ?_ ?_ ?_; rotate_left; focus (intro w9 _; go_simp <;> with_reducible rfl)); (simp only [Act.put, List.setIfInBounds_toArray, List.set_cons_zero, List.set_cons_succ, List.getElem_toArray, List.getElem_cons_zero, List.getElem_cons_succ])
  (refine itake_plain rfl (by kernel_rfl) (.slice (some ⟨p0, o0 + q, none⟩) m (c0 - q)) ?_ ?_; focus (intro w9 _; go_simp; rw [if_pos (show 0 ≤ (q : Int) + (m : Int) ∧ (q : Int) + (m : Int) ≤ (c0 : Int) by omega), if_pos (show q ≤ ((q : Int) + (m : Int)).toNat by omega), if_neg (show ¬ c0 = q by omega), show ((q : Int) + (m : Int)).toNat - q = m by omega])); (simp only [Act.put, List.setIfInBounds_toArray, List.set_cons_zero, List.set_cons_succ, List.getElem_toArray, List.getElem_cons_zero, List.getElem_cons_succ])
  (refine itake_plain rfl (by kernel_rfl) ?_ ?_ ?_; rotate_left; focus (intro w9 _; go_simp <;> with_reducible rfl)); (simp only [Act.put, List.setIfInBounds_toArray, List.set_cons_zero, List.set_cons_succ, List.getElem_toArray, List.getElem_cons_zero, List.getElem_cons_succ])
  (refine itake_plain rfl (by kernel_rfl) ?_ ?_ ?_; rotate_left; focus (intro w9 _; go_simp <;> with_reducible rfl)); (simp only [Act.put, List.setIfInBounds_toArray, List.set_cons_zero, List.set_cons_succ, List.getElem_toArray, List.getElem_cons_zero, List.getElem_cons_succ])
  (refine itake_plain rfl (by kernel_rfl) ?_ ?_ ?_; rotate_left; focus (intro w9 _; go_simp <;> with_reducible rfl)); (simp only [Act.put, List.setIfInBounds_toArray, List.set_cons_zero, List.set_cons_succ, List.getElem_toArray, List.getElem_cons_zero, List.getElem_cons_succ])
  (refine itake_load rfl (by kernel_rfl) (⟨gf, 1, none⟩) (by kernel_rfl) (.slice (some ⟨p1, o1, none⟩) n c1) (load_cell aslc (Yc 1)) ?_; simp only [Act.put, List.setIfInBounds_toArray, List.set_cons_zero, List.set_cons_succ, List.getElem_toArray, List.getElem_cons_zero, List.getElem_cons_succ])
  (refine itake_plain rfl (by kernel_rfl) ?_ ?_ ?_; rotate_left; focus (intro w9 _; go_simp <;> with_reducible rfl)); (simp only [Act.put, List.setIfInBounds_toArray, List.set_cons_zero, List.set_cons_succ, List.getElem_toArray, List.getElem_cons_zero, List.getElem_cons_succ])
  (refine itake_plain rfl (by kernel_rfl) ?_ ?_ ?_; rotate_left; focus (intro w9 _; go_simp <;> with_reducible rfl)); (simp only [Act.put, List.setIfInBounds_toArray, List.set_cons_zero, List.set_cons_succ, List.getElem_toArray, List.getElem_cons_zero, List.getElem_cons_succ])
  (refine itake_plain rfl (by kernel_rfl) (.slice (some ⟨p1, o1 + q, none⟩) m (c1 - q)) ?_ ?_; focus (intro w9 _; go_simp; rw [if_pos (show 0 ≤ (q : Int) + (m : Int) ∧ (q : Int) + (m : Int) ≤ (c1 : Int) by omega), if_pos (show q ≤ ((q : Int) + (m : Int)).toNat by omega), if_neg (show ¬ c1 = q by omega), show ((q : Int) + (m : Int)).toNat - q = m by omega])); (simp only [Act.put, List.setIfInBounds_toArray, List.set_cons_zero, List.set_cons_succ, List.getElem_toArray, List.getElem_cons_zero, List.getElem_cons_succ])
  (refine itake_plain rfl (by kernel_rfl) ?_ ?_ ?_; rotate_left; focus (intro w9 _; go_simp <;> with_reducible rfl)); (simp only [Act.put, List.setIfInBounds_toArray, List.set_cons_zero, List.set_cons_succ, List.getElem_toArray, List.getElem_cons_zero, List.getElem_cons_succ])
  (refine itake_plain rfl (by kernel_rfl) ?_ ?_ ?_; rotate_left; focus (intro w9 _; go_simp <;> with_reducible rfl)); (simp only [Act.put, List.setIfInBounds_toArray, List.set_cons_zero, List.set_cons_succ, List.getElem_toArray, List.getElem_cons_zero, List.getElem_cons_succ])
  (refine itake_plain rfl (by kernel_rfl) ?_ ?_ ?_; rotate_left; focus (intro w9 _; go_simp <;> with_reducible rfl)); (simp only [Act.put, List.setIfInBounds_toArray, List.set_cons_zero, List.set_cons_succ, List.getElem_toArray, List.getElem_cons_zero, List.getElem_cons_succ])
  (refine itake_load rfl (by kernel_rfl) (⟨gf, 2, none⟩) (by kernel_rfl) (.slice (some ⟨p2, o2, none⟩) n c2) (load_cell aslc (Yc 2)) ?_; simp only [Act.put, List.setIfInBounds_toArray, List.set_cons_zero, List.set_cons_succ, List.getElem_toArray, List.getElem_cons_zero, List.getElem_cons_succ])
  (refine itake_plain rfl (by kernel_rfl) ?_ ?_ ?_; rotate_left; focus (intro w9 _; go_simp <;> with_reducible rfl)); (simp only [Act.put, List.setIfInBounds_toArray, List.set_cons_zero, List.set_cons_succ, List.getElem_toArray, List.getElem_cons_zero, List.getElem_cons_succ])
  (refine itake_plain rfl (by kernel_rfl) ?_ ?_ ?_; rotate_left; focus (intro w9 _; go_simp <;> with_reducible rfl)); (simp only [Act.put, List.setIfInBounds_toArray, List.set_cons_zero, List.set_cons_succ, List.getElem_toArray, List.getElem_cons_zero, List.getElem_cons_succ])
  (refine itake_plain rfl (by kernel_rfl) (.slice (some ⟨p2, o2 + q, none⟩) m (c2 - q)) ?_ ?_; focus (intro w9 _; go_simp; rw [if_pos (show 0 ≤ (q : Int) + (m : Int) ∧ (q : Int) + (m : Int) ≤ (c2 : Int) by omega), if_pos (show q ≤ ((q : Int) + (m : Int)).toNat by omega), if_neg (show ¬ c2 = q by omega), show ((q : Int) + (m : Int)).toNat - q = m by omega])); (simp only [Act.put, List.setIfInBounds_toArray, List.set_cons_zero, List.set_cons_succ, List.getElem_toArray, List.getElem_cons_zero, List.getElem_cons_succ])
  intro A0 hA0
  refine ⟨fun b a w9 => ∃ v32 v40 v41 v49 v50 v58 : Value, a = (Act.put (Act.put (Act.put (Act.put (Act.put (Act.put A0 (some 32) v32) (some 40) v40) (some 41) v41) (some 49) v49) (some 50) v50) (some 58) v58) ∧ Below u3.heap.size u3 w9 ∧ (b.getD 0 true = true → NilS v32) ∧ (b.getD 9 true = true → NilS v41) ∧ (b.getD 18 true = true → NilS v50) ∧ (b.getD 8 true = true → ∃ g0 k0, v40 = .slice (some ⟨g0, 0, none⟩) m k0 ∧ OwnV w9 w.heap.size (some ⟨g0, 0, none⟩) (fvals t0) ∧ g0 < w9.heap.size ∧ w.heap.size < g0) ∧ (b.getD 17 true = true → ∃ g0 k0 g1 k1, v40 = .slice (some ⟨g0, 0, none⟩) m k0 ∧ v49 = .slice (some ⟨g1, 0, none⟩) m k1 ∧ OwnV w9 w.heap.size (some ⟨g1, 0, none⟩) (fvals t1) ∧ g0 < g1 ∧ g1 < w9.heap.size) ∧ (b.getD 17 true = true → b.getD 8 true = true) ∧ (b.getD 26 true = true → b.getD 17 true = true) ∧ (b.getD 26 true = true → ∃ g1 k1 g2 k2, v49 = .slice (some ⟨g1, 0, none⟩) m k1 ∧ v58 = .slice (some ⟨g2, 0, none⟩) m k2 ∧ OwnV w9 w.heap.size (some ⟨g2, 0, none⟩) (fvals t2) ∧ g1 < g2), ?_, ?_, ?_, ?_⟩
  · rintro b a w9 ⟨_, _, _, _, _, _, _, hb, _⟩; exact hb
  · exact ⟨undef, undef, undef, undef, undef, undef, by rw [hA0]; kernel_rfl, Grows.drew _, (fun h => by cases h), (fun h => by cases h), (fun h => by cases h), (fun h => by cases h), (fun h => by cases h), (fun h => by cases h), (fun h => by cases h), (fun h => by cases h)⟩
  · intro i hi b a w9 hib hd hun hI
    obtain ⟨v32, v40, v41, v49, v50, v58, rfl, hb, n0, n9, n18, f8, f17, c17, c26, f26⟩ := hI
    have hbs := hb.size
    simp only [List.mem_cons, List.mem_nil_iff, or_false] at hi
    rcases hi with rfl | rfl | rfl | rfl | rfl | rfl
    · refine ⟨_, rfl, ?_⟩
      have q := below_new w9 (.cells #[] 102)
      have sz := q.size
      refine inv_make (by rw [hA0]; kernel_rfl) (.slice (some ⟨w9.heap.size, 0, none⟩) 0 0) (w9.alloc (.cells #[] 102)) (by rw [hA0]; go_simp <;> with_reducible rfl) (Grows.next hb q) ?_
      obtain ⟨v', hv⟩ : ∃ v' : Value, v' = .slice (some ⟨w9.heap.size, 0, none⟩) 0 0 := ⟨_, rfl⟩
      rw [← hv]
      exact ⟨v', v40, v41, v49, v50, v58, by rw [hA0]; kernel_rfl, Grows.next hb q, (fun _ => ⟨_, hv⟩), (fun h => n9 (got_set (by decide) h)), (fun h => n18 (got_set (by decide) h)), (fun h => by obtain ⟨g0, k0, e0, ow, l0, l1⟩ := f8 (got_set (by decide) h); exact ⟨g0, k0, e0, ow.later q, by omega, l1⟩), (fun h => by obtain ⟨g0, k0, g1, k1, e0, e1, ow, l0, l1⟩ := f17 (got_set (by decide) h); exact ⟨g0, k0, g1, k1, e0, e1, ow.later q, l0, by omega⟩), (fun h => set_keepT (c17 (got_set (by decide) h))), (fun h => set_keepT (c26 (got_set (by decide) h))), (fun h => by obtain ⟨g1, k1, g2, k2, e0, e1, ow, l0⟩ := f26 (got_set (by decide) h); exact ⟨g1, k1, g2, k2, e0, e1, ow.later q, l0⟩)⟩
    · refine ⟨_, rfl, ?_⟩
      have dn := n0 (getD_tt (hd _ rfl ⟨0, .data⟩ (by simp) (by rfl)))
      have he : Act.eval (Act.put (Act.put (Act.put (Act.put (Act.put (Act.put A0 (some 32) v32) (some 40) v40) (some 41) v41) (some 49) v49) (some 50) v50) (some 58) v58) (.tmp 32) = v32 := by rw [hA0]; kernel_rfl
      rw [← he] at dn
      refine inv_copyF rfl (.tmp 32) (.tmp 39) rfl dn p0 (o0 + q) m (c0 - q) t0 (by rw [hA0]; kernel_rfl) (HP0.out w9 (HB.out.trans (Below.mono hb HB.out.size))) HL0.out m0 (by omega) ?_
      intro kk w10 q ow hlt
      have sz := q.size
      refine ⟨Grows.next hb q, ?_⟩
      obtain ⟨v', hv⟩ : ∃ v' : Value, v' = .slice (some ⟨w9.heap.size, 0, none⟩) m kk := ⟨_, rfl⟩
      rw [← hv]
      replace ow := ow.lower (show w.heap.size ≤ w9.heap.size by omega)
      exact ⟨v32, v', v41, v49, v50, v58, by rw [hA0]; kernel_rfl, Grows.next hb q, (fun h => n0 (got_set (by decide) h)), (fun h => n9 (got_set (by decide) h)), (fun h => n18 (got_set (by decide) h)), (fun _ => ⟨_, _, hv, ow, hlt, by omega⟩), (fun h => absurd (c17 (got_set (by decide) h)) (by rw [hun]; simp)), (fun h => set_keepT (c17 (got_set (by decide) h))), (fun h => set_keepT (c26 (got_set (by decide) h))), (fun h => by obtain ⟨g1, k1, g2, k2, e0, e1, ow, l0⟩ := f26 (got_set (by decide) h); exact ⟨g1, k1, g2, k2, e0, e1, ow.later q, l0⟩)⟩
    · refine ⟨_, rfl, ?_⟩
      have q := below_new w9 (.cells #[] 102)
      have sz := q.size
      refine inv_make (by rw [hA0]; kernel_rfl) (.slice (some ⟨w9.heap.size, 0, none⟩) 0 0) (w9.alloc (.cells #[] 102)) (by rw [hA0]; go_simp <;> with_reducible rfl) (Grows.next hb q) ?_
      obtain ⟨v', hv⟩ : ∃ v' : Value, v' = .slice (some ⟨w9.heap.size, 0, none⟩) 0 0 := ⟨_, rfl⟩
      rw [← hv]
      exact ⟨v32, v40, v', v49, v50, v58, by rw [hA0]; kernel_rfl, Grows.next hb q, (fun h => n0 (got_set (by decide) h)), (fun _ => ⟨_, hv⟩), (fun h => n18 (got_set (by decide) h)), (fun h => by obtain ⟨g0, k0, e0, ow, l0, l1⟩ := f8 (got_set (by decide) h); exact ⟨g0, k0, e0, ow.later q, by omega, l1⟩), (fun h => by obtain ⟨g0, k0, g1, k1, e0, e1, ow, l0, l1⟩ := f17 (got_set (by decide) h); exact ⟨g0, k0, g1, k1, e0, e1, ow.later q, l0, by omega⟩), (fun h => set_keepT (c17 (got_set (by decide) h))), (fun h => set_keepT (c26 (got_set (by decide) h))), (fun h => by obtain ⟨g1, k1, g2, k2, e0, e1, ow, l0⟩ := f26 (got_set (by decide) h); exact ⟨g1, k1, g2, k2, e0, e1, ow.later q, l0⟩)⟩
    · refine ⟨_, rfl, ?_⟩
      have dn := n9 (getD_tt (hd _ rfl ⟨9, .data⟩ (by simp) (by rfl)))
      have dp := f8 (getD_tt (hd _ rfl ⟨8, .chain⟩ (by simp) (by rfl)))
      have he : Act.eval (Act.put (Act.put (Act.put (Act.put (Act.put (Act.put A0 (some 32) v32) (some 40) v40) (some 41) v41) (some 49) v49) (some 50) v50) (some 58) v58) (.tmp 41) = v41 := by rw [hA0]; kernel_rfl
      rw [← he] at dn
      refine inv_copyF rfl (.tmp 41) (.tmp 48) rfl dn p1 (o1 + q) m (c1 - q) t1 (by rw [hA0]; kernel_rfl) (HP1.out w9 (HB.out.trans (Below.mono hb HB.out.size))) HL1.out m0 (by omega) ?_
      intro kk w10 q ow hlt
      have sz := q.size
      refine ⟨Grows.next hb q, ?_⟩
      obtain ⟨v', hv⟩ : ∃ v' : Value, v' = .slice (some ⟨w9.heap.size, 0, none⟩) m kk := ⟨_, rfl⟩
      rw [← hv]
      replace ow := ow.lower (show w.heap.size ≤ w9.heap.size by omega)
      exact ⟨v32, v40, v41, v', v50, v58, by rw [hA0]; kernel_rfl, Grows.next hb q, (fun h => n0 (got_set (by decide) h)), (fun h => n9 (got_set (by decide) h)), (fun h => n18 (got_set (by decide) h)), (fun h => by obtain ⟨g0, k0, e0, ow, l0, l1⟩ := f8 (got_set (by decide) h); exact ⟨g0, k0, e0, ow.later q, by omega, l1⟩), (fun _ => by obtain ⟨g0, k0, e0, _, l0, _⟩ := dp; exact ⟨g0, k0, _, _, e0, hv, ow, l0, hlt⟩), (fun h => set_keepT (getD_tt (hd _ rfl ⟨8, .chain⟩ (by simp) (by rfl)))), (fun h => set_keepT (c26 (got_set (by decide) h))), (fun h => absurd (c26 (got_set (by decide) h)) (by rw [hun]; simp))⟩
    · refine ⟨_, rfl, ?_⟩
      have q := below_new w9 (.cells #[] 102)
      have sz := q.size
      refine inv_make (by rw [hA0]; kernel_rfl) (.slice (some ⟨w9.heap.size, 0, none⟩) 0 0) (w9.alloc (.cells #[] 102)) (by rw [hA0]; go_simp <;> with_reducible rfl) (Grows.next hb q) ?_
      obtain ⟨v', hv⟩ : ∃ v' : Value, v' = .slice (some ⟨w9.heap.size, 0, none⟩) 0 0 := ⟨_, rfl⟩
      rw [← hv]
      exact ⟨v32, v40, v41, v49, v', v58, by rw [hA0]; kernel_rfl, Grows.next hb q, (fun h => n0 (got_set (by decide) h)), (fun h => n9 (got_set (by decide) h)), (fun _ => ⟨_, hv⟩), (fun h => by obtain ⟨g0, k0, e0, ow, l0, l1⟩ := f8 (got_set (by decide) h); exact ⟨g0, k0, e0, ow.later q, by omega, l1⟩), (fun h => by obtain ⟨g0, k0, g1, k1, e0, e1, ow, l0, l1⟩ := f17 (got_set (by decide) h); exact ⟨g0, k0, g1, k1, e0, e1, ow.later q, l0, by omega⟩), (fun h => set_keepT (c17 (got_set (by decide) h))), (fun h => set_keepT (c26 (got_set (by decide) h))), (fun h => by obtain ⟨g1, k1, g2, k2, e0, e1, ow, l0⟩ := f26 (got_set (by decide) h); exact ⟨g1, k1, g2, k2, e0, e1, ow.later q, l0⟩)⟩
    · refine ⟨_, rfl, ?_⟩
      have dn := n18 (getD_tt (hd _ rfl ⟨18, .data⟩ (by simp) (by rfl)))
      have dp := f17 (getD_tt (hd _ rfl ⟨17, .chain⟩ (by simp) (by rfl)))
      have he : Act.eval (Act.put (Act.put (Act.put (Act.put (Act.put (Act.put A0 (some 32) v32) (some 40) v40) (some 41) v41) (some 49) v49) (some 50) v50) (some 58) v58) (.tmp 50) = v50 := by rw [hA0]; kernel_rfl
      rw [← he] at dn
      refine inv_copyF rfl (.tmp 50) (.tmp 57) rfl dn p2 (o2 + q) m (c2 - q) t2 (by rw [hA0]; kernel_rfl) (HP2.out w9 (HB.out.trans (Below.mono hb HB.out.size))) HL2.out m0 (by omega) ?_
      intro kk w10 q ow hlt
      have sz := q.size
      refine ⟨Grows.next hb q, ?_⟩
      obtain ⟨v', hv⟩ : ∃ v' : Value, v' = .slice (some ⟨w9.heap.size, 0, none⟩) m kk := ⟨_, rfl⟩
      rw [← hv]
      replace ow := ow.lower (show w.heap.size ≤ w9.heap.size by omega)
      exact ⟨v32, v40, v41, v49, v50, v', by rw [hA0]; kernel_rfl, Grows.next hb q, (fun h => n0 (got_set (by decide) h)), (fun h => n9 (got_set (by decide) h)), (fun h => n18 (got_set (by decide) h)), (fun h => by obtain ⟨g0, k0, e0, ow, l0, l1⟩ := f8 (got_set (by decide) h); exact ⟨g0, k0, e0, ow.later q, by omega, l1⟩), (fun h => by obtain ⟨g0, k0, g1, k1, e0, e1, ow, l0, l1⟩ := f17 (got_set (by decide) h); exact ⟨g0, k0, g1, k1, e0, e1, ow.later q, l0, by omega⟩), (fun h => set_keepT (c17 (got_set (by decide) h))), (fun h => set_keepT (getD_tt (hd _ rfl ⟨17, .chain⟩ (by simp) (by rfl)))), (fun _ => by obtain ⟨g0, k0, g1, k1, _, e1, _, _, l1⟩ := dp; exact ⟨g1, k1, _, _, e1, hv, ow, l1⟩)⟩
  intro a w9 hI
  obtain ⟨v32, v40, v41, v49, v50, v58, rfl, bz, _, _, _, f8, f17, _, _, f26⟩ := hI
  obtain ⟨g0, k0, e0, o0_, _, zr0⟩ := f8 (by rfl)
  obtain ⟨g0_, k0_, g1, k1, e0_, e1, o1_, d01, _⟩ := f17 (by rfl)
  obtain ⟨g1_, k1_, g2, k2, e1_, e2, o2_, d12⟩ := f26 (by rfl)
  clear f8 f17 f26
  subst e0; subst e1; subst e2
  simp only [Value.slice.injEq, Option.some.injEq, Addr.mk.injEq, and_true, true_and] at e0_ e1_
  obtain ⟨rfl, rfl⟩ := e0_; obtain ⟨rfl, rfl⟩ := e1_
  have O0 := Lib.hid o0_
  have O1 := Lib.hid o1_
  have O2 := Lib.hid o2_
  clear o0_ o1_ o2_
  rw [hA0]; simp only [Act.put, List.setIfInBounds_toArray, List.set_cons_zero, List.set_cons_succ, List.getElem_toArray, List.getElem_cons_zero, List.getElem_cons_succ]
  clear hA0
  replace bz : Below u3.heap.size u3 w9 := bz
  change wpList _ _ _ _ _ _
  simp only [List.drop_succ_cons, List.drop_zero]
  generalize w9 = u4 at *
  replace R := R.later bz
  replace X := X.later bz
  replace Y := Y.later bz
  replace Q := Q.later bz
  replace HB := Lib.hid (HB.out.trans (bz.mono HB.out.size))
  clear bz
  obtain ⟨Rc, Rf⟩ := R.open
  go_wp2_with fail
  refine NoPanic.normal ?_
  go_wp2
  refine bodyPost_ret (v := .agg #[.slice (some ⟨g0, 0, none⟩) m k0, .slice (some ⟨g1, 0, none⟩) m k1, .slice (some ⟨g2, 0, none⟩) m k2]) (by simp [results, Try.results61, go_sem, Rc]) rfl ⟨g0, g1, g2, k0, k1, k2, rfl, (((O0.out.set (p := ⟨w.heap.size, 0, none⟩) (ne_block (h := w.heap.size) (by omega)) _).set (p := ⟨w.heap.size, 1, none⟩) (ne_block (h := w.heap.size) (by omega)) _).set (p := ⟨w.heap.size, 2, none⟩) (ne_block (h := w.heap.size) (by omega)) _), (((O1.out.set (p := ⟨w.heap.size, 0, none⟩) (ne_block (h := w.heap.size) (by omega)) _).set (p := ⟨w.heap.size, 1, none⟩) (ne_block (h := w.heap.size) (by omega)) _).set (p := ⟨w.heap.size, 2, none⟩) (ne_block (h := w.heap.size) (by omega)) _), (((O2.out.set (p := ⟨w.heap.size, 0, none⟩) (ne_block (h := w.heap.size) (by omega)) _).set (p := ⟨w.heap.size, 1, none⟩) (ne_block (h := w.heap.size) (by omega)) _).set (p := ⟨w.heap.size, 2, none⟩) (ne_block (h := w.heap.size) (by omega)) _), d01, d12, (((HB.out.setCell (p := ⟨w.heap.size, 0, none⟩) (by first | omega | (simp <;> omega)) _).setCell (p := ⟨w.heap.size, 1, none⟩) (by first | omega | (simp <;> omega)) _).setCell (p := ⟨w.heap.size, 2, none⟩) (by first | omega | (simp <;> omega)) _)⟩

set_option maxHeartbeats 8000000 in
set_option maxRecDepth 100000 in
theorem specCutStripL (wd hi : Int) (wb : Bool) (a b : Option Addr) (ca cb : Nat) (xs ys : List Nat) (a0 a1 a2 : Option Addr) (c0 c1 c2 : Nat) (e x y : List Nat) (fr ct : Int) (w : World) (ha : RowV w a (fvals xs)) (hb : RowV w b (fvals ys)) (qa : ∀ z ∈ xs, z < 2 ^ 32) (qb : ∀ z ∈ ys, z < 2 ^ 32) (hx : xs.length ≤ maxLen) (hy : ys.length ≤ maxLen) (h0 : RowV w a0 (fvals e)) (h1 : RowV w a1 (fvals x)) (h2 : RowV w a2 (fvals y)) (q0 : ∀ z ∈ e, z < 2 ^ 32) (q1 : ∀ z ∈ x, z < 2 ^ 32) (q2 : ∀ z ∈ y, z < 2 ^ 32) (m0 : e.length ≤ maxLen) (m1 : x.length ≤ maxLen) (m2 : y.length ≤ maxLen) (hc0 : c0 = e.length := by rfl) (hc1 : c1 = x.length := by rfl) (hc2 : c2 = y.length := by rfl) :
    Calls Try.prog 19 #[.agg #[.int .i64 wd, .int .i64 hi, .bool wb, .slice a xs.length ca, .slice b ys.length cb], .agg #[.slice a0 e.length c0, .slice a1 x.length c1, .slice a2 y.length c2], .agg #[.int .i64 fr, .int .i64 ct]] w (OwnO w (cutB wd hi wb xs ys e x y fr ct) (cutM wd fr ct e) (cutM wd fr ct x) (cutM wd fr ct y)) := by
  have HC0 := Lib.hid hc0; have HC1 := Lib.hid hc1; have HC2 := Lib.hid hc2; clear hc0 hc1 hc2
  rcases hfv : fieldB wd hi wb xs ys e x y with _ | _
  · skip
    refine Calls.mono ?_ (fun e w9 h9 => ownO_no (by unfold cutB; rw [hfv]; rfl) h9)
    have H_fb := Lib.hid hfv; clear hfv
    have X := Blk.new w #[.int .i64 wd, .int .i64 hi, .bool wb, .slice a xs.length ca, .slice b ys.length cb] 29
    have Y := Blk.new1 w (.cells #[.int .i64 wd, .int .i64 hi, .bool wb, .slice a xs.length ca, .slice b ys.length cb] 29) #[.slice a0 e.length c0, .slice a1 x.length c1, .slice a2 y.length c2] 38
    replace X := X.alloc (.cells #[.slice a0 e.length c0, .slice a1 x.length c1, .slice a2 y.length c2] 38)
    have Q := Blk.new2 w (.cells #[.int .i64 wd, .int .i64 hi, .bool wb, .slice a xs.length ca, .slice b ys.length cb] 29) (.cells #[.slice a0 e.length c0, .slice a1 x.length c1, .slice a2 y.length c2] 38) #[.int .i64 fr, .int .i64 ct] 31
    replace X := X.alloc (.cells #[.int .i64 fr, .int .i64 ct] 31)
    replace Y := Y.alloc (.cells #[.int .i64 fr, .int .i64 ct] 31)
    have R := Blk.new3 w (.cells #[.int .i64 wd, .int .i64 hi, .bool wb, .slice a xs.length ca, .slice b ys.length cb] 29) (.cells #[.slice a0 e.length c0, .slice a1 x.length c1, .slice a2 y.length c2] 38) (.cells #[.int .i64 fr, .int .i64 ct] 31) #[.slice none 0 0, .slice none 0 0, .slice none 0 0] 38
    replace X := X.alloc (.cells #[.slice none 0 0, .slice none 0 0, .slice none 0 0] 38)
    replace Y := Y.alloc (.cells #[.slice none 0 0, .slice none 0 0, .slice none 0 0] 38)
    replace Q := Q.alloc (.cells #[.slice none 0 0, .slice none 0 0, .slice none 0 0] 38)
    have HB : Hid (Below w.heap.size w ((((w.alloc (.cells #[.int .i64 wd, .int .i64 hi, .bool wb, .slice a xs.length ca, .slice b ys.length cb] 29)).alloc (.cells #[.slice a0 e.length c0, .slice a1 x.length c1, .slice a2 y.length c2] 38)).alloc (.cells #[.int .i64 fr, .int .i64 ct] 31)).alloc (.cells #[.slice none 0 0, .slice none 0 0, .slice none 0 0] 38))) := Lib.hid (((((Below.refl w.heap.size w).alloc (by simp <;> omega) _).alloc (by simp <;> omega) _).alloc (by simp <;> omega) _).alloc (by simp <;> omega) _)
    go_enter Try.func19, Try.ntmps19
    go_wp2_with fail
    generalize ((((w.alloc (.cells #[.int .i64 wd, .int .i64 hi, .bool wb, .slice a xs.length ca, .slice b ys.length cb] 29)).alloc (.cells #[.slice a0 e.length c0, .slice a1 x.length c1, .slice a2 y.length c2] 38)).alloc (.cells #[.int .i64 fr, .int .i64 ct] 31)).alloc (.cells #[.slice none 0 0, .slice none 0 0, .slice none 0 0] 38)) = u1 at *
    refine (specBoth _ _ _ _ _ _ _ _ _ _ _ _ _ _ _ _ _ _ _ _ _ X Y (ha.later HB.out) (hb.later HB.out) hx hy (h0.later HB.out) (h1.later HB.out) (h2.later HB.out) m0 m1 m2).mono ?_
    rintro r u2 ⟨rfl, nq, hw⟩
    have q : Below u1.heap.size u1 u2 := by rw [hw]; exact below_drewN (Below.refl _ _) _
    clear hw
    replace X := X.later q
    replace Y := Y.later q
    replace Q := Q.later q
    replace R := R.later q
    replace HB := Lib.hid (HB.out.trans (q.mono HB.out.size))
    clear q
    rw [H_fb.out]
    obtain ⟨Rc, Rf⟩ := R.open
    go_wp2
    refine bodyPost_ret (v := .tuple #[.agg #[.slice none 0 0, .slice none 0 0, .slice none 0 0], .bool false]) (by simp [results, Try.results19, go_sem, Rc]) rfl ⟨none, none, none, 0, 0, 0, [], [], [], rfl, OwnField.none (((HB.out.setCell (p := ⟨w.heap.size + 1 + 1 + 1, 0, none⟩) (by first | omega | (simp <;> omega)) _).setCell (p := ⟨w.heap.size + 1 + 1 + 1, 1, none⟩) (by first | omega | (simp <;> omega)) _).setCell (p := ⟨w.heap.size + 1 + 1 + 1, 2, none⟩) (by first | omega | (simp <;> omega)) _)⟩
  obtain ⟨p1, _, l0, l1, l2⟩ := field_parts hfv
  obtain ⟨s1, s2, s3, s4, hm2, lx, ly⟩ := valid_parts p1
  obtain ⟨t1, t2⟩ := (sides_mul (valid_sides p1)).2.2.2.2
  obtain ⟨n, hn⟩ := Int.eq_ofNat_of_zero_le (show 0 ≤ wd * hi by omega)
  have E0 : e.length = n := by omega
  have E1 : x.length = n := by omega
  have E2 : y.length = n := by omega
  have n256 : n ≤ 256 := by omega
  have n0 : 0 < n := by omega
  obtain ⟨b0, o0, rfl, hz0⟩ := h0 0 _ (fvals_get (show 0 < e.length by omega)); clear hz0
  obtain ⟨b1, o1, rfl, hz1⟩ := h1 0 _ (fvals_get (show 0 < x.length by omega)); clear hz1
  obtain ⟨b2, o2, rfl, hz2⟩ := h2 0 _ (fvals_get (show 0 < y.length by omega)); clear hz2
  have CV : ∀ u, Below w.heap.size w u → Blk u w.heap.size #[.int .i64 wd, .int .i64 hi, .bool wb, .slice a xs.length ca, .slice b ys.length cb] 29 → Blk u (w.heap.size + 1) #[.slice (some ⟨b0, o0, none⟩) n c0, .slice (some ⟨b1, o1, none⟩) n c1, .slice (some ⟨b2, o2, none⟩) n c2] 38 → Calls Try.prog 60 #[.pointer (some ⟨w.heap.size, 0, none⟩), .pointer (some ⟨w.heap.size + 1, 0, none⟩)] u fun e w' => e = .returned (.bool true) ∧ Below u.heap.size u w' := fun u hu X Y => by
    have := specBoth w.heap.size (w.heap.size + 1) wd hi wb a b ca cb xs ys (some ⟨b0, o0, none⟩) (some ⟨b1, o1, none⟩) (some ⟨b2, o2, none⟩) c0 c1 c2 e x y u X (by rw [E0, E1, E2]; exact Y) (ha.later hu) (hb.later hu) hx hy (h0.later hu) (h1.later hu) (h2.later hu) m0 m1 m2
    rw [hfv] at this
    exact this.mono fun e w' ⟨h, nq, hw⟩ => ⟨h, by rw [hw]; exact below_drewN (Below.refl _ _) _⟩
  have HCV := Lib.hid CV; clear CV
  rw [E0, E1, E2]
  have HN := Lib.hid hn; have L0 := Lib.hid E0; have L1 := Lib.hid E1; have L2 := Lib.hid E2; clear hn E0 E1 E2 l0 l1 l2 lx ly t1 t2
  have HB0 : Hid (cutB wd hi wb xs ys e x y fr ct = stripB hi fr ct) := Lib.hid (by unfold cutB isStripB; rw [hfv, p1]; rfl)
  clear p1 hfv
  rcases hrr : stripB hi fr ct with _ | _
  · skip
    refine Calls.mono ?_ (fun e w9 h9 => ownO_no (by rw [HB0.out]; exact hrr) h9)
    have HRB := Lib.hid hrr; clear hrr
    have X := Blk.new w #[.int .i64 wd, .int .i64 hi, .bool wb, .slice a xs.length ca, .slice b ys.length cb] 29
    have Y := Blk.new1 w (.cells #[.int .i64 wd, .int .i64 hi, .bool wb, .slice a xs.length ca, .slice b ys.length cb] 29) #[.slice (some ⟨b0, o0, none⟩) n c0, .slice (some ⟨b1, o1, none⟩) n c1, .slice (some ⟨b2, o2, none⟩) n c2] 38
    replace X := X.alloc (.cells #[.slice (some ⟨b0, o0, none⟩) n c0, .slice (some ⟨b1, o1, none⟩) n c1, .slice (some ⟨b2, o2, none⟩) n c2] 38)
    have Q := Blk.new2 w (.cells #[.int .i64 wd, .int .i64 hi, .bool wb, .slice a xs.length ca, .slice b ys.length cb] 29) (.cells #[.slice (some ⟨b0, o0, none⟩) n c0, .slice (some ⟨b1, o1, none⟩) n c1, .slice (some ⟨b2, o2, none⟩) n c2] 38) #[.int .i64 fr, .int .i64 ct] 31
    replace X := X.alloc (.cells #[.int .i64 fr, .int .i64 ct] 31)
    replace Y := Y.alloc (.cells #[.int .i64 fr, .int .i64 ct] 31)
    have R := Blk.new3 w (.cells #[.int .i64 wd, .int .i64 hi, .bool wb, .slice a xs.length ca, .slice b ys.length cb] 29) (.cells #[.slice (some ⟨b0, o0, none⟩) n c0, .slice (some ⟨b1, o1, none⟩) n c1, .slice (some ⟨b2, o2, none⟩) n c2] 38) (.cells #[.int .i64 fr, .int .i64 ct] 31) #[.slice none 0 0, .slice none 0 0, .slice none 0 0] 38
    replace X := X.alloc (.cells #[.slice none 0 0, .slice none 0 0, .slice none 0 0] 38)
    replace Y := Y.alloc (.cells #[.slice none 0 0, .slice none 0 0, .slice none 0 0] 38)
    replace Q := Q.alloc (.cells #[.slice none 0 0, .slice none 0 0, .slice none 0 0] 38)
    have HB : Hid (Below w.heap.size w ((((w.alloc (.cells #[.int .i64 wd, .int .i64 hi, .bool wb, .slice a xs.length ca, .slice b ys.length cb] 29)).alloc (.cells #[.slice (some ⟨b0, o0, none⟩) n c0, .slice (some ⟨b1, o1, none⟩) n c1, .slice (some ⟨b2, o2, none⟩) n c2] 38)).alloc (.cells #[.int .i64 fr, .int .i64 ct] 31)).alloc (.cells #[.slice none 0 0, .slice none 0 0, .slice none 0 0] 38))) := Lib.hid (((((Below.refl w.heap.size w).alloc (by simp <;> omega) _).alloc (by simp <;> omega) _).alloc (by simp <;> omega) _).alloc (by simp <;> omega) _)
    go_enter Try.func19, Try.ntmps19
    go_wp2_with fail
    generalize ((((w.alloc (.cells #[.int .i64 wd, .int .i64 hi, .bool wb, .slice a xs.length ca, .slice b ys.length cb] 29)).alloc (.cells #[.slice (some ⟨b0, o0, none⟩) n c0, .slice (some ⟨b1, o1, none⟩) n c1, .slice (some ⟨b2, o2, none⟩) n c2] 38)).alloc (.cells #[.int .i64 fr, .int .i64 ct] 31)).alloc (.cells #[.slice none 0 0, .slice none 0 0, .slice none 0 0] 38)) = u1 at *
    refine (HCV.out _ HB.out X Y).mono ?_
    rintro r u2 ⟨rfl, q⟩
    replace X := X.later q
    replace Y := Y.later q
    replace Q := Q.later q
    replace R := R.later q
    replace HB := Lib.hid (HB.out.trans (q.mono HB.out.size))
    clear q
    go_wp2_with fail
    refine (specL07Is _ _ wd hi wb _ _ fr ct _ X Q s1 s2 s3 s4).mono ?_
    rintro r u3 ⟨rfl, nq, hw⟩
    have q_ : Below u2.heap.size u2 u3 := by rw [hw]; exact below_drewN (Below.refl _ _) _
    clear hw
    replace X := X.later q_
    replace Y := Y.later q_
    replace Q := Q.later q_
    replace R := R.later q_
    replace HB := Lib.hid (HB.out.trans (q_.mono HB.out.size))
    clear q_
    rw [HRB.out]
    obtain ⟨Rc, Rf⟩ := R.open
    go_wp2
    refine bodyPost_ret (v := .tuple #[.agg #[.slice none 0 0, .slice none 0 0, .slice none 0 0], .bool false]) (by simp [results, Try.results19, go_sem, Rc]) rfl ⟨none, none, none, 0, 0, 0, [], [], [], rfl, OwnField.none (((HB.out.setCell (p := ⟨w.heap.size + 1 + 1 + 1, 0, none⟩) (by first | omega | (simp <;> omega)) _).setCell (p := ⟨w.heap.size + 1 + 1 + 1, 1, none⟩) (by first | omega | (simp <;> omega)) _).setCell (p := ⟨w.heap.size + 1 + 1 + 1, 2, none⟩) (by first | omega | (simp <;> omega)) _)⟩
  have HBT : Hid (cutB wd hi wb xs ys e x y fr ct = true) := Lib.hid (by rw [HB0.out]; exact hrr)
  obtain ⟨q, m, e1, e2, e3, m0_, hle, f0, f1, f3, e4, e5⟩ := cut_nums s1 s2 s4 HN.out hrr
  have HM0 : Hid (cutM wd fr ct e = cl (placed (fun i => q + i) m e)) := Lib.hid (by unfold cutM cutL; rw [e4, e5])
  have z0 : n ≤ c0 := by rw [HC0.out, L0.out]; exact Nat.le_refl _
  have HPL0 : Hid ((placed (fun i => q + i) m e).length = m) := Lib.hid (placed_length _ _ _)
  have HIS0 : Hid (Is (placed (fun i => q + i) m e) (cl (placed (fun i => q + i) m e))) := Lib.hid (is_placed q0 (by omega))
  have HM1 : Hid (cutM wd fr ct x = cl (placed (fun i => q + i) m x)) := Lib.hid (by unfold cutM cutL; rw [e4, e5])
  have z1 : n ≤ c1 := by rw [HC1.out, L1.out]; exact Nat.le_refl _
  have HPL1 : Hid ((placed (fun i => q + i) m x).length = m) := Lib.hid (placed_length _ _ _)
  have HIS1 : Hid (Is (placed (fun i => q + i) m x) (cl (placed (fun i => q + i) m x))) := Lib.hid (is_placed q1 (by omega))
  have HM2 : Hid (cutM wd fr ct y = cl (placed (fun i => q + i) m y)) := Lib.hid (by unfold cutM cutL; rw [e4, e5])
  have z2 : n ≤ c2 := by rw [HC2.out, L2.out]; exact Nat.le_refl _
  have HPL2 : Hid ((placed (fun i => q + i) m y).length = m) := Lib.hid (placed_length _ _ _)
  have HIS2 : Hid (Is (placed (fun i => q + i) m y) (cl (placed (fun i => q + i) m y))) := Lib.hid (is_placed q2 (by omega))
  rw [HM0.out, HM1.out, HM2.out]
  have HQ := Lib.hid e1; have HQM := Lib.hid e3; clear e1 e2 e3 e4 e5 HM0 HM1 HM2
  have HRB := Lib.hid hrr; clear hrr
  have X := Blk.new w #[.int .i64 wd, .int .i64 hi, .bool wb, .slice a xs.length ca, .slice b ys.length cb] 29
  have Y := Blk.new1 w (.cells #[.int .i64 wd, .int .i64 hi, .bool wb, .slice a xs.length ca, .slice b ys.length cb] 29) #[.slice (some ⟨b0, o0, none⟩) n c0, .slice (some ⟨b1, o1, none⟩) n c1, .slice (some ⟨b2, o2, none⟩) n c2] 38
  replace X := X.alloc (.cells #[.slice (some ⟨b0, o0, none⟩) n c0, .slice (some ⟨b1, o1, none⟩) n c1, .slice (some ⟨b2, o2, none⟩) n c2] 38)
  have Q := Blk.new2 w (.cells #[.int .i64 wd, .int .i64 hi, .bool wb, .slice a xs.length ca, .slice b ys.length cb] 29) (.cells #[.slice (some ⟨b0, o0, none⟩) n c0, .slice (some ⟨b1, o1, none⟩) n c1, .slice (some ⟨b2, o2, none⟩) n c2] 38) #[.int .i64 fr, .int .i64 ct] 31
  replace X := X.alloc (.cells #[.int .i64 fr, .int .i64 ct] 31)
  replace Y := Y.alloc (.cells #[.int .i64 fr, .int .i64 ct] 31)
  have R := Blk.new3 w (.cells #[.int .i64 wd, .int .i64 hi, .bool wb, .slice a xs.length ca, .slice b ys.length cb] 29) (.cells #[.slice (some ⟨b0, o0, none⟩) n c0, .slice (some ⟨b1, o1, none⟩) n c1, .slice (some ⟨b2, o2, none⟩) n c2] 38) (.cells #[.int .i64 fr, .int .i64 ct] 31) #[.slice none 0 0, .slice none 0 0, .slice none 0 0] 38
  replace X := X.alloc (.cells #[.slice none 0 0, .slice none 0 0, .slice none 0 0] 38)
  replace Y := Y.alloc (.cells #[.slice none 0 0, .slice none 0 0, .slice none 0 0] 38)
  replace Q := Q.alloc (.cells #[.slice none 0 0, .slice none 0 0, .slice none 0 0] 38)
  have HB : Hid (Below w.heap.size w ((((w.alloc (.cells #[.int .i64 wd, .int .i64 hi, .bool wb, .slice a xs.length ca, .slice b ys.length cb] 29)).alloc (.cells #[.slice (some ⟨b0, o0, none⟩) n c0, .slice (some ⟨b1, o1, none⟩) n c1, .slice (some ⟨b2, o2, none⟩) n c2] 38)).alloc (.cells #[.int .i64 fr, .int .i64 ct] 31)).alloc (.cells #[.slice none 0 0, .slice none 0 0, .slice none 0 0] 38))) := Lib.hid (((((Below.refl w.heap.size w).alloc (by simp <;> omega) _).alloc (by simp <;> omega) _).alloc (by simp <;> omega) _).alloc (by simp <;> omega) _)
  go_enter Try.func19, Try.ntmps19
  go_wp2_with fail
  generalize ((((w.alloc (.cells #[.int .i64 wd, .int .i64 hi, .bool wb, .slice a xs.length ca, .slice b ys.length cb] 29)).alloc (.cells #[.slice (some ⟨b0, o0, none⟩) n c0, .slice (some ⟨b1, o1, none⟩) n c1, .slice (some ⟨b2, o2, none⟩) n c2] 38)).alloc (.cells #[.int .i64 fr, .int .i64 ct] 31)).alloc (.cells #[.slice none 0 0, .slice none 0 0, .slice none 0 0] 38)) = u1 at *
  refine (HCV.out _ HB.out X Y).mono ?_
  rintro r u2 ⟨rfl, q⟩
  replace X := X.later q
  replace Y := Y.later q
  replace Q := Q.later q
  replace R := R.later q
  replace HB := Lib.hid (HB.out.trans (q.mono HB.out.size))
  clear q
  go_wp2_with fail
  refine (specL07Is _ _ wd hi wb _ _ fr ct _ X Q s1 s2 s3 s4).mono ?_
  rintro r u3 ⟨rfl, nq, hw⟩
  have q_ : Below u2.heap.size u2 u3 := by rw [hw]; exact below_drewN (Below.refl _ _) _
  clear hw
  replace X := X.later q_
  replace Y := Y.later q_
  replace Q := Q.later q_
  replace R := R.later q_
  replace HB := Lib.hid (HB.out.trans (q_.mono HB.out.size))
  clear q_
  rw [HRB.out]
  go_wp2_with fail
  have szo := HB.out.size; have szr := R.lt
  refine (specCutOf _ _ _ b0 b1 b2 o0 o1 o2 c0 c1 c2 n q m wd hi wb _ _ fr ct e x y _ X Y Q (h0.later HB.out) (h1.later HB.out) (h2.later HB.out) L0.out L1.out L2.out n256 z0 z1 z2 s1 s2 HQ HQM m0_ hle f0 f1 f3).mono ?_
  rintro r u4 ⟨g0, g1, g2, k0, k1, k2, rfl, oo0, oo1, oo2, g01, g12, q9⟩
  have y0 := oo0.bound g0 rfl
  have W0 := Lib.hid (oo0.lower (show w.heap.size ≤ _ by omega))
  have W1 := Lib.hid (oo1.lower (show w.heap.size ≤ _ by omega))
  have W2 := Lib.hid (oo2.lower (show w.heap.size ≤ _ by omega))
  clear oo0 oo1 oo2
  replace X := X.later q9
  replace Y := Y.later q9
  replace Q := Q.later q9
  replace R := R.later q9
  replace HB := Lib.hid (HB.out.trans (q9.mono HB.out.size))
  clear q9
  obtain ⟨Rc, Rf⟩ := R.open
  go_wp2
  refine bodyPost_ret (v := .tuple #[.agg #[.slice (some ⟨g0, 0, none⟩) m k0, .slice (some ⟨g1, 0, none⟩) m k1, .slice (some ⟨g2, 0, none⟩) m k2], .bool true]) (by simp [results, Try.results19, go_sem, Rc]) rfl (ownO_yes HBT.out HPL0.out HPL1.out HPL2.out ⟨(((W0.out.set (p := ⟨w.heap.size + 1 + 1 + 1, 0, none⟩) (ne_block (h := w.heap.size + 1 + 1 + 1) (by omega)) _).set (p := ⟨w.heap.size + 1 + 1 + 1, 1, none⟩) (ne_block (h := w.heap.size + 1 + 1 + 1) (by omega)) _).set (p := ⟨w.heap.size + 1 + 1 + 1, 2, none⟩) (ne_block (h := w.heap.size + 1 + 1 + 1) (by omega)) _), (((W1.out.set (p := ⟨w.heap.size + 1 + 1 + 1, 0, none⟩) (ne_block (h := w.heap.size + 1 + 1 + 1) (by omega)) _).set (p := ⟨w.heap.size + 1 + 1 + 1, 1, none⟩) (ne_block (h := w.heap.size + 1 + 1 + 1) (by omega)) _).set (p := ⟨w.heap.size + 1 + 1 + 1, 2, none⟩) (ne_block (h := w.heap.size + 1 + 1 + 1) (by omega)) _), (((W2.out.set (p := ⟨w.heap.size + 1 + 1 + 1, 0, none⟩) (ne_block (h := w.heap.size + 1 + 1 + 1) (by omega)) _).set (p := ⟨w.heap.size + 1 + 1 + 1, 1, none⟩) (ne_block (h := w.heap.size + 1 + 1 + 1) (by omega)) _).set (p := ⟨w.heap.size + 1 + 1 + 1, 2, none⟩) (ne_block (h := w.heap.size + 1 + 1 + 1) (by omega)) _), HIS0.out, HIS1.out, HIS2.out, (((HB.out.setCell (p := ⟨w.heap.size + 1 + 1 + 1, 0, none⟩) (by first | omega | (simp <;> omega)) _).setCell (p := ⟨w.heap.size + 1 + 1 + 1, 1, none⟩) (by first | omega | (simp <;> omega)) _).setCell (p := ⟨w.heap.size + 1 + 1 + 1, 2, none⟩) (by first | omega | (simp <;> omega)) _)⟩)

def SpIx (wd : Int) (S : Value) (f : FuncId) (args : Array Value) (v : Value) : Prop := ∃ y : Int, args = #[S, .agg #[.int .i64 0, .int .i64 y]] ∧ v = .int .i64 (0 + wd * y)
theorem spIx {wd y : Int} {S v : Value} {f : FuncId} (h : SpIx wd S f #[S, .agg #[.int .i64 0, .int .i64 y]] v) : v = .int .i64 (0 + wd * y) := by
  obtain ⟨z, h1, h2⟩ := h
  simp at h1
  subst h1; exact h2
theorem toIx {wd y : Int} {S : Value} {f : FuncId} : SpIx wd S f #[S, .agg #[.int .i64 0, .int .i64 y]] (.int .i64 (0 + wd * y)) := ⟨y, rfl, rfl⟩

set_option maxHeartbeats 4000000 in
set_option maxRecDepth 100000 in
theorem implSpan (wd hi fr ct : Int) (wb : Bool) (q m : Nat) (w : World) (hq : Hid (wd * fr = (q : Int))) (hqm : Hid (wd * (fr + ct) = ((q + m : Nat) : Int))) (h256 : q + m ≤ 256) (f0 : 0 ≤ fr) (f1 : fr + ct ≤ 16) (f3 : 1 ≤ ct) :
    Calls Try.prog 76 #[.agg #[.int .i64 wd, .int .i64 hi, .bool wb], .agg #[.int .i64 fr, .int .i64 ct]] w fun e w' => e = .returned (.tuple #[.int .i64 (q : Int), .int .i64 ((q + m : Nat) : Int)]) ∧ Below w.heap.size w w' := by
  have H := Blk.new w #[.int .i64 wd, .int .i64 hi, .bool wb] 80
  have Q := Blk.new1 w (.cells #[.int .i64 wd, .int .i64 hi, .bool wb] 80) #[.int .i64 fr, .int .i64 ct] 31
  replace H := H.alloc (.cells #[.int .i64 fr, .int .i64 ct] 31)
  have HB : Hid (Below w.heap.size w ((w.alloc (.cells #[.int .i64 wd, .int .i64 hi, .bool wb] 80)).alloc (.cells #[.int .i64 fr, .int .i64 ct] 31))) := Lib.hid (((Below.refl w.heap.size w).alloc (by simp <;> omega) _).alloc (by simp <;> omega) _)
  go_enter Try.func76, Try.ntmps76
  go_wp2_with fail
  generalize ((w.alloc (.cells #[.int .i64 wd, .int .i64 hi, .bool wb] 80)).alloc (.cells #[.int .i64 fr, .int .i64 ct] 31)) = u1 at *
  have ai64 : ∀ w, (isAgg 2).run Try.prog w = .ok false w := fun w => by kernel_rfl
  have E1 : Hid (0 + wd * fr = (q : Int)) := Lib.hid (by rw [hq.out]; omega)
  have E2 : Hid (0 + wd * (fr + ct) = ((q + m : Nat) : Int)) := Lib.hid (by rw [hqm.out]; omega)
  have i1 : 0 ≤ wd * fr := by rw [hq.out]; omega
  have i2 : wd * fr ≤ 256 := by rw [hq.out]; omega
  have i3 : 0 ≤ wd * (fr + ct) := by rw [hqm.out]; omega
  have i4 : wd * (fr + ct) ≤ 256 := by rw [hqm.out]; omega
  obtain ⟨Qc, Qf⟩ := Q.open; obtain ⟨Hc, Hf⟩ := H.open
  refine wp_region_relC (Grows u1) (SpIx wd (.agg #[.int .i64 wd, .int .i64 hi, .bool wb])) (by kernel_rfl) (by kernel_rfl) (Grows.drew _) ?_
  (refine wpRel_load rfl _ rfl (_) (fun w' hw' => run_loadVar_row w' _ _ _ _ _ _ (H.later hw') Try.underlying80 rfl (by kernel_rfl)) ?_; simp only [Act.put, List.setIfInBounds_toArray, List.set_cons_zero, List.set_cons_succ, List.getElem_toArray, List.getElem_cons_zero, List.getElem_cons_succ])
  (refine wpRel_plain rfl rfl ?_; intro K hK; go_big_quiet_op; (first | go_big_quiet_on | (refine ⟨_, fun _ _ => rfl, ?_⟩; go_big_quiet_on)))
  (refine wpRel_load rfl _ rfl (.int .i64 fr) (load_cell ai64 (Qc 0)) ?_; simp only [Act.put, List.setIfInBounds_toArray, List.set_cons_zero, List.set_cons_succ, List.getElem_toArray, List.getElem_cons_zero, List.getElem_cons_succ])
  (refine wpRel_build rfl #[.int .i64 0, .int .i64 fr] (by kernel_rfl) ?_; simp only [Act.put, List.setIfInBounds_toArray, List.set_cons_zero, List.set_cons_succ, List.getElem_toArray, List.getElem_cons_zero, List.getElem_cons_succ])
  (refine wpRel_callC rfl 117 _ rfl Try.func117 (by kernel_rfl) (by kernel_rfl) [.agg #[.int .i64 wd, .int .i64 hi, .bool wb], .agg #[.int .i64 0, .int .i64 (fr)]] rfl (fun w' hw' => (implIndexOf wd hi 0 (fr) wb w' i1 i2 (by omega) (by omega)).mono (by rintro e w'' ⟨rfl, q9⟩; exact ⟨_, rfl, toIx, hw'.next q9⟩)) ?_; intro v hv; obtain rfl := spIx hv; clear hv; simp only [Act.put, List.setIfInBounds_toArray, List.set_cons_zero, List.set_cons_succ, List.getElem_toArray, List.getElem_cons_zero, List.getElem_cons_succ])
  (refine wpRel_load rfl _ rfl (_) (fun w' hw' => run_loadVar_row w' _ _ _ _ _ _ (H.later hw') Try.underlying80 rfl (by kernel_rfl)) ?_; simp only [Act.put, List.setIfInBounds_toArray, List.set_cons_zero, List.set_cons_succ, List.getElem_toArray, List.getElem_cons_zero, List.getElem_cons_succ])
  (refine wpRel_plain rfl rfl ?_; intro K hK; go_big_quiet_op; (first | go_big_quiet_on | (refine ⟨_, fun _ _ => rfl, ?_⟩; go_big_quiet_on)))
  (refine wpRel_load rfl _ rfl (.int .i64 fr) (load_cell ai64 (Qc 0)) ?_; simp only [Act.put, List.setIfInBounds_toArray, List.set_cons_zero, List.set_cons_succ, List.getElem_toArray, List.getElem_cons_zero, List.getElem_cons_succ])
  (refine wpRel_plain rfl rfl ?_; intro K hK; go_big_quiet_op; (first | go_big_quiet_on | (refine ⟨_, fun _ _ => rfl, ?_⟩; go_big_quiet_on)))
  (refine wpRel_load rfl _ rfl (.int .i64 ct) (load_cell ai64 (Qc 1)) ?_; simp only [Act.put, List.setIfInBounds_toArray, List.set_cons_zero, List.set_cons_succ, List.getElem_toArray, List.getElem_cons_zero, List.getElem_cons_succ])
  (refine wpRel_plain rfl rfl ?_; intro K hK; go_big_quiet_op; (first | go_big_quiet_on | (refine ⟨_, fun _ _ => rfl, ?_⟩; go_big_quiet_on)))
  (refine wpRel_build rfl #[.int .i64 0, .int .i64 (fr + ct)] (by kernel_rfl) ?_; simp only [Act.put, List.setIfInBounds_toArray, List.set_cons_zero, List.set_cons_succ, List.getElem_toArray, List.getElem_cons_zero, List.getElem_cons_succ])
  (refine wpRel_callC rfl 117 _ rfl Try.func117 (by kernel_rfl) (by kernel_rfl) [.agg #[.int .i64 wd, .int .i64 hi, .bool wb], .agg #[.int .i64 0, .int .i64 (fr + ct)]] rfl (fun w' hw' => (implIndexOf wd hi 0 (fr + ct) wb w' i3 i4 (by omega) (by omega)).mono (by rintro e w'' ⟨rfl, q9⟩; exact ⟨_, rfl, toIx, hw'.next q9⟩)) ?_; intro v hv; obtain rfl := spIx hv; clear hv; simp only [Act.put, List.setIfInBounds_toArray, List.set_cons_zero, List.set_cons_succ, List.getElem_toArray, List.getElem_cons_zero, List.getElem_cons_succ])
  (refine wpRel_plain rfl rfl ?_; intro K hK; go_big_quiet_op; (first | go_big_quiet_on | (refine ⟨_, fun _ _ => rfl, ?_⟩; go_big_quiet_on)))
  (refine wpRel_plain rfl rfl ?_; intro K hK; go_big_quiet_op; (first | go_big_quiet_on | (refine ⟨_, fun _ _ => rfl, ?_⟩; go_big_quiet_on)))
  refine wpRel_nil ?_
  intro u2 hw'
  replace hw' : Below u1.heap.size u1 u2 := hw'
  replace HB := Lib.hid (HB.out.trans (hw'.mono HB.out.size)); clear hw' Qc Qf Hc Hf
  rw [E1.out, E2.out]
  clear i1 i2 i3 i4
  go_wp2
  go_ret2
  exact ⟨rfl, HB.out⟩

set_option maxHeartbeats 4000000 in
set_option maxRecDepth 100000 in
theorem implCutList (wd hi fr ct : Int) (wb : Bool) (ba oa ca n q m : Nat) (xs : List Nat) (w : World) (ha : RowV w (some ⟨ba, oa, none⟩) (fvals xs)) (hx : xs.length = n) (n256 : n ≤ 256) (hca : n ≤ ca) (hq : Hid (wd * fr = (q : Int))) (hqm : Hid (wd * (fr + ct) = ((q + m : Nat) : Int))) (m0 : 0 < m) (hle : q + m ≤ n) (f0 : 0 ≤ fr) (f1 : fr + ct ≤ 16) (f3 : 1 ≤ ct) :
    Calls Try.prog 108 #[.agg #[.int .i64 wd, .int .i64 hi, .bool wb], .slice (some ⟨ba, oa, none⟩) n ca, .agg #[.int .i64 fr, .int .i64 ct]] w fun e w' => ∃ g c, e = .returned (.slice (some ⟨g, 0, none⟩) m c) ∧ OwnV w' w.heap.size (some ⟨g, 0, none⟩) (fvals (placed (fun i => q + i) m xs)) ∧ Below w.heap.size w w' := by
  have HRP := Lib.hid (fun u (hu : Below w.heap.size w u) => row_part (q := q) (m := m) (ha.later hu) (by rw [hx]; exact hle))
  have HPL : Hid ((placed (fun i => q + i) m xs).length = m) := Lib.hid (placed_length _ _ _)
  have CLN : ∀ u c, Below w.heap.size w u → Calls Try.prog 141 #[.slice (some ⟨ba, oa + q, none⟩) m c] u fun e' w' => ∃ g c', e' = .returned (.slice (some ⟨g, 0, none⟩) m c') ∧ OwnV w' u.heap.size (some ⟨g, 0, none⟩) (fvals (placed (fun i => q + i) m xs)) ∧ Below u.heap.size u w' := fun u c hu => by
    have := implClone ba (oa + q) c (placed (fun i => q + i) m xs) u (HRP.out _ hu) (by rw [HPL.out]; exact m0) (by rw [HPL.out]; omega)
    rw [HPL.out] at this; exact this
  have HCLN := Lib.hid CLN; clear CLN ha hx
  have H := Blk.new w #[.int .i64 wd, .int .i64 hi, .bool wb] 80
  have Q := Blk.new1 w (.cells #[.int .i64 wd, .int .i64 hi, .bool wb] 80) #[.int .i64 fr, .int .i64 ct] 31
  replace H := H.alloc (.cells #[.int .i64 fr, .int .i64 ct] 31)
  have HB : Hid (Below w.heap.size w ((w.alloc (.cells #[.int .i64 wd, .int .i64 hi, .bool wb] 80)).alloc (.cells #[.int .i64 fr, .int .i64 ct] 31))) := Lib.hid (((Below.refl w.heap.size w).alloc (by simp <;> omega) _).alloc (by simp <;> omega) _)
  go_enter Try.func108, Try.ntmps108
  go_wp2_with fail
  generalize ((w.alloc (.cells #[.int .i64 wd, .int .i64 hi, .bool wb] 80)).alloc (.cells #[.int .i64 fr, .int .i64 ct] 31)) = u1 at *
  obtain ⟨Hc, Hf⟩ := H.open
  obtain ⟨Qc, Qf⟩ := Q.open
  go_wp2_with fail
  refine (implSpan wd hi fr ct wb q m _ hq hqm (by omega) f0 f1 f3).mono ?_
  rintro r u2 ⟨rfl, q⟩
  clear Hc Hf
  clear Qc Qf
  replace H := H.later q
  replace Q := Q.later q
  replace HB := Lib.hid (HB.out.trans (q.mono HB.out.size))
  clear q
  have hl : (q : Int) + (m : Int) ≤ (n : Int) := by omega
  have HBS := HB.out.size
  go_wp2_with fail
  refine (HCLN.out _ _ HB.out).mono ?_
  rintro r u3 ⟨g, c9, rfl, W, q_⟩
  replace H := H.later q_
  replace Q := Q.later q_
  replace HB := Lib.hid (HB.out.trans (q_.mono HB.out.size))
  clear q_
  go_wp2
  go_ret
  exact ⟨g, c9, rfl, W.lower HBS, HB.out⟩

set_option maxHeartbeats 4000000 in
set_option maxRecDepth 100000 in
theorem implCutField (wd hi fr ct : Int) (wb : Bool) (b0 b1 b2 o0 o1 o2 c0 c1 c2 n q m : Nat) (e x y : List Nat) (w : World) (h0 : RowV w (some ⟨b0, o0, none⟩) (fvals e)) (h1 : RowV w (some ⟨b1, o1, none⟩) (fvals x)) (h2 : RowV w (some ⟨b2, o2, none⟩) (fvals y)) (l0 : e.length = n) (l1 : x.length = n) (l2 : y.length = n) (n256 : n ≤ 256) (z0 : n ≤ c0) (z1 : n ≤ c1) (z2 : n ≤ c2) (hq : Hid (wd * fr = (q : Int))) (hqm : Hid (wd * (fr + ct) = ((q + m : Nat) : Int))) (m0 : 0 < m) (hle : q + m ≤ n) (f0 : 0 ≤ fr) (f1 : fr + ct ≤ 16) (f3 : 1 ≤ ct) :
    Calls Try.prog 63 #[.agg #[.int .i64 wd, .int .i64 hi, .bool wb], .agg #[.slice (some ⟨b0, o0, none⟩) n c0, .slice (some ⟨b1, o1, none⟩) n c1, .slice (some ⟨b2, o2, none⟩) n c2], .agg #[.int .i64 fr, .int .i64 ct]] w fun r w' => ∃ g0 g1 g2 k0 k1 k2, r = .returned (.agg #[.slice (some ⟨g0, 0, none⟩) m k0, .slice (some ⟨g1, 0, none⟩) m k1, .slice (some ⟨g2, 0, none⟩) m k2]) ∧ OwnV w' w.heap.size (some ⟨g0, 0, none⟩) (fvals (placed (fun i => q + i) m e)) ∧ OwnV w' w.heap.size (some ⟨g1, 0, none⟩) (fvals (placed (fun i => q + i) m x)) ∧ OwnV w' w.heap.size (some ⟨g2, 0, none⟩) (fvals (placed (fun i => q + i) m y)) ∧ g0 < g1 ∧ g1 < g2 ∧ Below w.heap.size w w' := by
  have L0 := Lib.hid l0
  have L1 := Lib.hid l1
  have L2 := Lib.hid l2
  clear l0 l1 l2
  have H := Blk.new w #[.int .i64 wd, .int .i64 hi, .bool wb] 80
  have Y := Blk.new1 w (.cells #[.int .i64 wd, .int .i64 hi, .bool wb] 80) #[.slice (some ⟨b0, o0, none⟩) n c0, .slice (some ⟨b1, o1, none⟩) n c1, .slice (some ⟨b2, o2, none⟩) n c2] 38
  replace H := H.alloc (.cells #[.slice (some ⟨b0, o0, none⟩) n c0, .slice (some ⟨b1, o1, none⟩) n c1, .slice (some ⟨b2, o2, none⟩) n c2] 38)
  have Q := Blk.new2 w (.cells #[.int .i64 wd, .int .i64 hi, .bool wb] 80) (.cells #[.slice (some ⟨b0, o0, none⟩) n c0, .slice (some ⟨b1, o1, none⟩) n c1, .slice (some ⟨b2, o2, none⟩) n c2] 38) #[.int .i64 fr, .int .i64 ct] 31
  replace H := H.alloc (.cells #[.int .i64 fr, .int .i64 ct] 31)
  replace Y := Y.alloc (.cells #[.int .i64 fr, .int .i64 ct] 31)
  have R := Blk.new3 w (.cells #[.int .i64 wd, .int .i64 hi, .bool wb] 80) (.cells #[.slice (some ⟨b0, o0, none⟩) n c0, .slice (some ⟨b1, o1, none⟩) n c1, .slice (some ⟨b2, o2, none⟩) n c2] 38) (.cells #[.int .i64 fr, .int .i64 ct] 31) #[.slice none 0 0, .slice none 0 0, .slice none 0 0] 38
  replace H := H.alloc (.cells #[.slice none 0 0, .slice none 0 0, .slice none 0 0] 38)
  replace Y := Y.alloc (.cells #[.slice none 0 0, .slice none 0 0, .slice none 0 0] 38)
  replace Q := Q.alloc (.cells #[.slice none 0 0, .slice none 0 0, .slice none 0 0] 38)
  have HB : Hid (Below w.heap.size w ((((w.alloc (.cells #[.int .i64 wd, .int .i64 hi, .bool wb] 80)).alloc (.cells #[.slice (some ⟨b0, o0, none⟩) n c0, .slice (some ⟨b1, o1, none⟩) n c1, .slice (some ⟨b2, o2, none⟩) n c2] 38)).alloc (.cells #[.int .i64 fr, .int .i64 ct] 31)).alloc (.cells #[.slice none 0 0, .slice none 0 0, .slice none 0 0] 38))) := Lib.hid (((((Below.refl w.heap.size w).alloc (by simp <;> omega) _).alloc (by simp <;> omega) _).alloc (by simp <;> omega) _).alloc (by simp <;> omega) _)
  go_enter Try.func63, Try.ntmps63
  go_wp2_with fail
  generalize ((((w.alloc (.cells #[.int .i64 wd, .int .i64 hi, .bool wb] 80)).alloc (.cells #[.slice (some ⟨b0, o0, none⟩) n c0, .slice (some ⟨b1, o1, none⟩) n c1, .slice (some ⟨b2, o2, none⟩) n c2] 38)).alloc (.cells #[.int .i64 fr, .int .i64 ct] 31)).alloc (.cells #[.slice none 0 0, .slice none 0 0, .slice none 0 0] 38)) = u1 at *
  have HBU := HB.out; have zu := HBU.size; have zr := R.lt
  have aslc : ∀ w, (isAgg 22).run Try.prog w = .ok false w := fun w => by kernel_rfl
  obtain ⟨Yc, Yf⟩ := Y.open
  refine wp_region_noPanic ?_
  refine wp_region_plan (Grows u1) 16 [(0, true), (1, true), (2, true), (3, true), (5, true), (6, true), (7, true), (8, true), (10, true), (11, true), (12, true), (13, true), (4, false), (9, false), (14, false), (15, true)] (by kernel_rfl) (by kernel_rfl) (fun _ _ _ _ _ h => h) (Grows.drew _) ?_
  (refine plan_load rfl rfl (⟨w.heap.size, 0, none⟩) (by kernel_rfl) (.agg #[.int .i64 wd, .int .i64 hi, .bool wb]) (fun w' hw' => run_loadVar_row w' _ _ _ _ _ _ (H.later hw') Try.underlying80 rfl (by kernel_rfl)) ?_; simp only [Act.put, List.setIfInBounds_toArray, List.set_cons_zero, List.set_cons_succ, List.getElem_toArray, List.getElem_cons_zero, List.getElem_cons_succ])
  (refine plan_plain rfl rfl ?_ ?_ ?_; rotate_left; focus (intro w9; go_simp <;> with_reducible rfl)); (simp only [Act.put, List.setIfInBounds_toArray, List.set_cons_zero, List.set_cons_succ, List.getElem_toArray, List.getElem_cons_zero, List.getElem_cons_succ])
  (refine plan_load rfl rfl (⟨w.heap.size + 1, 0, none⟩) (by kernel_rfl) (.slice (some ⟨b0, o0, none⟩) n c0) (load_cell aslc (Yc 0)) ?_; simp only [Act.put, List.setIfInBounds_toArray, List.set_cons_zero, List.set_cons_succ, List.getElem_toArray, List.getElem_cons_zero, List.getElem_cons_succ])
  (refine plan_load rfl rfl (⟨w.heap.size + 1 + 1, 0, none⟩) (by kernel_rfl) (.agg #[.int .i64 fr, .int .i64 ct]) (fun w' hw' => run_loadVar_row w' _ _ _ _ _ _ (Q.later hw') Try.underlying31 rfl (by kernel_rfl)) ?_; simp only [Act.put, List.setIfInBounds_toArray, List.set_cons_zero, List.set_cons_succ, List.getElem_toArray, List.getElem_cons_zero, List.getElem_cons_succ])
  (refine plan_load rfl rfl (⟨w.heap.size, 0, none⟩) (by kernel_rfl) (.agg #[.int .i64 wd, .int .i64 hi, .bool wb]) (fun w' hw' => run_loadVar_row w' _ _ _ _ _ _ (H.later hw') Try.underlying80 rfl (by kernel_rfl)) ?_; simp only [Act.put, List.setIfInBounds_toArray, List.set_cons_zero, List.set_cons_succ, List.getElem_toArray, List.getElem_cons_zero, List.getElem_cons_succ])
  (refine plan_plain rfl rfl ?_ ?_ ?_; rotate_left; focus (intro w9; go_simp <;> with_reducible rfl)); (simp only [Act.put, List.setIfInBounds_toArray, List.set_cons_zero, List.set_cons_succ, List.getElem_toArray, List.getElem_cons_zero, List.getElem_cons_succ])
  (refine plan_load rfl rfl (⟨w.heap.size + 1, 1, none⟩) (by kernel_rfl) (.slice (some ⟨b1, o1, none⟩) n c1) (load_cell aslc (Yc 1)) ?_; simp only [Act.put, List.setIfInBounds_toArray, List.set_cons_zero, List.set_cons_succ, List.getElem_toArray, List.getElem_cons_zero, List.getElem_cons_succ])
  (refine plan_load rfl rfl (⟨w.heap.size + 1 + 1, 0, none⟩) (by kernel_rfl) (.agg #[.int .i64 fr, .int .i64 ct]) (fun w' hw' => run_loadVar_row w' _ _ _ _ _ _ (Q.later hw') Try.underlying31 rfl (by kernel_rfl)) ?_; simp only [Act.put, List.setIfInBounds_toArray, List.set_cons_zero, List.set_cons_succ, List.getElem_toArray, List.getElem_cons_zero, List.getElem_cons_succ])
  (refine plan_load rfl rfl (⟨w.heap.size, 0, none⟩) (by kernel_rfl) (.agg #[.int .i64 wd, .int .i64 hi, .bool wb]) (fun w' hw' => run_loadVar_row w' _ _ _ _ _ _ (H.later hw') Try.underlying80 rfl (by kernel_rfl)) ?_; simp only [Act.put, List.setIfInBounds_toArray, List.set_cons_zero, List.set_cons_succ, List.getElem_toArray, List.getElem_cons_zero, List.getElem_cons_succ])
  (refine plan_plain rfl rfl ?_ ?_ ?_; rotate_left; focus (intro w9; go_simp <;> with_reducible rfl)); (simp only [Act.put, List.setIfInBounds_toArray, List.set_cons_zero, List.set_cons_succ, List.getElem_toArray, List.getElem_cons_zero, List.getElem_cons_succ])
  (refine plan_load rfl rfl (⟨w.heap.size + 1, 2, none⟩) (by kernel_rfl) (.slice (some ⟨b2, o2, none⟩) n c2) (load_cell aslc (Yc 2)) ?_; simp only [Act.put, List.setIfInBounds_toArray, List.set_cons_zero, List.set_cons_succ, List.getElem_toArray, List.getElem_cons_zero, List.getElem_cons_succ])
  (refine plan_load rfl rfl (⟨w.heap.size + 1 + 1, 0, none⟩) (by kernel_rfl) (.agg #[.int .i64 fr, .int .i64 ct]) (fun w' hw' => run_loadVar_row w' _ _ _ _ _ _ (Q.later hw') Try.underlying31 rfl (by kernel_rfl)) ?_; simp only [Act.put, List.setIfInBounds_toArray, List.set_cons_zero, List.set_cons_succ, List.getElem_toArray, List.getElem_cons_zero, List.getElem_cons_succ])
  have v0_ := Grows.drew u1
  generalize u1.drew = v0 at *
  have ee0 := h0.later (HBU.trans (Below.mono v0_ zu))
  refine plan_call rfl rfl 108 #[] #[] rfl _ Try.func108 (by kernel_rfl) (by kernel_rfl) [.agg #[.int .i64 wd, .int .i64 hi, .bool wb], .slice (some ⟨b0, o0, none⟩) n c0, .agg #[.int .i64 fr, .int .i64 ct]] (by kernel_rfl) #[.agg #[.int .i64 wd, .int .i64 hi, .bool wb], .slice (some ⟨b0, o0, none⟩) n c0, .agg #[.int .i64 fr, .int .i64 ct]] (by simp) _ (implCutList wd hi fr ct wb b0 o0 c0 n q m e v0 ee0 L0.out n256 z0 hq hqm m0 hle f0 f1 f3) ?_
  rintro e v1 ⟨g0, k0, rfl, oo0, bb0⟩
  refine ⟨_, rfl, v0_.next bb0, ?_⟩
  simp only [Act.put, List.setIfInBounds_toArray, List.set_cons_zero, List.set_cons_succ, List.getElem_toArray, List.getElem_cons_zero, List.getElem_cons_succ]
  have v1_ := v0_.next bb0
  have ee1 := h1.later (HBU.trans (Below.mono v1_ zu))
  refine plan_call rfl rfl 108 #[] #[] rfl _ Try.func108 (by kernel_rfl) (by kernel_rfl) [.agg #[.int .i64 wd, .int .i64 hi, .bool wb], .slice (some ⟨b1, o1, none⟩) n c1, .agg #[.int .i64 fr, .int .i64 ct]] (by kernel_rfl) #[.agg #[.int .i64 wd, .int .i64 hi, .bool wb], .slice (some ⟨b1, o1, none⟩) n c1, .agg #[.int .i64 fr, .int .i64 ct]] (by simp) _ (implCutList wd hi fr ct wb b1 o1 c1 n q m x v1 ee1 L1.out n256 z1 hq hqm m0 hle f0 f1 f3) ?_
  rintro e v2 ⟨g1, k1, rfl, oo1, bb1⟩
  refine ⟨_, rfl, v1_.next bb1, ?_⟩
  simp only [Act.put, List.setIfInBounds_toArray, List.set_cons_zero, List.set_cons_succ, List.getElem_toArray, List.getElem_cons_zero, List.getElem_cons_succ]
  have v2_ := v1_.next bb1
  have ee2 := h2.later (HBU.trans (Below.mono v2_ zu))
  refine plan_call rfl rfl 108 #[] #[] rfl _ Try.func108 (by kernel_rfl) (by kernel_rfl) [.agg #[.int .i64 wd, .int .i64 hi, .bool wb], .slice (some ⟨b2, o2, none⟩) n c2, .agg #[.int .i64 fr, .int .i64 ct]] (by kernel_rfl) #[.agg #[.int .i64 wd, .int .i64 hi, .bool wb], .slice (some ⟨b2, o2, none⟩) n c2, .agg #[.int .i64 fr, .int .i64 ct]] (by simp) _ (implCutList wd hi fr ct wb b2 o2 c2 n q m y v2 ee2 L2.out n256 z2 hq hqm m0 hle f0 f1 f3) ?_
  rintro e v3 ⟨g2, k2, rfl, oo2, bb2⟩
  refine ⟨_, rfl, v2_.next bb2, ?_⟩
  simp only [Act.put, List.setIfInBounds_toArray, List.set_cons_zero, List.set_cons_succ, List.getElem_toArray, List.getElem_cons_zero, List.getElem_cons_succ]
  have v3_ := v2_.next bb2
  (refine plan_build rfl rfl #[.slice (some ⟨g0, 0, none⟩) m k0, .slice (some ⟨g1, 0, none⟩) m k1, .slice (some ⟨g2, 0, none⟩) m k2] (by kernel_rfl) ?_; simp only [Act.put, List.setIfInBounds_toArray, List.set_cons_zero, List.set_cons_succ, List.getElem_toArray, List.getElem_cons_zero, List.getElem_cons_succ])
  change wpList _ _ _ _ _ _
  simp only [List.drop_succ_cons, List.drop_zero]
  have sz1 : u1.heap.size ≤ v0.heap.size := Below.size v0_; have sz2 : u1.heap.size ≤ v1.heap.size := Below.size v1_; have sz3 : u1.heap.size ≤ v2.heap.size := Below.size v2_; have sz12 := bb0.size; have sz23 := bb1.size; have sz34 := bb2.size
  have y0 := oo0.bound g0 rfl; have y1 := oo1.bound g1 rfl; have y2 := oo2.bound g2 rfl
  have z0_ := (oo0.span _ rfl).2; have z1_ := (oo1.span _ rfl).2; dsimp only at z0_ z1_
  have ne01 : g0 < g1 := by omega
  have ne12 : g1 < g2 := by omega
  have O0 := Lib.hid (((oo0.later bb1).later bb2).lower (show w.heap.size ≤ v0.heap.size by omega)); have O1 := Lib.hid ((oo1.later bb2).lower (show w.heap.size ≤ v1.heap.size by omega)); have O2 := Lib.hid (oo2.lower (show w.heap.size ≤ v2.heap.size by omega)); clear oo0 oo1 oo2
  have HB4 := Lib.hid (HBU.trans (Below.mono v3_ zu))
  have R4 := R.later v3_
  clear ee0 ee1 ee2 bb0 bb1 bb2 v0_ v1_ v2_ v3_ Yc Yf H R Y Q HB
  obtain ⟨Rc, Rf⟩ := R4.open
  go_wp2_with fail
  refine NoPanic.normal ?_
  go_wp2
  refine bodyPost_ret (v := .agg #[.slice (some ⟨g0, 0, none⟩) m k0, .slice (some ⟨g1, 0, none⟩) m k1, .slice (some ⟨g2, 0, none⟩) m k2]) (by simp [results, Try.results63, go_sem, Rc]) rfl ⟨g0, g1, g2, k0, k1, k2, rfl, (((O0.out.set (p := ⟨w.heap.size + 1 + 1 + 1, 0, none⟩) (ne_block (h := w.heap.size + 1 + 1 + 1) (by omega)) _).set (p := ⟨w.heap.size + 1 + 1 + 1, 1, none⟩) (ne_block (h := w.heap.size + 1 + 1 + 1) (by omega)) _).set (p := ⟨w.heap.size + 1 + 1 + 1, 2, none⟩) (ne_block (h := w.heap.size + 1 + 1 + 1) (by omega)) _), (((O1.out.set (p := ⟨w.heap.size + 1 + 1 + 1, 0, none⟩) (ne_block (h := w.heap.size + 1 + 1 + 1) (by omega)) _).set (p := ⟨w.heap.size + 1 + 1 + 1, 1, none⟩) (ne_block (h := w.heap.size + 1 + 1 + 1) (by omega)) _).set (p := ⟨w.heap.size + 1 + 1 + 1, 2, none⟩) (ne_block (h := w.heap.size + 1 + 1 + 1) (by omega)) _), (((O2.out.set (p := ⟨w.heap.size + 1 + 1 + 1, 0, none⟩) (ne_block (h := w.heap.size + 1 + 1 + 1) (by omega)) _).set (p := ⟨w.heap.size + 1 + 1 + 1, 1, none⟩) (ne_block (h := w.heap.size + 1 + 1 + 1) (by omega)) _).set (p := ⟨w.heap.size + 1 + 1 + 1, 2, none⟩) (ne_block (h := w.heap.size + 1 + 1 + 1) (by omega)) _), ne01, ne12, (((HB4.out.setCell (p := ⟨w.heap.size + 1 + 1 + 1, 0, none⟩) (by first | omega | (simp <;> omega)) _).setCell (p := ⟨w.heap.size + 1 + 1 + 1, 1, none⟩) (by first | omega | (simp <;> omega)) _).setCell (p := ⟨w.heap.size + 1 + 1 + 1, 2, none⟩) (by first | omega | (simp <;> omega)) _)⟩

set_option maxHeartbeats 8000000 in
set_option maxRecDepth 100000 in
theorem implCutStripL (wd hi : Int) (wb : Bool) (a b : Option Addr) (ca cb : Nat) (xs ys : List Nat) (a0 a1 a2 : Option Addr) (c0 c1 c2 : Nat) (e x y : List Nat) (fr ct : Int) (w : World) (ha : RowV w a (fvals xs)) (hb : RowV w b (fvals ys)) (qa : ∀ z ∈ xs, z < 2 ^ 32) (qb : ∀ z ∈ ys, z < 2 ^ 32) (hx : xs.length ≤ maxLen) (hy : ys.length ≤ maxLen) (h0 : RowV w a0 (fvals e)) (h1 : RowV w a1 (fvals x)) (h2 : RowV w a2 (fvals y)) (q0 : ∀ z ∈ e, z < 2 ^ 32) (q1 : ∀ z ∈ x, z < 2 ^ 32) (q2 : ∀ z ∈ y, z < 2 ^ 32) (m0 : e.length ≤ maxLen) (m1 : x.length ≤ maxLen) (m2 : y.length ≤ maxLen) (hc0 : c0 = e.length := by rfl) (hc1 : c1 = x.length := by rfl) (hc2 : c2 = y.length := by rfl) :
    Calls Try.prog 21 #[.agg #[.int .i64 wd, .int .i64 hi, .bool wb, .slice a xs.length ca, .slice b ys.length cb], .agg #[.slice a0 e.length c0, .slice a1 x.length c1, .slice a2 y.length c2], .agg #[.int .i64 fr, .int .i64 ct]] w (GaveO w (cutB wd hi wb xs ys e x y fr ct) (cutM wd fr ct e) (cutM wd fr ct x) (cutM wd fr ct y)) := by
  have HC0 := Lib.hid hc0; have HC1 := Lib.hid hc1; have HC2 := Lib.hid hc2; clear hc0 hc1 hc2
  rcases hfv : fieldB wd hi wb xs ys e x y with _ | _
  · skip
    refine Calls.mono ?_ (fun e w9 h9 => rampO_no (by unfold cutB; rw [hfv]; rfl) h9)
    have H_fb := Lib.hid hfv; clear hfv
    have X := Blk.new w #[.int .i64 wd, .int .i64 hi, .bool wb, .slice a xs.length ca, .slice b ys.length cb] 29
    have Y := Blk.new1 w (.cells #[.int .i64 wd, .int .i64 hi, .bool wb, .slice a xs.length ca, .slice b ys.length cb] 29) #[.slice a0 e.length c0, .slice a1 x.length c1, .slice a2 y.length c2] 38
    replace X := X.alloc (.cells #[.slice a0 e.length c0, .slice a1 x.length c1, .slice a2 y.length c2] 38)
    have Q := Blk.new2 w (.cells #[.int .i64 wd, .int .i64 hi, .bool wb, .slice a xs.length ca, .slice b ys.length cb] 29) (.cells #[.slice a0 e.length c0, .slice a1 x.length c1, .slice a2 y.length c2] 38) #[.int .i64 fr, .int .i64 ct] 31
    replace X := X.alloc (.cells #[.int .i64 fr, .int .i64 ct] 31)
    replace Y := Y.alloc (.cells #[.int .i64 fr, .int .i64 ct] 31)
    have R := Blk.new3 w (.cells #[.int .i64 wd, .int .i64 hi, .bool wb, .slice a xs.length ca, .slice b ys.length cb] 29) (.cells #[.slice a0 e.length c0, .slice a1 x.length c1, .slice a2 y.length c2] 38) (.cells #[.int .i64 fr, .int .i64 ct] 31) #[.slice none 0 0, .slice none 0 0, .slice none 0 0] 38
    replace X := X.alloc (.cells #[.slice none 0 0, .slice none 0 0, .slice none 0 0] 38)
    replace Y := Y.alloc (.cells #[.slice none 0 0, .slice none 0 0, .slice none 0 0] 38)
    replace Q := Q.alloc (.cells #[.slice none 0 0, .slice none 0 0, .slice none 0 0] 38)
    have HB : Hid (Below w.heap.size w ((((w.alloc (.cells #[.int .i64 wd, .int .i64 hi, .bool wb, .slice a xs.length ca, .slice b ys.length cb] 29)).alloc (.cells #[.slice a0 e.length c0, .slice a1 x.length c1, .slice a2 y.length c2] 38)).alloc (.cells #[.int .i64 fr, .int .i64 ct] 31)).alloc (.cells #[.slice none 0 0, .slice none 0 0, .slice none 0 0] 38))) := Lib.hid (((((Below.refl w.heap.size w).alloc (by simp <;> omega) _).alloc (by simp <;> omega) _).alloc (by simp <;> omega) _).alloc (by simp <;> omega) _)
    go_enter Try.func21, Try.ntmps21
    go_wp2_with fail
    generalize ((((w.alloc (.cells #[.int .i64 wd, .int .i64 hi, .bool wb, .slice a xs.length ca, .slice b ys.length cb] 29)).alloc (.cells #[.slice a0 e.length c0, .slice a1 x.length c1, .slice a2 y.length c2] 38)).alloc (.cells #[.int .i64 fr, .int .i64 ct] 31)).alloc (.cells #[.slice none 0 0, .slice none 0 0, .slice none 0 0] 38)) = u1 at *
    refine (implIsField _ _ _ _ _ _ _ _ _ _ _ _ _ _ _ _ _ _ _ (ha.later HB.out) (hb.later HB.out) hx hy (h0.later HB.out) (h1.later HB.out) (h2.later HB.out) m0 m1 m2).mono ?_
    rintro r u2 ⟨rfl, q⟩
    replace X := X.later q
    replace Y := Y.later q
    replace Q := Q.later q
    replace R := R.later q
    replace HB := Lib.hid (HB.out.trans (q.mono HB.out.size))
    clear q
    rw [H_fb.out]
    obtain ⟨Rc, Rf⟩ := R.open
    go_wp2
    refine bodyPost_ret (v := .tuple #[.agg #[.slice none 0 0, .slice none 0 0, .slice none 0 0], .bool false]) (by simp [results, Try.results21, go_sem, Rc]) rfl ⟨none, none, none, 0, 0, 0, [], [], [], rfl, GotField.none (((HB.out.setCell (p := ⟨w.heap.size + 1 + 1 + 1, 0, none⟩) (by first | omega | (simp <;> omega)) _).setCell (p := ⟨w.heap.size + 1 + 1 + 1, 1, none⟩) (by first | omega | (simp <;> omega)) _).setCell (p := ⟨w.heap.size + 1 + 1 + 1, 2, none⟩) (by first | omega | (simp <;> omega)) _)⟩
  have HB0 : Hid (cutB wd hi wb xs ys e x y fr ct = isStripB wd hi xs ys fr ct) := Lib.hid (by unfold cutB; rw [hfv]; rfl)
  obtain ⟨p1, _, l0, l1, l2⟩ := field_parts hfv
  obtain ⟨s1, s2, s3, s4, hm2, lx, ly⟩ := valid_parts p1
  obtain ⟨t1, t2⟩ := (sides_mul (valid_sides p1)).2.2.2.2
  obtain ⟨n, hn⟩ := Int.eq_ofNat_of_zero_le (show 0 ≤ wd * hi by omega)
  have E0 : e.length = n := by omega
  have E1 : x.length = n := by omega
  have E2 : y.length = n := by omega
  have n256 : n ≤ 256 := by omega
  have n0 : 0 < n := by omega
  obtain ⟨b0, o0, rfl, hz0⟩ := h0 0 _ (fvals_get (show 0 < e.length by omega)); clear hz0
  obtain ⟨b1, o1, rfl, hz1⟩ := h1 0 _ (fvals_get (show 0 < x.length by omega)); clear hz1
  obtain ⟨b2, o2, rfl, hz2⟩ := h2 0 _ (fvals_get (show 0 < y.length by omega)); clear hz2
  have CV : ∀ u, Below w.heap.size w u → Calls Try.prog 62 #[.agg #[.int .i64 wd, .int .i64 hi, .bool wb, .slice a xs.length ca, .slice b ys.length cb], .agg #[.slice (some ⟨b0, o0, none⟩) n c0, .slice (some ⟨b1, o1, none⟩) n c1, .slice (some ⟨b2, o2, none⟩) n c2]] u fun e w' => e = .returned (.bool true) ∧ Below u.heap.size u w' := fun u hu => by
    have := implIsField wd hi wb a b ca cb xs ys (some ⟨b0, o0, none⟩) (some ⟨b1, o1, none⟩) (some ⟨b2, o2, none⟩) c0 c1 c2 e x y u (ha.later hu) (hb.later hu) hx hy (h0.later hu) (h1.later hu) (h2.later hu) m0 m1 m2
    rw [E0, E1, E2, hfv] at this; exact this
  have HCV := Lib.hid CV; clear CV
  rw [E0, E1, E2]
  have HN := Lib.hid hn; have L0 := Lib.hid E0; have L1 := Lib.hid E1; have L2 := Lib.hid E2; clear hn E0 E1 E2 l0 l1 l2 lx ly t1 t2
  clear p1 hfv
  rcases hwi : isStripB wd hi xs ys fr ct with _ | _
  · skip
    refine Calls.mono ?_ (fun e w9 h9 => rampO_no (by rw [HB0.out, hwi]) h9)
    have HW := Lib.hid hwi; clear hwi
    have X := Blk.new w #[.int .i64 wd, .int .i64 hi, .bool wb, .slice a xs.length ca, .slice b ys.length cb] 29
    have Y := Blk.new1 w (.cells #[.int .i64 wd, .int .i64 hi, .bool wb, .slice a xs.length ca, .slice b ys.length cb] 29) #[.slice (some ⟨b0, o0, none⟩) n c0, .slice (some ⟨b1, o1, none⟩) n c1, .slice (some ⟨b2, o2, none⟩) n c2] 38
    replace X := X.alloc (.cells #[.slice (some ⟨b0, o0, none⟩) n c0, .slice (some ⟨b1, o1, none⟩) n c1, .slice (some ⟨b2, o2, none⟩) n c2] 38)
    have Q := Blk.new2 w (.cells #[.int .i64 wd, .int .i64 hi, .bool wb, .slice a xs.length ca, .slice b ys.length cb] 29) (.cells #[.slice (some ⟨b0, o0, none⟩) n c0, .slice (some ⟨b1, o1, none⟩) n c1, .slice (some ⟨b2, o2, none⟩) n c2] 38) #[.int .i64 fr, .int .i64 ct] 31
    replace X := X.alloc (.cells #[.int .i64 fr, .int .i64 ct] 31)
    replace Y := Y.alloc (.cells #[.int .i64 fr, .int .i64 ct] 31)
    have R := Blk.new3 w (.cells #[.int .i64 wd, .int .i64 hi, .bool wb, .slice a xs.length ca, .slice b ys.length cb] 29) (.cells #[.slice (some ⟨b0, o0, none⟩) n c0, .slice (some ⟨b1, o1, none⟩) n c1, .slice (some ⟨b2, o2, none⟩) n c2] 38) (.cells #[.int .i64 fr, .int .i64 ct] 31) #[.slice none 0 0, .slice none 0 0, .slice none 0 0] 38
    replace X := X.alloc (.cells #[.slice none 0 0, .slice none 0 0, .slice none 0 0] 38)
    replace Y := Y.alloc (.cells #[.slice none 0 0, .slice none 0 0, .slice none 0 0] 38)
    replace Q := Q.alloc (.cells #[.slice none 0 0, .slice none 0 0, .slice none 0 0] 38)
    have HB : Hid (Below w.heap.size w ((((w.alloc (.cells #[.int .i64 wd, .int .i64 hi, .bool wb, .slice a xs.length ca, .slice b ys.length cb] 29)).alloc (.cells #[.slice (some ⟨b0, o0, none⟩) n c0, .slice (some ⟨b1, o1, none⟩) n c1, .slice (some ⟨b2, o2, none⟩) n c2] 38)).alloc (.cells #[.int .i64 fr, .int .i64 ct] 31)).alloc (.cells #[.slice none 0 0, .slice none 0 0, .slice none 0 0] 38))) := Lib.hid (((((Below.refl w.heap.size w).alloc (by simp <;> omega) _).alloc (by simp <;> omega) _).alloc (by simp <;> omega) _).alloc (by simp <;> omega) _)
    go_enter Try.func21, Try.ntmps21
    go_wp2_with fail
    generalize ((((w.alloc (.cells #[.int .i64 wd, .int .i64 hi, .bool wb, .slice a xs.length ca, .slice b ys.length cb] 29)).alloc (.cells #[.slice (some ⟨b0, o0, none⟩) n c0, .slice (some ⟨b1, o1, none⟩) n c1, .slice (some ⟨b2, o2, none⟩) n c2] 38)).alloc (.cells #[.int .i64 fr, .int .i64 ct] 31)).alloc (.cells #[.slice none 0 0, .slice none 0 0, .slice none 0 0] 38)) = u1 at *
    refine (HCV.out _ HB.out).mono ?_
    rintro r u2 ⟨rfl, q⟩
    replace X := X.later q
    replace Y := Y.later q
    replace Q := Q.later q
    replace R := R.later q
    replace HB := Lib.hid (HB.out.trans (q.mono HB.out.size))
    clear q
    obtain ⟨Xc, Xf⟩ := X.open
    obtain ⟨Qc, Qf⟩ := Q.open
    go_wp2_with fail
    refine (implIsStrip _ _ _ _ _ _ _ _ _ _ _ _ (ha.later HB.out) (hb.later HB.out) hx hy).mono ?_
    rintro r u3 ⟨rfl, q⟩
    clear Xc Xf
    clear Qc Qf
    replace X := X.later q
    replace Y := Y.later q
    replace Q := Q.later q
    replace R := R.later q
    replace HB := Lib.hid (HB.out.trans (q.mono HB.out.size))
    clear q
    rw [HW.out]
    obtain ⟨Rc, Rf⟩ := R.open
    go_wp2
    refine bodyPost_ret (v := .tuple #[.agg #[.slice none 0 0, .slice none 0 0, .slice none 0 0], .bool false]) (by simp [results, Try.results21, go_sem, Rc]) rfl ⟨none, none, none, 0, 0, 0, [], [], [], rfl, GotField.none (((HB.out.setCell (p := ⟨w.heap.size + 1 + 1 + 1, 0, none⟩) (by first | omega | (simp <;> omega)) _).setCell (p := ⟨w.heap.size + 1 + 1 + 1, 1, none⟩) (by first | omega | (simp <;> omega)) _).setCell (p := ⟨w.heap.size + 1 + 1 + 1, 2, none⟩) (by first | omega | (simp <;> omega)) _)⟩
  have HBT : Hid (cutB wd hi wb xs ys e x y fr ct = true) := Lib.hid (by rw [HB0.out, hwi])
  obtain ⟨hvv, hrr⟩ : validB wd hi xs ys = true ∧ stripB hi fr ct = true := by unfold isStripB at hwi; simpa using hwi
  obtain ⟨q, m, e1, e2, e3, m0_, hle, f0, f1, f3, e4, e5⟩ := cut_nums s1 s2 s4 HN.out hrr
  have HM0 : Hid (cutM wd fr ct e = cl (placed (fun i => q + i) m e)) := Lib.hid (by unfold cutM cutL; rw [e4, e5])
  have z0 : n ≤ c0 := by rw [HC0.out, L0.out]; exact Nat.le_refl _
  have HPL0 : Hid ((placed (fun i => q + i) m e).length = m) := Lib.hid (placed_length _ _ _)
  have HIS0 : Hid (Is (placed (fun i => q + i) m e) (cl (placed (fun i => q + i) m e))) := Lib.hid (is_placed q0 (by omega))
  have HM1 : Hid (cutM wd fr ct x = cl (placed (fun i => q + i) m x)) := Lib.hid (by unfold cutM cutL; rw [e4, e5])
  have z1 : n ≤ c1 := by rw [HC1.out, L1.out]; exact Nat.le_refl _
  have HPL1 : Hid ((placed (fun i => q + i) m x).length = m) := Lib.hid (placed_length _ _ _)
  have HIS1 : Hid (Is (placed (fun i => q + i) m x) (cl (placed (fun i => q + i) m x))) := Lib.hid (is_placed q1 (by omega))
  have HM2 : Hid (cutM wd fr ct y = cl (placed (fun i => q + i) m y)) := Lib.hid (by unfold cutM cutL; rw [e4, e5])
  have z2 : n ≤ c2 := by rw [HC2.out, L2.out]; exact Nat.le_refl _
  have HPL2 : Hid ((placed (fun i => q + i) m y).length = m) := Lib.hid (placed_length _ _ _)
  have HIS2 : Hid (Is (placed (fun i => q + i) m y) (cl (placed (fun i => q + i) m y))) := Lib.hid (is_placed q2 (by omega))
  rw [HM0.out, HM1.out, HM2.out]
  have HQ := Lib.hid e1; have HQM := Lib.hid e3; clear e1 e2 e3 e4 e5 HM0 HM1 HM2
  have HW := Lib.hid hwi; clear hwi hvv hrr
  have X := Blk.new w #[.int .i64 wd, .int .i64 hi, .bool wb, .slice a xs.length ca, .slice b ys.length cb] 29
  have Y := Blk.new1 w (.cells #[.int .i64 wd, .int .i64 hi, .bool wb, .slice a xs.length ca, .slice b ys.length cb] 29) #[.slice (some ⟨b0, o0, none⟩) n c0, .slice (some ⟨b1, o1, none⟩) n c1, .slice (some ⟨b2, o2, none⟩) n c2] 38
  replace X := X.alloc (.cells #[.slice (some ⟨b0, o0, none⟩) n c0, .slice (some ⟨b1, o1, none⟩) n c1, .slice (some ⟨b2, o2, none⟩) n c2] 38)
  have Q := Blk.new2 w (.cells #[.int .i64 wd, .int .i64 hi, .bool wb, .slice a xs.length ca, .slice b ys.length cb] 29) (.cells #[.slice (some ⟨b0, o0, none⟩) n c0, .slice (some ⟨b1, o1, none⟩) n c1, .slice (some ⟨b2, o2, none⟩) n c2] 38) #[.int .i64 fr, .int .i64 ct] 31
  replace X := X.alloc (.cells #[.int .i64 fr, .int .i64 ct] 31)
  replace Y := Y.alloc (.cells #[.int .i64 fr, .int .i64 ct] 31)
  have R := Blk.new3 w (.cells #[.int .i64 wd, .int .i64 hi, .bool wb, .slice a xs.length ca, .slice b ys.length cb] 29) (.cells #[.slice (some ⟨b0, o0, none⟩) n c0, .slice (some ⟨b1, o1, none⟩) n c1, .slice (some ⟨b2, o2, none⟩) n c2] 38) (.cells #[.int .i64 fr, .int .i64 ct] 31) #[.slice none 0 0, .slice none 0 0, .slice none 0 0] 38
  replace X := X.alloc (.cells #[.slice none 0 0, .slice none 0 0, .slice none 0 0] 38)
  replace Y := Y.alloc (.cells #[.slice none 0 0, .slice none 0 0, .slice none 0 0] 38)
  replace Q := Q.alloc (.cells #[.slice none 0 0, .slice none 0 0, .slice none 0 0] 38)
  have HB : Hid (Below w.heap.size w ((((w.alloc (.cells #[.int .i64 wd, .int .i64 hi, .bool wb, .slice a xs.length ca, .slice b ys.length cb] 29)).alloc (.cells #[.slice (some ⟨b0, o0, none⟩) n c0, .slice (some ⟨b1, o1, none⟩) n c1, .slice (some ⟨b2, o2, none⟩) n c2] 38)).alloc (.cells #[.int .i64 fr, .int .i64 ct] 31)).alloc (.cells #[.slice none 0 0, .slice none 0 0, .slice none 0 0] 38))) := Lib.hid (((((Below.refl w.heap.size w).alloc (by simp <;> omega) _).alloc (by simp <;> omega) _).alloc (by simp <;> omega) _).alloc (by simp <;> omega) _)
  go_enter Try.func21, Try.ntmps21
  go_wp2_with fail
  generalize ((((w.alloc (.cells #[.int .i64 wd, .int .i64 hi, .bool wb, .slice a xs.length ca, .slice b ys.length cb] 29)).alloc (.cells #[.slice (some ⟨b0, o0, none⟩) n c0, .slice (some ⟨b1, o1, none⟩) n c1, .slice (some ⟨b2, o2, none⟩) n c2] 38)).alloc (.cells #[.int .i64 fr, .int .i64 ct] 31)).alloc (.cells #[.slice none 0 0, .slice none 0 0, .slice none 0 0] 38)) = u1 at *
  refine (HCV.out _ HB.out).mono ?_
  rintro r u2 ⟨rfl, q⟩
  replace X := X.later q
  replace Y := Y.later q
  replace Q := Q.later q
  replace R := R.later q
  replace HB := Lib.hid (HB.out.trans (q.mono HB.out.size))
  clear q
  obtain ⟨Xc, Xf⟩ := X.open
  obtain ⟨Qc, Qf⟩ := Q.open
  go_wp2_with fail
  refine (implIsStrip _ _ _ _ _ _ _ _ _ _ _ _ (ha.later HB.out) (hb.later HB.out) hx hy).mono ?_
  rintro r u3 ⟨rfl, q⟩
  clear Xc Xf
  clear Qc Qf
  replace X := X.later q
  replace Y := Y.later q
  replace Q := Q.later q
  replace R := R.later q
  replace HB := Lib.hid (HB.out.trans (q.mono HB.out.size))
  clear q
  rw [HW.out]
  have HBU := HB.out; have zu := HBU.size; have zr := R.lt
  go_upto_region 3 with (fail)
  refine wp_region_noPanic ?_
  refine wp_region_plan (Grows u3) 5 [(0, true), (2, true), (3, true), (1, false), (4, false)] (by kernel_rfl) (by kernel_rfl) (fun _ _ _ _ _ h => h) (Grows.drew _) ?_
  (refine plan_load rfl rfl (⟨w.heap.size, 0, none⟩) (by kernel_rfl) (.agg #[.int .i64 wd, .int .i64 hi, .bool wb, .slice a xs.length ca, .slice b ys.length cb]) (fun w' hw' => run_loadVar_row w' _ _ _ _ _ _ (X.later hw') Try.underlying29 rfl (by kernel_rfl)) ?_; simp only [Act.put, List.setIfInBounds_toArray, List.set_cons_zero, List.set_cons_succ, List.getElem_toArray, List.getElem_cons_zero, List.getElem_cons_succ])
  (refine plan_load rfl rfl (⟨w.heap.size + 1, 0, none⟩) (by kernel_rfl) (.agg #[.slice (some ⟨b0, o0, none⟩) n c0, .slice (some ⟨b1, o1, none⟩) n c1, .slice (some ⟨b2, o2, none⟩) n c2]) (fun w' hw' => run_loadVar_row w' _ _ _ _ _ _ (Y.later hw') Try.underlying38 rfl (by kernel_rfl)) ?_; simp only [Act.put, List.setIfInBounds_toArray, List.set_cons_zero, List.set_cons_succ, List.getElem_toArray, List.getElem_cons_zero, List.getElem_cons_succ])
  (refine plan_load rfl rfl (⟨w.heap.size + 1 + 1, 0, none⟩) (by kernel_rfl) (.agg #[.int .i64 fr, .int .i64 ct]) (fun w' hw' => run_loadVar_row w' _ _ _ _ _ _ (Q.later hw') Try.underlying31 rfl (by kernel_rfl)) ?_; simp only [Act.put, List.setIfInBounds_toArray, List.set_cons_zero, List.set_cons_succ, List.getElem_toArray, List.getElem_cons_zero, List.getElem_cons_succ])
  have v0_ := Grows.drew u3
  generalize u3.drew = v0 at *
  refine plan_call rfl rfl 57 #[] #[] rfl _ Try.func57 (by kernel_rfl) (by kernel_rfl) [.agg #[.int .i64 wd, .int .i64 hi, .bool wb, .slice a xs.length ca, .slice b ys.length cb]] (by kernel_rfl) #[.agg #[.int .i64 wd, .int .i64 hi, .bool wb, .slice a xs.length ca, .slice b ys.length cb]] (by simp) _ (implShapeOf wd hi wb a b xs.length ys.length ca cb v0) ?_
  rintro e v1 ⟨rfl, b1_⟩
  refine ⟨_, rfl, v0_.next b1_, ?_⟩
  simp only [Act.put, List.setIfInBounds_toArray, List.set_cons_zero, List.set_cons_succ, List.getElem_toArray, List.getElem_cons_zero, List.getElem_cons_succ]
  have v1_ := v0_.next b1_
  have ee0 := h0.later (HBU.trans (Below.mono v1_ zu))
  have ee1 := h1.later (HBU.trans (Below.mono v1_ zu))
  have ee2 := h2.later (HBU.trans (Below.mono v1_ zu))
  refine plan_call rfl rfl 63 #[] #[] rfl _ Try.func63 (by kernel_rfl) (by kernel_rfl) [.agg #[.int .i64 wd, .int .i64 hi, .bool wb], .agg #[.slice (some ⟨b0, o0, none⟩) n c0, .slice (some ⟨b1, o1, none⟩) n c1, .slice (some ⟨b2, o2, none⟩) n c2], .agg #[.int .i64 fr, .int .i64 ct]] (by kernel_rfl) #[.agg #[.int .i64 wd, .int .i64 hi, .bool wb], .agg #[.slice (some ⟨b0, o0, none⟩) n c0, .slice (some ⟨b1, o1, none⟩) n c1, .slice (some ⟨b2, o2, none⟩) n c2], .agg #[.int .i64 fr, .int .i64 ct]] (by simp) _ (implCutField wd hi fr ct wb b0 b1 b2 o0 o1 o2 c0 c1 c2 n q m e x y v1 ee0 ee1 ee2 L0.out L1.out L2.out n256 z0 z1 z2 HQ HQM m0_ hle f0 f1 f3) ?_
  rintro e v2 ⟨g0, g1, g2, k0, k1, k2, rfl, oo0, oo1, oo2, g01, g12, bb⟩
  refine ⟨_, rfl, v1_.next bb, ?_⟩
  simp only [Act.put, List.setIfInBounds_toArray, List.set_cons_zero, List.set_cons_succ, List.getElem_toArray, List.getElem_cons_zero, List.getElem_cons_succ]
  have v2_ := v1_.next bb
  change wpList _ _ _ _ _ _
  simp only [List.drop_succ_cons, List.drop_zero]
  have sz1 : u3.heap.size ≤ v1.heap.size := Below.size v1_
  have y0 := oo0.bound g0 rfl
  have O0 := Lib.hid (oo0.lower (show w.heap.size ≤ v1.heap.size by omega)); clear oo0
  have O1 := Lib.hid (oo1.lower (show w.heap.size ≤ v1.heap.size by omega)); clear oo1
  have O2 := Lib.hid (oo2.lower (show w.heap.size ≤ v1.heap.size by omega)); clear oo2
  have ne01 : g0 ≠ g1 := by omega
  have ne02 : g0 ≠ g2 := by omega
  have ne12 : g1 ≠ g2 := by omega
  have HB4 := Lib.hid (HBU.trans (Below.mono v2_ zu))
  have R4 := R.later v2_
  clear ee0 ee1 ee2 bb b1_ v0_ v1_ v2_ X R Y Q HB
  obtain ⟨Rc, Rf⟩ := R4.open
  go_wp2_with fail
  refine NoPanic.normal ?_
  go_wp2
  refine bodyPost_ret (v := .tuple #[.agg #[.slice (some ⟨g0, 0, none⟩) m k0, .slice (some ⟨g1, 0, none⟩) m k1, .slice (some ⟨g2, 0, none⟩) m k2], .bool true]) (by simp [results, Try.results21, go_sem, Rc]) rfl (gaveO_yes HBT.out HPL0.out HPL1.out HPL2.out ⟨(((O0.out.set (p := ⟨w.heap.size + 1 + 1 + 1, 0, none⟩) (ne_block (h := w.heap.size + 1 + 1 + 1) (by omega)) _).set (p := ⟨w.heap.size + 1 + 1 + 1, 1, none⟩) (ne_block (h := w.heap.size + 1 + 1 + 1) (by omega)) _).set (p := ⟨w.heap.size + 1 + 1 + 1, 2, none⟩) (ne_block (h := w.heap.size + 1 + 1 + 1) (by omega)) _), (((O1.out.set (p := ⟨w.heap.size + 1 + 1 + 1, 0, none⟩) (ne_block (h := w.heap.size + 1 + 1 + 1) (by omega)) _).set (p := ⟨w.heap.size + 1 + 1 + 1, 1, none⟩) (ne_block (h := w.heap.size + 1 + 1 + 1) (by omega)) _).set (p := ⟨w.heap.size + 1 + 1 + 1, 2, none⟩) (ne_block (h := w.heap.size + 1 + 1 + 1) (by omega)) _), (((O2.out.set (p := ⟨w.heap.size + 1 + 1 + 1, 0, none⟩) (ne_block (h := w.heap.size + 1 + 1 + 1) (by omega)) _).set (p := ⟨w.heap.size + 1 + 1 + 1, 1, none⟩) (ne_block (h := w.heap.size + 1 + 1 + 1) (by omega)) _).set (p := ⟨w.heap.size + 1 + 1 + 1, 2, none⟩) (ne_block (h := w.heap.size + 1 + 1 + 1) (by omega)) _), apart_ne ne01, apart_ne ne02, apart_ne ne12, HIS0.out, HIS1.out, HIS2.out, (((HB4.out.setCell (p := ⟨w.heap.size + 1 + 1 + 1, 0, none⟩) (by first | omega | (simp <;> omega)) _).setCell (p := ⟨w.heap.size + 1 + 1 + 1, 1, none⟩) (by first | omega | (simp <;> omega)) _).setCell (p := ⟨w.heap.size + 1 + 1 + 1, 2, none⟩) (by first | omega | (simp <;> omega)) _)⟩)

end Go.Proofs.Ytedfbaeajofmnaa
