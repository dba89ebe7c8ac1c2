/- The rows that a strip needs: both answers. Conditions: none beyond those of each theorem. -/
import Derived.Test.YtedfbaeajofmnaaHaloS
import Derived.Test.YtedfbaeajofmnaaPlan
namespace Go.Proofs.Ytedfbaeajofmnaa
open Go Ieee Go.RowKit
set_option linter.unusedVariables false
set_option linter.unusedSimpArgs false

def GaveIs (w : World) (b : Bool) (z : List Int) (r : Ending) (w' : World) : Prop :=
  ∃ (a : Option Addr) (c : Nat) (y : List Int), r = .returned (.tuple #[.slice a y.length c, .bool b]) ∧ GotInts w.heap.size w w' (if b then z else []) a y
theorem haloL_len {hi fr ct : Int} {wb : Bool} (h : hi ≤ 16) : (haloL hi fr ct wb).length ≤ 256 := by
  have := selL_few (haloP hi fr ct wb) hi.toNat
  unfold haloL; omega

set_option maxHeartbeats 8000000 in
set_option maxRecDepth 100000 in
theorem implHaloRowsL (wd hi : Int) (wb : Bool) (a b : Option Addr) (ca cb : Nat) (xs ys : List Nat) (fr ct : Int) (w : World) (ha : RowV w a (fvals xs)) (hb : RowV w b (fvals ys)) (qa : ∀ z ∈ xs, z < 2 ^ 32) (qb : ∀ z ∈ ys, z < 2 ^ 32) (hx : xs.length ≤ maxLen) (hy : ys.length ≤ maxLen) :
    Calls Try.prog 32 #[.agg #[.int .i64 wd, .int .i64 hi, .bool wb, .slice a xs.length ca, .slice b ys.length cb], .agg #[.int .i64 fr, .int .i64 ct]] w (GaveIs w (isStripB wd hi xs ys fr ct) (haloL hi fr ct wb)) := by
  rcases hr : isStripB wd hi xs ys fr ct with _ | _
  · skip
    have H_r := Lib.hid hr; clear hr
    have X := Blk.new w #[.int .i64 wd, .int .i64 hi, .bool wb, .slice a xs.length ca, .slice b ys.length cb] 29
    have Q := Blk.new1 w (.cells #[.int .i64 wd, .int .i64 hi, .bool wb, .slice a xs.length ca, .slice b ys.length cb] 29) #[.int .i64 fr, .int .i64 ct] 31
    replace X := X.alloc (.cells #[.int .i64 fr, .int .i64 ct] 31)
    have HB : Hid (Below w.heap.size w ((w.alloc (.cells #[.int .i64 wd, .int .i64 hi, .bool wb, .slice a xs.length ca, .slice b ys.length cb] 29)).alloc (.cells #[.int .i64 fr, .int .i64 ct] 31))) := Lib.hid (((Below.refl w.heap.size w).alloc (by simp <;> omega) _).alloc (by simp <;> omega) _)
    go_enter Try.func32, Try.ntmps32
    go_wp2_with fail
    generalize ((w.alloc (.cells #[.int .i64 wd, .int .i64 hi, .bool wb, .slice a xs.length ca, .slice b ys.length cb] 29)).alloc (.cells #[.int .i64 fr, .int .i64 ct] 31)) = u1 at *
    refine (implIsStrip _ _ _ _ _ _ _ _ _ _ _ _ (ha.later HB.out) (hb.later HB.out) hx hy).mono ?_
    rintro r u2 ⟨rfl, q⟩
    replace X := X.later q
    replace Q := Q.later q
    replace HB := Lib.hid (HB.out.trans (q.mono HB.out.size))
    clear q
    rw [H_r.out]
    go_wp2
    go_ret2
    exact ⟨none, 0, [], rfl, GotInts.none HB.out⟩
  obtain ⟨hvv, hrr⟩ : validB wd hi xs ys = true ∧ stripB hi fr ct = true := by unfold isStripB at hr; simpa using hr
  obtain ⟨s1, s2, s3, s4, _, _, _⟩ := valid_parts hvv
  obtain ⟨g1, g2, g3, g4⟩ := strip_in hrr
  have H_r := Lib.hid hr; clear hr hvv hrr
  have X := Blk.new w #[.int .i64 wd, .int .i64 hi, .bool wb, .slice a xs.length ca, .slice b ys.length cb] 29
  have Q := Blk.new1 w (.cells #[.int .i64 wd, .int .i64 hi, .bool wb, .slice a xs.length ca, .slice b ys.length cb] 29) #[.int .i64 fr, .int .i64 ct] 31
  replace X := X.alloc (.cells #[.int .i64 fr, .int .i64 ct] 31)
  have HB : Hid (Below w.heap.size w ((w.alloc (.cells #[.int .i64 wd, .int .i64 hi, .bool wb, .slice a xs.length ca, .slice b ys.length cb] 29)).alloc (.cells #[.int .i64 fr, .int .i64 ct] 31))) := Lib.hid (((Below.refl w.heap.size w).alloc (by simp <;> omega) _).alloc (by simp <;> omega) _)
  go_enter Try.func32, Try.ntmps32
  go_wp2_with fail
  generalize ((w.alloc (.cells #[.int .i64 wd, .int .i64 hi, .bool wb, .slice a xs.length ca, .slice b ys.length cb] 29)).alloc (.cells #[.int .i64 fr, .int .i64 ct] 31)) = u1 at *
  refine (implIsStrip _ _ _ _ _ _ _ _ _ _ _ _ (ha.later HB.out) (hb.later HB.out) hx hy).mono ?_
  rintro r u2 ⟨rfl, q⟩
  replace X := X.later q
  replace Q := Q.later q
  replace HB := Lib.hid (HB.out.trans (q.mono HB.out.size))
  clear q
  rw [H_r.out]
  have HBU := HB.out; have zu := HBU.size
  go_upto_region 3 with (fail)
  refine wp_region_noPanic ?_
  refine wp_region_plan (Grows u2) 4 [(0, true), (2, true), (1, false), (3, false)] (by kernel_rfl) (by kernel_rfl) (fun _ _ _ _ _ h => h) (Grows.drew _) ?_
  (refine plan_load rfl rfl (⟨w.heap.size, 0, none⟩) (by kernel_rfl) (.agg #[.int .i64 wd, .int .i64 hi, .bool wb, .slice a xs.length ca, .slice b ys.length cb]) (fun w' hw' => run_loadVar_row w' _ _ _ _ _ _ (X.later hw') Try.underlying29 rfl (by kernel_rfl)) ?_; simp only [Act.put, List.setIfInBounds_toArray, List.set_cons_zero, List.set_cons_succ, List.getElem_toArray, List.getElem_cons_zero, List.getElem_cons_succ])
  (refine plan_load rfl rfl (⟨w.heap.size + 1, 0, none⟩) (by kernel_rfl) (.agg #[.int .i64 fr, .int .i64 ct]) (fun w' hw' => run_loadVar_row w' _ _ _ _ _ _ (Q.later hw') Try.underlying31 rfl (by kernel_rfl)) ?_; simp only [Act.put, List.setIfInBounds_toArray, List.set_cons_zero, List.set_cons_succ, List.getElem_toArray, List.getElem_cons_zero, List.getElem_cons_succ])
  have v0_ := Grows.drew u2
  generalize u2.drew = v0 at *
  refine plan_call rfl rfl 57 #[] #[] rfl _ Try.func57 (by kernel_rfl) (by kernel_rfl) [.agg #[.int .i64 wd, .int .i64 hi, .bool wb, .slice a xs.length ca, .slice b ys.length cb]] (by kernel_rfl) #[.agg #[.int .i64 wd, .int .i64 hi, .bool wb, .slice a xs.length ca, .slice b ys.length cb]] (by simp) _ (implShapeOf wd hi wb a b xs.length ys.length ca cb v0) ?_
  rintro e v1 ⟨rfl, b1_⟩
  refine ⟨_, rfl, v0_.next b1_, ?_⟩
  simp only [Act.put, List.setIfInBounds_toArray, List.set_cons_zero, List.set_cons_succ, List.getElem_toArray, List.getElem_cons_zero, List.getElem_cons_succ]
  have v1_ := v0_.next b1_
  refine plan_call rfl rfl 72 #[] #[] rfl _ Try.func72 (by kernel_rfl) (by kernel_rfl) [.agg #[.int .i64 wd, .int .i64 hi, .bool wb], .agg #[.int .i64 fr, .int .i64 ct]] (by kernel_rfl) #[.agg #[.int .i64 wd, .int .i64 hi, .bool wb], .agg #[.int .i64 fr, .int .i64 ct]] (by simp) _ (implHaloL wd hi fr ct wb v1 s3 s4 g1 (by omega) g3) ?_
  rintro e v2 ⟨a2, c2, rfl, O2, q⟩
  refine ⟨_, rfl, v1_.next q, ?_⟩
  simp only [Act.put, List.setIfInBounds_toArray, List.set_cons_zero, List.set_cons_succ, List.getElem_toArray, List.getElem_cons_zero, List.getElem_cons_succ]
  have v2_ := v1_.next q
  change wpList _ _ _ _ _ _
  simp only [List.drop_succ_cons, List.drop_zero]
  have sz1 : u2.heap.size ≤ v1.heap.size := Below.size v1_
  have O3 := O2.lower (show w.heap.size ≤ v1.heap.size by omega)
  have HB4 := HBU.trans (Below.mono v2_ zu)
  go_wp2_with fail
  refine NoPanic.normal ?_
  go_wp2
  go_ret2
  exact ⟨a2, c2, haloL hi fr ct wb, rfl, O3, ⟨rfl, haloL_len s4⟩, HB4⟩

set_option maxHeartbeats 8000000 in
set_option maxRecDepth 100000 in
theorem specHaloRowsL (wd hi : Int) (wb : Bool) (a b : Option Addr) (ca cb : Nat) (xs ys : List Nat) (fr ct : Int) (w : World) (ha : RowV w a (fvals xs)) (hb : RowV w b (fvals ys)) (qa : ∀ z ∈ xs, z < 2 ^ 32) (qb : ∀ z ∈ ys, z < 2 ^ 32) (hx : xs.length ≤ maxLen) (hy : ys.length ≤ maxLen) :
    Calls Try.prog 31 #[.agg #[.int .i64 wd, .int .i64 hi, .bool wb, .slice a xs.length ca, .slice b ys.length cb], .agg #[.int .i64 fr, .int .i64 ct]] w (GaveIs w (isStripB wd hi xs ys fr ct) (haloL hi fr ct wb)) := by
  rcases hv : validB wd hi xs ys with _ | _
  · skip
    rw [show isStripB wd hi xs ys fr ct = false from by unfold isStripB; rw [hv]; rfl]
    have H_v := Lib.hid hv; clear hv
    have X := Blk.new w #[.int .i64 wd, .int .i64 hi, .bool wb, .slice a xs.length ca, .slice b ys.length cb] 29
    have Q := Blk.new1 w (.cells #[.int .i64 wd, .int .i64 hi, .bool wb, .slice a xs.length ca, .slice b ys.length cb] 29) #[.int .i64 fr, .int .i64 ct] 31
    replace X := X.alloc (.cells #[.int .i64 fr, .int .i64 ct] 31)
    have HB : Hid (Below w.heap.size w ((w.alloc (.cells #[.int .i64 wd, .int .i64 hi, .bool wb, .slice a xs.length ca, .slice b ys.length cb] 29)).alloc (.cells #[.int .i64 fr, .int .i64 ct] 31))) := Lib.hid (((Below.refl w.heap.size w).alloc (by simp <;> omega) _).alloc (by simp <;> omega) _)
    go_enter Try.func31, Try.ntmps31
    go_wp2_with fail
    generalize ((w.alloc (.cells #[.int .i64 wd, .int .i64 hi, .bool wb, .slice a xs.length ca, .slice b ys.length cb] 29)).alloc (.cells #[.int .i64 fr, .int .i64 ct] 31)) = u1 at *
    refine (specIs _ _ _ _ _ _ _ _ _ _ _ X (ha.later HB.out) (hb.later HB.out) hx hy).mono ?_
    rintro r u2 ⟨rfl, nq, hw⟩
    have q : Below u1.heap.size u1 u2 := by rw [hw]; exact below_drewN (Below.refl _ _) _
    clear hw
    replace X := X.later q
    replace Q := Q.later q
    replace HB := Lib.hid (HB.out.trans (q.mono HB.out.size))
    clear q
    rw [H_v.out]
    go_wp2
    go_ret2
    exact ⟨none, 0, [], rfl, GotInts.none HB.out⟩
  obtain ⟨s1, s2, s3, s4, _, _, _⟩ := valid_parts hv
  have HBB : Hid (isStripB wd hi xs ys fr ct = stripB hi fr ct) := Lib.hid (by unfold isStripB; rw [hv]; rfl)
  have H_v := Lib.hid hv; clear hv
  rw [HBB.out]
  rcases hrr : stripB hi fr ct with _ | _
  · skip
    have HRB := Lib.hid hrr; clear hrr
    have X := Blk.new w #[.int .i64 wd, .int .i64 hi, .bool wb, .slice a xs.length ca, .slice b ys.length cb] 29
    have Q := Blk.new1 w (.cells #[.int .i64 wd, .int .i64 hi, .bool wb, .slice a xs.length ca, .slice b ys.length cb] 29) #[.int .i64 fr, .int .i64 ct] 31
    replace X := X.alloc (.cells #[.int .i64 fr, .int .i64 ct] 31)
    have HB : Hid (Below w.heap.size w ((w.alloc (.cells #[.int .i64 wd, .int .i64 hi, .bool wb, .slice a xs.length ca, .slice b ys.length cb] 29)).alloc (.cells #[.int .i64 fr, .int .i64 ct] 31))) := Lib.hid (((Below.refl w.heap.size w).alloc (by simp <;> omega) _).alloc (by simp <;> omega) _)
    go_enter Try.func31, Try.ntmps31
    go_wp2_with fail
    generalize ((w.alloc (.cells #[.int .i64 wd, .int .i64 hi, .bool wb, .slice a xs.length ca, .slice b ys.length cb] 29)).alloc (.cells #[.int .i64 fr, .int .i64 ct] 31)) = u1 at *
    refine (specIs _ _ _ _ _ _ _ _ _ _ _ X (ha.later HB.out) (hb.later HB.out) hx hy).mono ?_
    rintro r u2 ⟨rfl, nq, hw⟩
    have q : Below u1.heap.size u1 u2 := by rw [hw]; exact below_drewN (Below.refl _ _) _
    clear hw
    replace X := X.later q
    replace Q := Q.later q
    replace HB := Lib.hid (HB.out.trans (q.mono HB.out.size))
    clear q
    rw [H_v.out]
    go_wp2_with fail
    refine (specL07Is _ _ wd hi wb _ _ fr ct _ X Q s1 s2 s3 s4).mono ?_
    rintro r u3 ⟨rfl, nq, hw⟩
    have q_ : Below u2.heap.size u2 u3 := by rw [hw]; exact below_drewN (Below.refl _ _) _
    clear hw
    replace X := X.later q_
    replace Q := Q.later q_
    replace HB := Lib.hid (HB.out.trans (q_.mono HB.out.size))
    clear q_
    rw [HRB.out]
    go_wp2
    go_ret2
    exact ⟨none, 0, [], rfl, GotInts.none HB.out⟩
  · skip
    obtain ⟨g1, g2, g3, g4⟩ := strip_in hrr
    have HRB := Lib.hid hrr; clear hrr
    have X := Blk.new w #[.int .i64 wd, .int .i64 hi, .bool wb, .slice a xs.length ca, .slice b ys.length cb] 29
    have Q := Blk.new1 w (.cells #[.int .i64 wd, .int .i64 hi, .bool wb, .slice a xs.length ca, .slice b ys.length cb] 29) #[.int .i64 fr, .int .i64 ct] 31
    replace X := X.alloc (.cells #[.int .i64 fr, .int .i64 ct] 31)
    have HB : Hid (Below w.heap.size w ((w.alloc (.cells #[.int .i64 wd, .int .i64 hi, .bool wb, .slice a xs.length ca, .slice b ys.length cb] 29)).alloc (.cells #[.int .i64 fr, .int .i64 ct] 31))) := Lib.hid (((Below.refl w.heap.size w).alloc (by simp <;> omega) _).alloc (by simp <;> omega) _)
    go_enter Try.func31, Try.ntmps31
    go_wp2_with fail
    generalize ((w.alloc (.cells #[.int .i64 wd, .int .i64 hi, .bool wb, .slice a xs.length ca, .slice b ys.length cb] 29)).alloc (.cells #[.int .i64 fr, .int .i64 ct] 31)) = u1 at *
    refine (specIs _ _ _ _ _ _ _ _ _ _ _ X (ha.later HB.out) (hb.later HB.out) hx hy).mono ?_
    rintro r u2 ⟨rfl, nq, hw⟩
    have q : Below u1.heap.size u1 u2 := by rw [hw]; exact below_drewN (Below.refl _ _) _
    clear hw
    replace X := X.later q
    replace Q := Q.later q
    replace HB := Lib.hid (HB.out.trans (q.mono HB.out.size))
    clear q
    rw [H_v.out]
    go_wp2_with fail
    refine (specL07Is _ _ wd hi wb _ _ fr ct _ X Q s1 s2 s3 s4).mono ?_
    rintro r u3 ⟨rfl, nq, hw⟩
    have q_ : Below u2.heap.size u2 u3 := by rw [hw]; exact below_drewN (Below.refl _ _) _
    clear hw
    replace X := X.later q_
    replace Q := Q.later q_
    replace HB := Lib.hid (HB.out.trans (q_.mono HB.out.size))
    clear q_
    rw [HRB.out]
    have HBS := HB.out.size
    go_wp2_with fail
    refine (specHaloOf _ _ wd hi fr ct wb _ _ _ X Q s3 s4 g1 (by omega) g3).mono ?_
    rintro r u4 ⟨a2, c2, rfl, O2, q⟩
    replace X := X.later q
    replace Q := Q.later q
    replace HB := Lib.hid (HB.out.trans (q.mono HB.out.size))
    clear q
    go_wp2
    go_ret2
    exact ⟨a2, c2, haloL hi fr ct wb, rfl, O2.lower HBS, ⟨rfl, haloL_len s4⟩, HB.out⟩

end Go.Proofs.Ytedfbaeajofmnaa
