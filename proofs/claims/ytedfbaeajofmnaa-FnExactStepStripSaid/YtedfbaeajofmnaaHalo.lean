/- The rows that a strip needs: the program's list and the model's. Conditions: none beyond those of each theorem. -/
import Derived.Test.YtedfbaeajofmnaaStrip
import Derived.Test.YtedfbaeajofmnaaSelK
import Derived.Test.YtedfbaeajofmnaaBu8
import Derived.Test.YtedfbaeajofmnaaBu14
import Derived.Test.YtedfbaeajofmnaaBu5
namespace Go.Proofs.Ytedfbaeajofmnaa
open Go Ieee Go.RowKit
set_option linter.unusedVariables false
set_option linter.unusedSimpArgs false

/-- the row with a number, around joined edges -/
def rowA (wb : Bool) (hi y : Int) : Int := if wb then y % hi else y
def haloP (hi fr ct : Int) (wb : Bool) (i : Nat) : Bool := hasS fr ct (i : Int) || (hasS fr ct (rowA wb hi ((i : Int) + 1)) || hasS fr ct (rowA wb hi ((i : Int) - 1)))
def haloL (hi fr ct : Int) (wb : Bool) : List Int := selL (haloP hi fr ct wb) hi.toNat

theorem implRowAt (wd hi y : Int) (wb : Bool) (w : World) (s3 : 3 ≤ hi) (s4 : hi ≤ 16) (y0 : -1000 ≤ y) (y1 : y ≤ 1000) : Calls Try.prog 142 #[.agg #[.int .i64 wd, .int .i64 hi, .bool wb], .int .i64 y] w fun e w' => e = .returned (.int .i64 (rowA wb hi y)) ∧ Below w.heap.size w w' := by
  rcases wb with _ | _
  · skip
    have H := Blk.new w #[.int .i64 wd, .int .i64 hi, .bool false] 80
    have HB : Hid (Below w.heap.size w (w.alloc (.cells #[.int .i64 wd, .int .i64 hi, .bool false] 80))) := Lib.hid ((Below.refl w.heap.size w).alloc (by simp <;> omega) _)
    go_enter Try.func142, Try.ntmps142
    go_wp2_with fail
    generalize (w.alloc (.cells #[.int .i64 wd, .int .i64 hi, .bool false] 80)) = u1 at *
    obtain ⟨Hc, Hf⟩ := H.open
    go_wp2
    go_ret
    exact ⟨rfl, HB.out⟩
  · skip
    have H := Blk.new w #[.int .i64 wd, .int .i64 hi, .bool true] 80
    have HB : Hid (Below w.heap.size w (w.alloc (.cells #[.int .i64 wd, .int .i64 hi, .bool true] 80))) := Lib.hid ((Below.refl w.heap.size w).alloc (by simp <;> omega) _)
    go_enter Try.func142, Try.ntmps142
    go_wp2_with fail
    generalize (w.alloc (.cells #[.int .i64 wd, .int .i64 hi, .bool true] 80)) = u1 at *
    obtain ⟨Hc, Hf⟩ := H.open
    go_wp2_with fail
    refine (implAroundB y hi _ y0 y1 (by omega) s4).mono ?_
    rintro r u2 ⟨rfl, q⟩
    clear Hc Hf
    replace H := H.later q
    replace HB := Lib.hid (HB.out.trans (q.mono HB.out.size))
    clear q
    go_wp2
    go_ret
    exact ⟨rfl, HB.out⟩

set_option maxHeartbeats 4000000 in
theorem implRowBefore (wd hi fr ct y : Int) (wb : Bool) (w : World) (s3 : 3 ≤ hi) (s4 : hi ≤ 16) (y0 : 0 ≤ y) (y1 : y ≤ 16) (b1 : 0 ≤ fr) (b2 : fr ≤ 1000) (b3 : 0 ≤ ct) (b4 : ct ≤ 1000) : Calls Try.prog 114 #[.agg #[.int .i64 wd, .int .i64 hi, .bool wb], .agg #[.int .i64 fr, .int .i64 ct], .int .i64 y] w fun e w' => e = .returned (.bool (hasS fr ct (rowA wb hi (y + 1)))) ∧ Below w.heap.size w w' := by
  have HW : Hid (IntKind.i64.wrap (y + 1) = y + 1) := Lib.hid (IntWalk.i64_in _ (by omega))
  have H := Blk.new w #[.int .i64 wd, .int .i64 hi, .bool wb] 80
  have Q := Blk.new1 w (.cells #[.int .i64 wd, .int .i64 hi, .bool wb] 80) #[.int .i64 fr, .int .i64 ct] 31
  replace H := H.alloc (.cells #[.int .i64 fr, .int .i64 ct] 31)
  have HB : Hid (Below w.heap.size w ((w.alloc (.cells #[.int .i64 wd, .int .i64 hi, .bool wb] 80)).alloc (.cells #[.int .i64 fr, .int .i64 ct] 31))) := Lib.hid (((Below.refl w.heap.size w).alloc (by simp <;> omega) _).alloc (by simp <;> omega) _)
  go_enter Try.func114, Try.ntmps114
  go_wp2_with fail
  generalize ((w.alloc (.cells #[.int .i64 wd, .int .i64 hi, .bool wb] 80)).alloc (.cells #[.int .i64 fr, .int .i64 ct] 31)) = u1 at *
  have HBU := HB.out
  refine wp_region_noPanic ?_
  refine wp_region_plan (Grows u1) 6 [(0, true), (1, true), (2, true), (3, true), (4, false), (5, false)] (by kernel_rfl) (by kernel_rfl) (fun _ _ _ _ _ h => h) (Grows.drew _) ?_
  (refine plan_load rfl rfl (⟨w.heap.size + 1, 0, none⟩) (by kernel_rfl) (.agg #[.int .i64 fr, .int .i64 ct]) (fun w' hw' => run_loadVar_row w' _ _ _ _ _ _ (Q.later hw') Try.underlying31 rfl (by kernel_rfl)) ?_; simp only [Act.put, List.setIfInBounds_toArray, List.set_cons_zero, List.set_cons_succ, List.getElem_toArray, List.getElem_cons_zero, List.getElem_cons_succ])
  (refine plan_load rfl rfl (⟨w.heap.size, 0, none⟩) (by kernel_rfl) (.agg #[.int .i64 wd, .int .i64 hi, .bool wb]) (fun w' hw' => run_loadVar_row w' _ _ _ _ _ _ (H.later hw') Try.underlying80 rfl (by kernel_rfl)) ?_; simp only [Act.put, List.setIfInBounds_toArray, List.set_cons_zero, List.set_cons_succ, List.getElem_toArray, List.getElem_cons_zero, List.getElem_cons_succ])
  (refine plan_plain rfl rfl ?_ ?_ ?_; rotate_left; focus (intro w9; go_simp <;> with_reducible rfl)); (simp only [Act.put, List.setIfInBounds_toArray, List.set_cons_zero, List.set_cons_succ, List.getElem_toArray, List.getElem_cons_zero, List.getElem_cons_succ])
  (refine plan_plain rfl rfl ?_ ?_ ?_; rotate_left; focus (intro w9; go_simp <;> with_reducible rfl)); (simp only [Act.put, List.setIfInBounds_toArray, List.set_cons_zero, List.set_cons_succ, List.getElem_toArray, List.getElem_cons_zero, List.getElem_cons_succ])
  simp only [HW.out]
  have v0_ := Grows.drew u1
  generalize u1.drew = v0 at *
  refine plan_call rfl rfl 142 #[] #[] rfl _ Try.func142 (by kernel_rfl) (by kernel_rfl) [.agg #[.int .i64 wd, .int .i64 hi, .bool wb], .int .i64 (y + 1)] (by kernel_rfl) #[.agg #[.int .i64 wd, .int .i64 hi, .bool wb], .int .i64 (y + 1)] (by simp) _ (implRowAt wd hi (y + 1) wb v0 s3 s4 (by omega) (by omega)) ?_
  rintro e v1 ⟨rfl, c1⟩
  refine ⟨_, rfl, v0_.next c1, ?_⟩
  simp only [Act.put, List.setIfInBounds_toArray, List.set_cons_zero, List.set_cons_succ, List.getElem_toArray, List.getElem_cons_zero, List.getElem_cons_succ]
  have v1_ := v0_.next c1
  refine plan_call rfl rfl 113 #[] #[] rfl _ Try.func113 (by kernel_rfl) (by kernel_rfl) [.agg #[.int .i64 fr, .int .i64 ct], .int .i64 (rowA wb hi (y + 1))] (by kernel_rfl) #[.agg #[.int .i64 fr, .int .i64 ct], .int .i64 (rowA wb hi (y + 1))] (by simp) _ (implPHas fr ct (rowA wb hi (y + 1)) v1 b1 b2 b3 b4) ?_
  rintro e v2 ⟨rfl, c2⟩
  refine ⟨_, rfl, v1_.next c2, ?_⟩
  simp only [Act.put, List.setIfInBounds_toArray, List.set_cons_zero, List.set_cons_succ, List.getElem_toArray, List.getElem_cons_zero, List.getElem_cons_succ]
  have v2_ := v1_.next c2
  change wpList _ _ _ _ _ _
  simp only [List.drop_succ_cons, List.drop_zero]
  go_wp2_with fail
  refine NoPanic.normal ?_
  go_wp2
  go_ret
  exact ⟨rfl, HBU.trans (Below.mono v2_ HBU.size)⟩

set_option maxHeartbeats 4000000 in
theorem implRowBehind (wd hi fr ct y : Int) (wb : Bool) (w : World) (s3 : 3 ≤ hi) (s4 : hi ≤ 16) (y0 : 0 ≤ y) (y1 : y ≤ 16) (b1 : 0 ≤ fr) (b2 : fr ≤ 1000) (b3 : 0 ≤ ct) (b4 : ct ≤ 1000) : Calls Try.prog 115 #[.agg #[.int .i64 wd, .int .i64 hi, .bool wb], .agg #[.int .i64 fr, .int .i64 ct], .int .i64 y] w fun e w' => e = .returned (.bool (hasS fr ct (rowA wb hi (y - 1)))) ∧ Below w.heap.size w w' := by
  have HW : Hid (IntKind.i64.wrap (y - 1) = y - 1) := Lib.hid (IntWalk.i64_in _ (by omega))
  have H := Blk.new w #[.int .i64 wd, .int .i64 hi, .bool wb] 80
  have Q := Blk.new1 w (.cells #[.int .i64 wd, .int .i64 hi, .bool wb] 80) #[.int .i64 fr, .int .i64 ct] 31
  replace H := H.alloc (.cells #[.int .i64 fr, .int .i64 ct] 31)
  have HB : Hid (Below w.heap.size w ((w.alloc (.cells #[.int .i64 wd, .int .i64 hi, .bool wb] 80)).alloc (.cells #[.int .i64 fr, .int .i64 ct] 31))) := Lib.hid (((Below.refl w.heap.size w).alloc (by simp <;> omega) _).alloc (by simp <;> omega) _)
  go_enter Try.func115, Try.ntmps115
  go_wp2_with fail
  generalize ((w.alloc (.cells #[.int .i64 wd, .int .i64 hi, .bool wb] 80)).alloc (.cells #[.int .i64 fr, .int .i64 ct] 31)) = u1 at *
  have HBU := HB.out
  refine wp_region_noPanic ?_
  refine wp_region_plan (Grows u1) 6 [(0, true), (1, true), (2, true), (3, true), (4, false), (5, false)] (by kernel_rfl) (by kernel_rfl) (fun _ _ _ _ _ h => h) (Grows.drew _) ?_
  (refine plan_load rfl rfl (⟨w.heap.size + 1, 0, none⟩) (by kernel_rfl) (.agg #[.int .i64 fr, .int .i64 ct]) (fun w' hw' => run_loadVar_row w' _ _ _ _ _ _ (Q.later hw') Try.underlying31 rfl (by kernel_rfl)) ?_; simp only [Act.put, List.setIfInBounds_toArray, List.set_cons_zero, List.set_cons_succ, List.getElem_toArray, List.getElem_cons_zero, List.getElem_cons_succ])
  (refine plan_load rfl rfl (⟨w.heap.size, 0, none⟩) (by kernel_rfl) (.agg #[.int .i64 wd, .int .i64 hi, .bool wb]) (fun w' hw' => run_loadVar_row w' _ _ _ _ _ _ (H.later hw') Try.underlying80 rfl (by kernel_rfl)) ?_; simp only [Act.put, List.setIfInBounds_toArray, List.set_cons_zero, List.set_cons_succ, List.getElem_toArray, List.getElem_cons_zero, List.getElem_cons_succ])
  (refine plan_plain rfl rfl ?_ ?_ ?_; rotate_left; focus (intro w9; go_simp <;> with_reducible rfl)); (simp only [Act.put, List.setIfInBounds_toArray, List.set_cons_zero, List.set_cons_succ, List.getElem_toArray, List.getElem_cons_zero, List.getElem_cons_succ])
  (refine plan_plain rfl rfl ?_ ?_ ?_; rotate_left; focus (intro w9; go_simp <;> with_reducible rfl)); (simp only [Act.put, List.setIfInBounds_toArray, List.set_cons_zero, List.set_cons_succ, List.getElem_toArray, List.getElem_cons_zero, List.getElem_cons_succ])
  simp only [HW.out]
  have v0_ := Grows.drew u1
  generalize u1.drew = v0 at *
  refine plan_call rfl rfl 142 #[] #[] rfl _ Try.func142 (by kernel_rfl) (by kernel_rfl) [.agg #[.int .i64 wd, .int .i64 hi, .bool wb], .int .i64 (y - 1)] (by kernel_rfl) #[.agg #[.int .i64 wd, .int .i64 hi, .bool wb], .int .i64 (y - 1)] (by simp) _ (implRowAt wd hi (y - 1) wb v0 s3 s4 (by omega) (by omega)) ?_
  rintro e v1 ⟨rfl, c1⟩
  refine ⟨_, rfl, v0_.next c1, ?_⟩
  simp only [Act.put, List.setIfInBounds_toArray, List.set_cons_zero, List.set_cons_succ, List.getElem_toArray, List.getElem_cons_zero, List.getElem_cons_succ]
  have v1_ := v0_.next c1
  refine plan_call rfl rfl 113 #[] #[] rfl _ Try.func113 (by kernel_rfl) (by kernel_rfl) [.agg #[.int .i64 fr, .int .i64 ct], .int .i64 (rowA wb hi (y - 1))] (by kernel_rfl) #[.agg #[.int .i64 fr, .int .i64 ct], .int .i64 (rowA wb hi (y - 1))] (by simp) _ (implPHas fr ct (rowA wb hi (y - 1)) v1 b1 b2 b3 b4) ?_
  rintro e v2 ⟨rfl, c2⟩
  refine ⟨_, rfl, v1_.next c2, ?_⟩
  simp only [Act.put, List.setIfInBounds_toArray, List.set_cons_zero, List.set_cons_succ, List.getElem_toArray, List.getElem_cons_zero, List.getElem_cons_succ]
  have v2_ := v1_.next c2
  change wpList _ _ _ _ _ _
  simp only [List.drop_succ_cons, List.drop_zero]
  go_wp2_with fail
  refine NoPanic.normal ?_
  go_wp2
  go_ret
  exact ⟨rfl, HBU.trans (Below.mono v2_ HBU.size)⟩

set_option maxHeartbeats 8000000 in
set_option maxRecDepth 100000 in
theorem implHaloL (wd hi fr ct : Int) (wb : Bool) (w : World) (s3 : 3 ≤ hi) (s4 : hi ≤ 16) (f0 : 0 ≤ fr) (f1 : fr + ct ≤ 16) (f3 : 1 ≤ ct) :
    Calls Try.prog 72 #[.agg #[.int .i64 wd, .int .i64 hi, .bool wb], .agg #[.int .i64 fr, .int .i64 ct]] w fun e w' => ∃ a c, e = .returned (.slice a (haloL hi fr ct wb).length c) ∧ OwnV w' w.heap.size a (ivals (haloL hi fr ct wb)) ∧ Below w.heap.size w w' := by
  obtain ⟨N, hN⟩ := Int.eq_ofNat_of_zero_le (show 0 ≤ hi by omega)
  obtain ⟨ti, hi0, hz0, hz1, hz2⟩ := info_parts Try.infoI64
  have HI := Lib.hid hi0; have HZ0 := Lib.hid hz0; have HZ1 := Lib.hid hz1; have HZ2 := Lib.hid hz2; clear hi0 hz0 hz1 hz2
  have HLL : Hid (∀ k : Nat, k = N → selL (haloP hi fr ct wb) k = haloL hi fr ct wb) := Lib.hid (fun k h => by unfold haloL; rw [hN, Int.toNat_natCast, h])
  have HN := Lib.hid hN; clear hN
  generalize haloL hi fr ct wb = LL at *
  have H := Blk.new w #[.int .i64 wd, .int .i64 hi, .bool wb] 80
  have Q := Blk.new1 w (.cells #[.int .i64 wd, .int .i64 hi, .bool wb] 80) #[.int .i64 fr, .int .i64 ct] 31
  replace H := H.alloc (.cells #[.int .i64 fr, .int .i64 ct] 31)
  have HB : Hid (Below w.heap.size w ((w.alloc (.cells #[.int .i64 wd, .int .i64 hi, .bool wb] 80)).alloc (.cells #[.int .i64 fr, .int .i64 ct] 31))) := Lib.hid (((Below.refl w.heap.size w).alloc (by simp <;> omega) _).alloc (by simp <;> omega) _)
  go_enter Try.func72, Try.ntmps72
  go_wp2_with fail
  generalize ((w.alloc (.cells #[.int .i64 wd, .int .i64 hi, .bool wb] 80)).alloc (.cells #[.int .i64 fr, .int .i64 ct] 31)) = u1 at *
  have HB0 := HB; have zq := Q.lt
  obtain ⟨Hc, Hf⟩ := H.open
  go_wp2
  go_loopw [5, 9] (fun q iv wr => ∃ k : Nat, (k : Int) ≤ hi ∧ iv = .int .i64 k ∧ OutsI u1 wr q (selL (haloP hi fr ct wb) k) ∧ Blk wr w.heap.size #[.int .i64 wd, .int .i64 hi, .bool wb] 80 ∧ Blk wr (w.heap.size + 1) #[.int .i64 fr, .int .i64 ct] 31) (fun _ iv _ => hi.toNat - (intOf iv).toNat)
  case atStart => exact ⟨0, by omega, rfl, by rw [selL_zero]; exact outsI_nil (Below.refl _ _), H, Q⟩
  case round =>
    clear H Q HB Hc Hf
    obtain ⟨k, hk, rfl, O, H, Q⟩ := hrel
    have hzl : (selL (haloP hi fr ct wb) k).length ≤ 16 := Nat.le_trans (selL_few _ _) (by omega)
    have HO := Lib.hid O; clear O
    have HB : Hid (Below w.heap.size w wr) := Lib.hid (HB0.out.trans (HO.out.2.mono HB0.out.size))
    by_cases hlt : (k : Int) < hi
    · skip
      have HPD : Hid (haloP hi fr ct wb k = (hasS fr ct (k : Int) || (hasS fr ct (rowA wb hi ((k : Int) + 1)) || hasS fr ct (rowA wb hi ((k : Int) - 1))))) := Lib.hid rfl
      rcases b0_ : hasS fr ct (k : Int) with _ | _
      · skip
        rcases b1_ : hasS fr ct (rowA wb hi ((k : Int) + 1)) with _ | _
        · skip
          rcases b2_ : hasS fr ct (rowA wb hi ((k : Int) - 1)) with _ | _
          · skip
            have hp : haloP hi fr ct wb k = false := by rw [HPD.out, b0_, b1_, b2_]; rfl
            have HPK : Hid (selL (haloP hi fr ct wb) (k + 1) = selL (haloP hi fr ct wb) k) := Lib.hid (selL_no hp); clear hp
            have B0 := Lib.hid b0_
            have B1 := Lib.hid b1_
            have B2 := Lib.hid b2_
            clear b0_ b1_ b2_
            generalize hzs : selL (haloP hi fr ct wb) k = zs at *; clear hzs
            obtain ⟨Hc, Hf⟩ := H.open; obtain ⟨Qc, Qf⟩ := Q.open
            go_wp2_with fail
            refine (implPHas fr ct (k : Int) _ (by omega) (by omega) (by omega) (by omega)).mono ?_
            rintro r v1 ⟨rfl, q⟩
            clear Hc Hf Qc Qf
            replace H := H.later q; replace Q := Q.later q; replace HO := Lib.hid (outsI_later HO.out q); replace HB := Lib.hid (HB.out.trans (q.mono HB.out.size)); clear q
            rw [B0.out]
            obtain ⟨Hc, Hf⟩ := H.open; obtain ⟨Qc, Qf⟩ := Q.open
            go_wp2_with fail
            refine (implRowBefore wd hi fr ct (k : Int) wb _ s3 s4 (by omega) (by omega) (by omega) (by omega) (by omega) (by omega)).mono ?_
            rintro r v2 ⟨rfl, q⟩
            clear Hc Hf Qc Qf
            replace H := H.later q; replace Q := Q.later q; replace HO := Lib.hid (outsI_later HO.out q); replace HB := Lib.hid (HB.out.trans (q.mono HB.out.size)); clear q
            rw [B1.out]
            obtain ⟨Hc, Hf⟩ := H.open; obtain ⟨Qc, Qf⟩ := Q.open
            go_wp2_with fail
            refine (implRowBehind wd hi fr ct (k : Int) wb _ s3 s4 (by omega) (by omega) (by omega) (by omega) (by omega) (by omega)).mono ?_
            rintro r v3 ⟨rfl, q⟩
            clear Hc Hf Qc Qf
            replace H := H.later q; replace Q := Q.later q; replace HO := Lib.hid (outsI_later HO.out q); replace HB := Lib.hid (HB.out.trans (q.mono HB.out.size)); clear q
            rw [B2.out]
            obtain ⟨Hc, Hf⟩ := H.open; obtain ⟨Qc, Qf⟩ := Q.open
            go_wp2
            go_roundw
            case rel => exact ⟨k + 1, by omega, by go_num, by rw [HPK.out]; exact HO.out, H, Q⟩
            case measure => simp [intOf]; omega
          · skip
            have hp : haloP hi fr ct wb k = true := by rw [HPD.out, b0_, b1_, b2_]; rfl
            have HPK : Hid (selL (haloP hi fr ct wb) (k + 1) = selL (haloP hi fr ct wb) k ++ [(k : Int)]) := Lib.hid (selL_yes hp); clear hp
            have B0 := Lib.hid b0_
            have B1 := Lib.hid b1_
            have B2 := Lib.hid b2_
            clear b0_ b1_ b2_
            generalize hzs : selL (haloP hi fr ct wb) k = zs at *; clear hzs
            obtain ⟨Hc, Hf⟩ := H.open; obtain ⟨Qc, Qf⟩ := Q.open
            go_wp2_with fail
            refine (implPHas fr ct (k : Int) _ (by omega) (by omega) (by omega) (by omega)).mono ?_
            rintro r v1 ⟨rfl, q⟩
            clear Hc Hf Qc Qf
            replace H := H.later q; replace Q := Q.later q; replace HO := Lib.hid (outsI_later HO.out q); replace HB := Lib.hid (HB.out.trans (q.mono HB.out.size)); clear q
            rw [B0.out]
            obtain ⟨Hc, Hf⟩ := H.open; obtain ⟨Qc, Qf⟩ := Q.open
            go_wp2_with fail
            refine (implRowBefore wd hi fr ct (k : Int) wb _ s3 s4 (by omega) (by omega) (by omega) (by omega) (by omega) (by omega)).mono ?_
            rintro r v2 ⟨rfl, q⟩
            clear Hc Hf Qc Qf
            replace H := H.later q; replace Q := Q.later q; replace HO := Lib.hid (outsI_later HO.out q); replace HB := Lib.hid (HB.out.trans (q.mono HB.out.size)); clear q
            rw [B1.out]
            obtain ⟨Hc, Hf⟩ := H.open; obtain ⟨Qc, Qf⟩ := Q.open
            go_wp2_with fail
            refine (implRowBehind wd hi fr ct (k : Int) wb _ s3 s4 (by omega) (by omega) (by omega) (by omega) (by omega) (by omega)).mono ?_
            rintro r v3 ⟨rfl, q⟩
            clear Hc Hf Qc Qf
            replace H := H.later q; replace Q := Q.later q; replace HO := Lib.hid (outsI_later HO.out q); replace HB := Lib.hid (HB.out.trans (q.mono HB.out.size)); clear q
            rw [B2.out]
            obtain ⟨Hc, Hf⟩ := H.open; obtain ⟨Qc, Qf⟩ := Q.open
            go_wp2_with (at_builtin; refine wpList_append_own _ rfl _ _ 52 rfl u1.heap.size 2 ti (.int .i64 0) 1 8 Try.underlying52 HI.out HZ0.out HZ1.out HZ2.out rfl (by decide) _ _ _ rfl (HO.out.1.alloc _) ⟨v3.heap.size, 0, none⟩ 1 1 [.int .i64 (k : Int)] rfl rfl (oneI_news _ _) (oneI_cells _) (by unfold maxLen; omega) (by omega) (by have := HO.out.2.size; simp; omega) ?_; intro v' w9 hown' hgrow _)
            have H3 := Lib.hid (outsI_next (z := (k : Int)) HO.out hown' hgrow)
            have H2 : Blk w9 (w.heap.size) #[.int .i64 wd, .int .i64 hi, .bool wb] 80 := (H.alloc (.cells #[.int .i64 (k : Int)] 2)).grown hgrow ?zH
            rotate_left
            case zH => intro h9; have h8 := HO.out.1.lt (w.heap.size) (by first | exact h9.symm | (simp at h9 ⊢; exact h9.symm)); omega
            have Q2 : Blk w9 (w.heap.size + 1) #[.int .i64 fr, .int .i64 ct] 31 := (Q.alloc (.cells #[.int .i64 (k : Int)] 2)).grown hgrow ?zQ
            rotate_left
            case zQ => intro h9; have h8 := HO.out.1.lt (w.heap.size + 1) (by first | exact h9.symm | (simp at h9 ⊢; exact h9.symm)); omega
            go_roundw
            case rel => exact ⟨k + 1, by omega, by go_num, by rw [HPK.out]; exact H3.out, H2, Q2⟩
            case measure => simp [intOf]; omega
        · skip
          have hp : haloP hi fr ct wb k = true := by rw [HPD.out, b0_, b1_]; simp
          have HPK : Hid (selL (haloP hi fr ct wb) (k + 1) = selL (haloP hi fr ct wb) k ++ [(k : Int)]) := Lib.hid (selL_yes hp); clear hp
          have B0 := Lib.hid b0_
          have B1 := Lib.hid b1_
          clear b0_ b1_
          generalize hzs : selL (haloP hi fr ct wb) k = zs at *; clear hzs
          obtain ⟨Hc, Hf⟩ := H.open; obtain ⟨Qc, Qf⟩ := Q.open
          go_wp2_with fail
          refine (implPHas fr ct (k : Int) _ (by omega) (by omega) (by omega) (by omega)).mono ?_
          rintro r v1 ⟨rfl, q⟩
          clear Hc Hf Qc Qf
          replace H := H.later q; replace Q := Q.later q; replace HO := Lib.hid (outsI_later HO.out q); replace HB := Lib.hid (HB.out.trans (q.mono HB.out.size)); clear q
          rw [B0.out]
          obtain ⟨Hc, Hf⟩ := H.open; obtain ⟨Qc, Qf⟩ := Q.open
          go_wp2_with fail
          refine (implRowBefore wd hi fr ct (k : Int) wb _ s3 s4 (by omega) (by omega) (by omega) (by omega) (by omega) (by omega)).mono ?_
          rintro r v2 ⟨rfl, q⟩
          clear Hc Hf Qc Qf
          replace H := H.later q; replace Q := Q.later q; replace HO := Lib.hid (outsI_later HO.out q); replace HB := Lib.hid (HB.out.trans (q.mono HB.out.size)); clear q
          rw [B1.out]
          obtain ⟨Hc, Hf⟩ := H.open; obtain ⟨Qc, Qf⟩ := Q.open
          go_wp2_with (at_builtin; refine wpList_append_own _ rfl _ _ 52 rfl u1.heap.size 2 ti (.int .i64 0) 1 8 Try.underlying52 HI.out HZ0.out HZ1.out HZ2.out rfl (by decide) _ _ _ rfl (HO.out.1.alloc _) ⟨v2.heap.size, 0, none⟩ 1 1 [.int .i64 (k : Int)] rfl rfl (oneI_news _ _) (oneI_cells _) (by unfold maxLen; omega) (by omega) (by have := HO.out.2.size; simp; omega) ?_; intro v' w9 hown' hgrow _)
          have H3 := Lib.hid (outsI_next (z := (k : Int)) HO.out hown' hgrow)
          have H2 : Blk w9 (w.heap.size) #[.int .i64 wd, .int .i64 hi, .bool wb] 80 := (H.alloc (.cells #[.int .i64 (k : Int)] 2)).grown hgrow ?zH
          rotate_left
          case zH => intro h9; have h8 := HO.out.1.lt (w.heap.size) (by first | exact h9.symm | (simp at h9 ⊢; exact h9.symm)); omega
          have Q2 : Blk w9 (w.heap.size + 1) #[.int .i64 fr, .int .i64 ct] 31 := (Q.alloc (.cells #[.int .i64 (k : Int)] 2)).grown hgrow ?zQ
          rotate_left
          case zQ => intro h9; have h8 := HO.out.1.lt (w.heap.size + 1) (by first | exact h9.symm | (simp at h9 ⊢; exact h9.symm)); omega
          go_roundw
          case rel => exact ⟨k + 1, by omega, by go_num, by rw [HPK.out]; exact H3.out, H2, Q2⟩
          case measure => simp [intOf]; omega
      · skip
        have hp : haloP hi fr ct wb k = true := by rw [HPD.out, b0_]; simp
        have HPK : Hid (selL (haloP hi fr ct wb) (k + 1) = selL (haloP hi fr ct wb) k ++ [(k : Int)]) := Lib.hid (selL_yes hp); clear hp
        have B0 := Lib.hid b0_
        clear b0_
        generalize hzs : selL (haloP hi fr ct wb) k = zs at *; clear hzs
        obtain ⟨Hc, Hf⟩ := H.open; obtain ⟨Qc, Qf⟩ := Q.open
        go_wp2_with fail
        refine (implPHas fr ct (k : Int) _ (by omega) (by omega) (by omega) (by omega)).mono ?_
        rintro r v1 ⟨rfl, q⟩
        clear Hc Hf Qc Qf
        replace H := H.later q; replace Q := Q.later q; replace HO := Lib.hid (outsI_later HO.out q); replace HB := Lib.hid (HB.out.trans (q.mono HB.out.size)); clear q
        rw [B0.out]
        obtain ⟨Hc, Hf⟩ := H.open; obtain ⟨Qc, Qf⟩ := Q.open
        go_wp2_with (at_builtin; refine wpList_append_own _ rfl _ _ 52 rfl u1.heap.size 2 ti (.int .i64 0) 1 8 Try.underlying52 HI.out HZ0.out HZ1.out HZ2.out rfl (by decide) _ _ _ rfl (HO.out.1.alloc _) ⟨v1.heap.size, 0, none⟩ 1 1 [.int .i64 (k : Int)] rfl rfl (oneI_news _ _) (oneI_cells _) (by unfold maxLen; omega) (by omega) (by have := HO.out.2.size; simp; omega) ?_; intro v' w9 hown' hgrow _)
        have H3 := Lib.hid (outsI_next (z := (k : Int)) HO.out hown' hgrow)
        have H2 : Blk w9 (w.heap.size) #[.int .i64 wd, .int .i64 hi, .bool wb] 80 := (H.alloc (.cells #[.int .i64 (k : Int)] 2)).grown hgrow ?zH
        rotate_left
        case zH => intro h9; have h8 := HO.out.1.lt (w.heap.size) (by first | exact h9.symm | (simp at h9 ⊢; exact h9.symm)); omega
        have Q2 : Blk w9 (w.heap.size + 1) #[.int .i64 fr, .int .i64 ct] 31 := (Q.alloc (.cells #[.int .i64 (k : Int)] 2)).grown hgrow ?zQ
        rotate_left
        case zQ => intro h9; have h8 := HO.out.1.lt (w.heap.size + 1) (by first | exact h9.symm | (simp at h9 ⊢; exact h9.symm)); omega
        go_roundw
        case rel => exact ⟨k + 1, by omega, by go_num, by rw [HPK.out]; exact H3.out, H2, Q2⟩
        case measure => simp [intOf]; omega
    · skip
      have hkn : k = N := by have := HN.out; omega
      have ez := HLL.out k hkn; clear hkn
      rw [ez] at HO
      obtain ⟨a, c, e, OW, B⟩ := outsI_end HO.out
      have HE := Lib.hid e; clear e ez
      go_wp2
      go_ret
      first | exact ⟨a, c, by rw [← HE.out]; rfl, OW.lower (by omega), HB0.out.trans (B.mono HB0.out.size)⟩ | exact ⟨a, ⟨c, by rw [← HE.out]; rfl⟩, OW.lower (by omega), HB0.out.trans (B.mono HB0.out.size)⟩

end Go.Proofs.Ytedfbaeajofmnaa
