/- Rects of a sheet: the program's functions and the model's. Conditions: none beyond those of each theorem. -/
import Derived.Test.YthlkndjllhdppaaRect
import Derived.Test.YthlkndjllhdppaaBu7
namespace Go.Proofs.Ythlkndjllhdppaa
open Go Ieee Go.RowKit
set_option linter.unusedVariables false

def SpRc (V : Bool) (S C : Value) (f : FuncId) (_ : Array Value) (v : Value) : Prop := if f = 62 then v = .bool V else if f = 61 then v = S else v = C
theorem spRv {V : Bool} {S C : Value} {a : Array Value} {v : Value} (h : SpRc V S C 62 a v) : v = .bool V := by unfold SpRc at h; rwa [if_pos rfl] at h
theorem spRs {V : Bool} {S C : Value} {a : Array Value} {v : Value} (h : SpRc V S C 61 a v) : v = S := by unfold SpRc at h; rwa [if_neg (by decide), if_pos rfl] at h
theorem spRc {V : Bool} {S C : Value} {a : Array Value} {v : Value} (h : SpRc V S C 73 a v) : v = C := by unfold SpRc at h; rwa [if_neg (by decide), if_neg (by decide)] at h
theorem toRv {V : Bool} {S C : Value} {a : Array Value} : SpRc V S C 62 a (.bool V) := by unfold SpRc; rw [if_pos rfl]
theorem toRs {V : Bool} {S C : Value} {a : Array Value} : SpRc V S C 61 a S := by unfold SpRc; rw [if_neg (by decide), if_pos rfl]
theorem toRc {V : Bool} {S C : Value} {a : Array Value} : SpRc V S C 73 a C := by unfold SpRc; rw [if_neg (by decide), if_neg (by decide)]

set_option maxHeartbeats 4000000 in
set_option maxRecDepth 100000 in
theorem implIsRect (wd hi : Int) (wb : Bool) (a b : Option Addr) (ca cb : Nat) (xs ys : List Nat) (rx ry rw rh : Int) (w : World) (ha : RowV w a (fvals xs)) (hb : RowV w b (fvals ys)) (hx : xs.length ≤ maxLen) (hy : ys.length ≤ maxLen) :
    Calls Try.prog 26 #[.agg #[.int .i64 wd, .int .i64 hi, .bool wb, .slice a xs.length ca, .slice b ys.length cb], .agg #[.int .i64 rx, .int .i64 ry, .int .i64 rw, .int .i64 rh]] w fun e w' => e = .returned (.bool (isRectB wd hi xs ys rx ry rw rh)) ∧ Below w.heap.size w w' := by
  rcases hv : validB wd hi xs ys with _ | _
  · skip
    have HR : Hid (isRectB wd hi xs ys rx ry rw rh = false) := Lib.hid (by unfold isRectB; rw [hv]; rfl)
    have HVC : Hid (∀ u, Below w.heap.size w u → Calls Try.prog 62 #[.agg #[.int .i64 wd, .int .i64 hi, .bool wb, .slice a xs.length ca, .slice b ys.length cb]] u fun e w' => e = .returned (.bool false) ∧ Below u.heap.size u w') := Lib.hid (fun u hu => by have h9 := implValidSheet wd hi wb a b ca cb xs ys u (ha.later hu) (hb.later hu) hx hy; rw [hv] at h9; exact h9)
    clear hv
    rw [HR.out]
    have X := Blk.new w #[.int .i64 wd, .int .i64 hi, .bool wb, .slice a xs.length ca, .slice b ys.length cb] 29
    have Q := Blk.new1 w (.cells #[.int .i64 wd, .int .i64 hi, .bool wb, .slice a xs.length ca, .slice b ys.length cb] 29) #[.int .i64 rx, .int .i64 ry, .int .i64 rw, .int .i64 rh] 39
    replace X := X.alloc (.cells #[.int .i64 rx, .int .i64 ry, .int .i64 rw, .int .i64 rh] 39)
    have HB : Hid (Below w.heap.size w ((w.alloc (.cells #[.int .i64 wd, .int .i64 hi, .bool wb, .slice a xs.length ca, .slice b ys.length cb] 29)).alloc (.cells #[.int .i64 rx, .int .i64 ry, .int .i64 rw, .int .i64 rh] 39))) := Lib.hid (((Below.refl w.heap.size w).alloc (by simp <;> omega) _).alloc (by simp <;> omega) _)
    go_enter Try.func26, Try.ntmps26
    go_wp2_with fail
    generalize ((w.alloc (.cells #[.int .i64 wd, .int .i64 hi, .bool wb, .slice a xs.length ca, .slice b ys.length cb] 29)).alloc (.cells #[.int .i64 rx, .int .i64 ry, .int .i64 rw, .int .i64 rh] 39)) = u1 at *
    refine wp_region_relC (Grows u1) (SpRc false (.agg #[.int .i64 wd, .int .i64 hi, .bool wb]) (.agg #[.int .i64 (clI rx 0 (wd - 1)), .int .i64 (clI ry 0 (hi - 1)), .int .i64 (clI rw 1 (wd - (clI rx 0 (wd - 1)))), .int .i64 (clI rh 1 (hi - (clI ry 0 (hi - 1))))])) (by kernel_rfl) (by kernel_rfl) (Grows.drew _) ?_
    (refine wpRel_load rfl _ rfl (_) (fun w' hw' => run_loadVar_row w' _ _ _ _ _ _ (X.later hw') Try.underlying29 rfl (by kernel_rfl)) ?_; simp only [Act.put, List.setIfInBounds_toArray, List.set_cons_zero, List.set_cons_succ])
    (refine wpRel_callC rfl 62 _ rfl Try.func62 (by kernel_rfl) (by kernel_rfl) [.agg #[.int .i64 wd, .int .i64 hi, .bool wb, .slice a xs.length ca, .slice b ys.length cb]] rfl (fun w' hw' => (HVC.out w' (HB.out.trans (Below.mono hw' HB.out.size))).mono (by rintro e w'' ⟨rfl, q9⟩; exact ⟨_, rfl, toRv, hw'.next q9⟩)) ?_; intro v hv; obtain rfl := spRv hv; clear hv; simp only [Act.put, List.setIfInBounds_toArray, List.set_cons_zero, List.set_cons_succ])
    (refine wpRel_plain rfl rfl ?_; intro K hK; go_big_quiet_op; (first | go_big_quiet_on | (refine ⟨_, fun _ _ => rfl, ?_⟩; go_big_quiet_on)))
    (refine wpRel_skip rfl ?_; simp only [Act.put, List.setIfInBounds_toArray, List.set_cons_zero, List.set_cons_succ])
    (refine wpRel_skip rfl ?_; simp only [Act.put, List.setIfInBounds_toArray, List.set_cons_zero, List.set_cons_succ])
    (refine wpRel_skip rfl ?_; simp only [Act.put, List.setIfInBounds_toArray, List.set_cons_zero, List.set_cons_succ])
    (refine wpRel_skip rfl ?_; simp only [Act.put, List.setIfInBounds_toArray, List.set_cons_zero, List.set_cons_succ])
    (refine wpRel_skip rfl ?_; simp only [Act.put, List.setIfInBounds_toArray, List.set_cons_zero, List.set_cons_succ])
    (refine wpRel_skip rfl ?_; simp only [Act.put, List.setIfInBounds_toArray, List.set_cons_zero, List.set_cons_succ])
    (refine wpRel_plain rfl rfl ?_; intro K hK; go_big_quiet_op; (first | go_big_quiet_on | (refine ⟨_, fun _ _ => rfl, ?_⟩; go_big_quiet_on)))
    (refine wpRel_plain rfl rfl ?_; intro K hK; go_big_quiet_op; (first | go_big_quiet_on | (refine ⟨_, fun _ _ => rfl, ?_⟩; go_big_quiet_on)))
    refine wpRel_nil ?_
    intro u2 hw'
    replace hw' : Below u1.heap.size u1 u2 := hw'
    go_wp2
    go_ret
    exact ⟨rfl, HB.out.trans (hw'.mono HB.out.size)⟩
  obtain ⟨s1, s2, s3, s4, _, _, _⟩ := valid_parts hv
  have HR : Hid (isRectB wd hi xs ys rx ry rw rh = rectB wd hi rx ry rw rh) := Lib.hid (by unfold isRectB; rw [hv]; rfl)
  have HEQ : ∀ w9 : World, (binOp .eql 39 (.agg #[.int .i64 rx, .int .i64 ry, .int .i64 rw, .int .i64 rh]) (.agg #[.int .i64 (clI rx 0 (wd - 1)), .int .i64 (clI ry 0 (hi - 1)), .int .i64 (clI rw 1 (wd - (clI rx 0 (wd - 1)))), .int .i64 (clI rh 1 (hi - (clI ry 0 (hi - 1))))])).run Try.prog w9 = .ok (.bool (rectB wd hi rx ry rw rh)) w9 := fun w9 => run_eql_rect w9 _ _ _ _ _ _ _ _ _ (clamp_eq s1 s3)
  have HVC : Hid (∀ u, Below w.heap.size w u → Calls Try.prog 62 #[.agg #[.int .i64 wd, .int .i64 hi, .bool wb, .slice a xs.length ca, .slice b ys.length cb]] u fun e w' => e = .returned (.bool true) ∧ Below u.heap.size u w') := Lib.hid (fun u hu => by have h9 := implValidSheet wd hi wb a b ca cb xs ys u (ha.later hu) (hb.later hu) hx hy; rw [hv] at h9; exact h9)
  clear hv
  rw [HR.out]
  have X := Blk.new w #[.int .i64 wd, .int .i64 hi, .bool wb, .slice a xs.length ca, .slice b ys.length cb] 29
  have Q := Blk.new1 w (.cells #[.int .i64 wd, .int .i64 hi, .bool wb, .slice a xs.length ca, .slice b ys.length cb] 29) #[.int .i64 rx, .int .i64 ry, .int .i64 rw, .int .i64 rh] 39
  replace X := X.alloc (.cells #[.int .i64 rx, .int .i64 ry, .int .i64 rw, .int .i64 rh] 39)
  have HB : Hid (Below w.heap.size w ((w.alloc (.cells #[.int .i64 wd, .int .i64 hi, .bool wb, .slice a xs.length ca, .slice b ys.length cb] 29)).alloc (.cells #[.int .i64 rx, .int .i64 ry, .int .i64 rw, .int .i64 rh] 39))) := Lib.hid (((Below.refl w.heap.size w).alloc (by simp <;> omega) _).alloc (by simp <;> omega) _)
  go_enter Try.func26, Try.ntmps26
  go_wp2_with fail
  generalize ((w.alloc (.cells #[.int .i64 wd, .int .i64 hi, .bool wb, .slice a xs.length ca, .slice b ys.length cb] 29)).alloc (.cells #[.int .i64 rx, .int .i64 ry, .int .i64 rw, .int .i64 rh] 39)) = u1 at *
  refine wp_region_relC (Grows u1) (SpRc true (.agg #[.int .i64 wd, .int .i64 hi, .bool wb]) (.agg #[.int .i64 (clI rx 0 (wd - 1)), .int .i64 (clI ry 0 (hi - 1)), .int .i64 (clI rw 1 (wd - (clI rx 0 (wd - 1)))), .int .i64 (clI rh 1 (hi - (clI ry 0 (hi - 1))))])) (by kernel_rfl) (by kernel_rfl) (Grows.drew _) ?_
  (refine wpRel_load rfl _ rfl (_) (fun w' hw' => run_loadVar_row w' _ _ _ _ _ _ (X.later hw') Try.underlying29 rfl (by kernel_rfl)) ?_; simp only [Act.put, List.setIfInBounds_toArray, List.set_cons_zero, List.set_cons_succ])
  (refine wpRel_callC rfl 62 _ rfl Try.func62 (by kernel_rfl) (by kernel_rfl) [.agg #[.int .i64 wd, .int .i64 hi, .bool wb, .slice a xs.length ca, .slice b ys.length cb]] rfl (fun w' hw' => (HVC.out w' (HB.out.trans (Below.mono hw' HB.out.size))).mono (by rintro e w'' ⟨rfl, q9⟩; exact ⟨_, rfl, toRv, hw'.next q9⟩)) ?_; intro v hv; obtain rfl := spRv hv; clear hv; simp only [Act.put, List.setIfInBounds_toArray, List.set_cons_zero, List.set_cons_succ])
  (refine wpRel_plain rfl rfl ?_; intro K hK; go_big_quiet_op; (first | go_big_quiet_on | (refine ⟨_, fun _ _ => rfl, ?_⟩; go_big_quiet_on)))
  (refine wpRel_load rfl _ rfl (_) (fun w' hw' => run_loadVar_row w' _ _ _ _ _ _ (Q.later hw') Try.underlying39 rfl (by kernel_rfl)) ?_; simp only [Act.put, List.setIfInBounds_toArray, List.set_cons_zero, List.set_cons_succ])
  (refine wpRel_load rfl _ rfl (_) (fun w' hw' => run_loadVar_row w' _ _ _ _ _ _ (Q.later hw') Try.underlying39 rfl (by kernel_rfl)) ?_; simp only [Act.put, List.setIfInBounds_toArray, List.set_cons_zero, List.set_cons_succ])
  (refine wpRel_load rfl _ rfl (_) (fun w' hw' => run_loadVar_row w' _ _ _ _ _ _ (X.later hw') Try.underlying29 rfl (by kernel_rfl)) ?_; simp only [Act.put, List.setIfInBounds_toArray, List.set_cons_zero, List.set_cons_succ])
  (refine wpRel_callC rfl 61 _ rfl Try.func61 (by kernel_rfl) (by kernel_rfl) [.agg #[.int .i64 wd, .int .i64 hi, .bool wb, .slice a xs.length ca, .slice b ys.length cb]] rfl (fun w' hw' => (implShapeOf wd hi wb a b xs.length ys.length ca cb w').mono (by rintro e w'' ⟨rfl, q9⟩; exact ⟨_, rfl, toRs, hw'.next q9⟩)) ?_; intro v hv; obtain rfl := spRs hv; clear hv; simp only [Act.put, List.setIfInBounds_toArray, List.set_cons_zero, List.set_cons_succ])
  (refine wpRel_callC rfl 73 _ rfl Try.func73 (by kernel_rfl) (by kernel_rfl) [.agg #[.int .i64 rx, .int .i64 ry, .int .i64 rw, .int .i64 rh], .agg #[.int .i64 wd, .int .i64 hi, .bool wb]] rfl (fun w' hw' => (implClamped rx ry rw rh wd hi wb w' s1 s2 s3 s4).mono (by rintro e w'' ⟨rfl, q9⟩; exact ⟨_, rfl, toRc, hw'.next q9⟩)) ?_; intro v hv; obtain rfl := spRc hv; clear hv; simp only [Act.put, List.setIfInBounds_toArray, List.set_cons_zero, List.set_cons_succ])
  (refine wpRel_run rfl (.bool (rectB wd hi rx ry rw rh)) (fun w9 => ?_) ?_; focus (go_simp <;> with_reducible rfl)); simp only [Act.put, List.setIfInBounds_toArray, List.set_cons_zero, List.set_cons_succ]
  clear HEQ
  (refine wpRel_plain rfl rfl ?_; intro K hK; go_big_quiet_op; (first | go_big_quiet_on | (refine ⟨_, fun _ _ => rfl, ?_⟩; go_big_quiet_on)))
  (refine wpRel_plain rfl rfl ?_; intro K hK; go_big_quiet_op; (first | go_big_quiet_on | (refine ⟨_, fun _ _ => rfl, ?_⟩; go_big_quiet_on)))
  refine wpRel_nil ?_
  intro u2 hw'
  replace hw' : Below u1.heap.size u1 u2 := hw'
  go_wp2
  go_ret
  exact ⟨rfl, HB.out.trans (hw'.mono HB.out.size)⟩

theorem implRHas (rx ry rw rh x y : Int) (w : World) (b1 : rx + rw ≤ 1000000) (b2 : ry + rh ≤ 1000000) (b3 : 0 ≤ rx) (b4 : 0 ≤ ry) (b5 : 1 ≤ rw) (b6 : 1 ≤ rh) : Calls Try.prog 94 #[.agg #[.int .i64 rx, .int .i64 ry, .int .i64 rw, .int .i64 rh], .agg #[.int .i64 x, .int .i64 y]] w fun e w' => e = .returned (.bool (hasR rx ry rw rh x y)) ∧ Below w.heap.size w w' := by
  have HB : Hid (Below w.heap.size w ((w.alloc (.cells #[.int .i64 rx, .int .i64 ry, .int .i64 rw, .int .i64 rh] 39)).alloc (.cells #[.int .i64 x, .int .i64 y] 85))) := Lib.hid (((Below.refl w.heap.size w).alloc (Nat.le_refl _) _).alloc (by simp) _)
  by_cases k0 : rx ≤ x
  · have d0 : decide (rx ≤ x) = true := decide_eq_true k0
    by_cases k1 : x < rx + rw
    · have d1 : decide (x < rx + rw) = true := decide_eq_true k1
      by_cases k2 : ry ≤ y
      · have d2 : decide (ry ≤ y) = true := decide_eq_true k2
        have HR : Hid (hasR rx ry rw rh x y = decide (y < ry + rh)) := Lib.hid (by unfold hasR; rw [decide_eq_true (show rx ≤ x ∧ x < rx + rw by omega), Bool.true_and, decide_eq_decide]; omega)
        clear k0 k1 k2
        (go_enter Try.func94, Try.ntmps94; go_wp2; go_ret; exact ⟨by rw [HR.out]; rfl, HB.out⟩)
      · have d2 : decide (ry ≤ y) = false := decide_eq_false k2
        have HR : Hid (hasR rx ry rw rh x y = false) := Lib.hid (by unfold hasR; rw [decide_eq_false (show ¬ (ry ≤ y ∧ y < ry + rh) by omega), Bool.and_false])
        clear k0 k1 k2
        (go_enter Try.func94, Try.ntmps94; go_wp2; go_ret; exact ⟨by rw [HR.out]; rfl, HB.out⟩)
    · have d1 : decide (x < rx + rw) = false := decide_eq_false k1
      have HR : Hid (hasR rx ry rw rh x y = false) := Lib.hid (by unfold hasR; rw [decide_eq_false (show ¬ (rx ≤ x ∧ x < rx + rw) by omega), Bool.false_and])
      clear k0 k1
      (go_enter Try.func94, Try.ntmps94; go_wp2; go_ret; exact ⟨by rw [HR.out]; rfl, HB.out⟩)
  · have d0 : decide (rx ≤ x) = false := decide_eq_false k0
    have HR : Hid (hasR rx ry rw rh x y = false) := Lib.hid (by unfold hasR; rw [decide_eq_false (show ¬ (rx ≤ x ∧ x < rx + rw) by omega), Bool.false_and])
    clear k0
    (go_enter Try.func94, Try.ntmps94; go_wp2; go_ret; exact ⟨by rw [HR.out]; rfl, HB.out⟩)

end Go.Proofs.Ythlkndjllhdppaa
