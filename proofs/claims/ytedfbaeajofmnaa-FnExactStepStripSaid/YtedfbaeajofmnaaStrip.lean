/- Strips of a sheet: the program's test and the model's. Conditions: none beyond those of each theorem. -/
import Derived.Test.YtedfbaeajofmnaaChannel
import Derived.Test.YtedfbaeajofmnaaRect3
import Derived.Test.YtedfbaeajofmnaaPlan
namespace Go.Proofs.Ytedfbaeajofmnaa
open Go Ieee Go.RowKit
set_option linter.unusedVariables false
set_option linter.unusedSimpArgs false

def stripB (hi fr ct : Int) : Bool := decide (0 ≤ fr ∧ fr < hi) && decide (1 ≤ ct ∧ ct ≤ hi - fr)
def isStripB (wd hi : Int) (xs ys : List Nat) (fr ct : Int) : Bool := validB wd hi xs ys && stripB hi fr ct
/-- a row is one of a strip -/
def hasS (fr ct y : Int) : Bool := decide (fr ≤ y ∧ y < fr + ct)

theorem strip_in {hi fr ct : Int} (h : stripB hi fr ct = true) : 0 ≤ fr ∧ fr < hi ∧ 1 ≤ ct ∧ ct ≤ hi - fr := by
  unfold stripB at h
  simp only [Bool.and_eq_true, decide_eq_true_eq] at h
  omega

def SpSt (V : Bool) (S : Value) (C : Bool) (f : FuncId) (_ : Array Value) (v : Value) : Prop := if f = 56 then v = .bool V else if f = 57 then v = S else v = .bool C
theorem spSv {V : Bool} {S : Value} {C : Bool} {a : Array Value} {v : Value} (h : SpSt V S C 56 a v) : v = .bool V := by unfold SpSt at h; rwa [if_pos rfl] at h
theorem spSs {V : Bool} {S : Value} {C : Bool} {a : Array Value} {v : Value} (h : SpSt V S C 57 a v) : v = S := by unfold SpSt at h; rwa [if_neg (by decide), if_pos rfl] at h
theorem spSc {V : Bool} {S : Value} {C : Bool} {a : Array Value} {v : Value} (h : SpSt V S C 58 a v) : v = .bool C := by unfold SpSt at h; rwa [if_neg (by decide), if_neg (by decide)] at h
theorem toSv {V : Bool} {S : Value} {C : Bool} {a : Array Value} : SpSt V S C 56 a (.bool V) := by unfold SpSt; rw [if_pos rfl]
theorem toSs {V : Bool} {S : Value} {C : Bool} {a : Array Value} : SpSt V S C 57 a S := by unfold SpSt; rw [if_neg (by decide), if_pos rfl]
theorem toSc {V : Bool} {S : Value} {C : Bool} {a : Array Value} : SpSt V S C 58 a (.bool C) := by unfold SpSt; rw [if_neg (by decide), if_neg (by decide)]

theorem implPHas (fr ct y : Int) (w : World) (b1 : 0 ≤ fr) (b2 : fr ≤ 1000) (b3 : 0 ≤ ct) (b4 : ct ≤ 1000) : Calls Try.prog 113 #[.agg #[.int .i64 fr, .int .i64 ct], .int .i64 y] w fun e w' => e = .returned (.bool (hasS fr ct y)) ∧ Below w.heap.size w w' := by
  have HB : Hid (Below w.heap.size w (w.alloc (.cells #[.int .i64 fr, .int .i64 ct] 31))) := Lib.hid (below_new _ _)
  by_cases k0 : fr ≤ y
  · have d0 : decide (fr ≤ y) = true := decide_eq_true k0
    have HR : Hid (hasS fr ct y = decide (y < fr + ct)) := Lib.hid (by unfold hasS; rw [decide_eq_decide]; omega)
    clear k0
    (go_enter Try.func113, Try.ntmps113; go_wp2; go_ret; exact ⟨by rw [HR.out]; rfl, HB.out⟩)
  · have d0 : decide (fr ≤ y) = false := decide_eq_false k0
    have HR : Hid (hasS fr ct y = false) := Lib.hid (by unfold hasS; rw [decide_eq_false]; omega)
    clear k0
    (go_enter Try.func113, Try.ntmps113; go_wp2; go_ret; exact ⟨by rw [HR.out]; rfl, HB.out⟩)

section -- pass
variable {P : Program} {ops : Array Oper} {Q : Exit → Act → World → Prop} {S : World → Prop} {K : Act → World → Prop} {i : Nat} {r : List (Nat × Bool)} {a : Act} {w : World}
/-- an operation that is not wanted, where it is the only one that is ready -/
theorem plan_pass {o : Oper} (h0 : ops[i]? = some o) (hw : Region.wanted o (yielded ops a.tmps) = false) (hS : S w) (h : planWalk P ops S Q K r (a.put o.dst undef) w) : planWalk P ops S Q K ((i, false) :: r) a w := by
  refine ⟨_, h0, ?_⟩
  unfold wpList
  rw [if_neg (by rw [hw]; simp)]
  exact ⟨hS, h⟩
end

set_option maxHeartbeats 4000000 in
set_option maxRecDepth 100000 in
theorem implIsStrip (wd hi : Int) (wb : Bool) (a b : Option Addr) (ca cb : Nat) (xs ys : List Nat) (fr ct : Int) (w : World) (ha : RowV w a (fvals xs)) (hb : RowV w b (fvals ys)) (hx : xs.length ≤ maxLen) (hy : ys.length ≤ maxLen) :
    Calls Try.prog 16 #[.agg #[.int .i64 wd, .int .i64 hi, .bool wb, .slice a xs.length ca, .slice b ys.length cb], .agg #[.int .i64 fr, .int .i64 ct]] w fun e w' => e = .returned (.bool (isStripB wd hi xs ys fr ct)) ∧ Below w.heap.size w w' := by
  rcases hv : validB wd hi xs ys with _ | _
  · skip
    rw [show isStripB wd hi xs ys fr ct = false from by unfold isStripB; rw [hv]; rfl]
    have HVC : Hid (∀ u, Below w.heap.size w u → Calls Try.prog 56 #[.agg #[.int .i64 wd, .int .i64 hi, .bool wb, .slice a xs.length ca, .slice b ys.length cb]] u fun e w' => e = .returned (.bool false) ∧ Below u.heap.size u w') := Lib.hid (fun u hu => by have h9 := implValidSheet wd hi wb a b ca cb xs ys u (ha.later hu) (hb.later hu) hx hy; rw [hv] at h9; exact h9)
    clear hv
    have X := Blk.new w #[.int .i64 wd, .int .i64 hi, .bool wb, .slice a xs.length ca, .slice b ys.length cb] 29
    have Q := Blk.new1 w (.cells #[.int .i64 wd, .int .i64 hi, .bool wb, .slice a xs.length ca, .slice b ys.length cb] 29) #[.int .i64 fr, .int .i64 ct] 31
    replace X := X.alloc (.cells #[.int .i64 fr, .int .i64 ct] 31)
    have HB : Hid (Below w.heap.size w ((w.alloc (.cells #[.int .i64 wd, .int .i64 hi, .bool wb, .slice a xs.length ca, .slice b ys.length cb] 29)).alloc (.cells #[.int .i64 fr, .int .i64 ct] 31))) := Lib.hid (((Below.refl w.heap.size w).alloc (by simp <;> omega) _).alloc (by simp <;> omega) _)
    go_enter Try.func16, Try.ntmps16
    go_wp2_with fail
    generalize ((w.alloc (.cells #[.int .i64 wd, .int .i64 hi, .bool wb, .slice a xs.length ca, .slice b ys.length cb] 29)).alloc (.cells #[.int .i64 fr, .int .i64 ct] 31)) = u1 at *
    have ai64 : ∀ w, (isAgg 2).run Try.prog w = .ok false w := fun w => by kernel_rfl
    obtain ⟨Xc, Xf⟩ := X.open; obtain ⟨Qc, Qf⟩ := Q.open
    refine wp_region_noPanic ?_
    refine wp_region_plan (Grows u1) 24 [(0, true), (1, false), (2, true), (3, true), (5, true), (6, true), (4, false), (7, false), (8, true), (9, true), (10, true), (11, true), (12, true), (13, true), (14, true), (15, true), (16, true), (17, true), (18, true), (19, true), (20, true), (21, true), (22, true), (23, true)] (by kernel_rfl) (by kernel_rfl) (fun _ _ _ _ _ h => h) (Grows.drew _) ?_
    (refine plan_load rfl rfl (⟨w.heap.size, 0, none⟩) (by kernel_rfl) (.agg #[.int .i64 wd, .int .i64 hi, .bool wb, .slice a xs.length ca, .slice b ys.length cb]) (fun w' hw' => run_loadVar_row w' _ _ _ _ _ _ (X.later hw') Try.underlying29 rfl (by kernel_rfl)) ?_; simp only [Act.put, List.setIfInBounds_toArray, List.set_cons_zero, List.set_cons_succ, List.getElem_toArray, List.getElem_cons_zero, List.getElem_cons_succ])
    have v0_ := Grows.drew u1
    generalize u1.drew = v0 at *
    refine plan_call rfl rfl 56 #[] #[] rfl _ Try.func56 (by kernel_rfl) (by kernel_rfl) [.agg #[.int .i64 wd, .int .i64 hi, .bool wb, .slice a xs.length ca, .slice b ys.length cb]] (by kernel_rfl) #[.agg #[.int .i64 wd, .int .i64 hi, .bool wb, .slice a xs.length ca, .slice b ys.length cb]] (by simp) _ (HVC.out v0 (HB.out.trans (Below.mono v0_ HB.out.size))) ?_
    rintro e v1 ⟨rfl, b1⟩
    refine ⟨_, rfl, v0_.next b1, ?_⟩
    simp only [Act.put, List.setIfInBounds_toArray, List.set_cons_zero, List.set_cons_succ, List.getElem_toArray, List.getElem_cons_zero, List.getElem_cons_succ]
    have v1_ := v0_.next b1
    (refine plan_plain rfl rfl ?_ ?_ ?_; rotate_left; focus (intro w9; go_simp <;> with_reducible rfl)); (simp only [Act.put, List.setIfInBounds_toArray, List.set_cons_zero, List.set_cons_succ, List.getElem_toArray, List.getElem_cons_zero, List.getElem_cons_succ])
    (refine plan_skip rfl (by kernel_rfl) ?_; simp only [Act.put, List.setIfInBounds_toArray, List.set_cons_zero, List.set_cons_succ, List.getElem_toArray, List.getElem_cons_zero, List.getElem_cons_succ])
    (refine plan_skip rfl (by kernel_rfl) ?_; simp only [Act.put, List.setIfInBounds_toArray, List.set_cons_zero, List.set_cons_succ, List.getElem_toArray, List.getElem_cons_zero, List.getElem_cons_succ])
    (refine plan_skip rfl (by kernel_rfl) ?_; simp only [Act.put, List.setIfInBounds_toArray, List.set_cons_zero, List.set_cons_succ, List.getElem_toArray, List.getElem_cons_zero, List.getElem_cons_succ])
    (refine plan_pass rfl (by kernel_rfl) v1_ ?_; simp only [Act.put, List.setIfInBounds_toArray, List.set_cons_zero, List.set_cons_succ, List.getElem_toArray, List.getElem_cons_zero, List.getElem_cons_succ])
    (refine plan_pass rfl (by kernel_rfl) v1_ ?_; simp only [Act.put, List.setIfInBounds_toArray, List.set_cons_zero, List.set_cons_succ, List.getElem_toArray, List.getElem_cons_zero, List.getElem_cons_succ])
    (refine plan_plain rfl rfl ?_ ?_ ?_; rotate_left; focus (intro w9; go_simp <;> with_reducible rfl)); (simp only [Act.put, List.setIfInBounds_toArray, List.set_cons_zero, List.set_cons_succ, List.getElem_toArray, List.getElem_cons_zero, List.getElem_cons_succ])
    (refine plan_plain rfl rfl ?_ ?_ ?_; rotate_left; focus (intro w9; go_simp <;> with_reducible rfl)); (simp only [Act.put, List.setIfInBounds_toArray, List.set_cons_zero, List.set_cons_succ, List.getElem_toArray, List.getElem_cons_zero, List.getElem_cons_succ])
    (refine plan_skip rfl (by kernel_rfl) ?_; simp only [Act.put, List.setIfInBounds_toArray, List.set_cons_zero, List.set_cons_succ, List.getElem_toArray, List.getElem_cons_zero, List.getElem_cons_succ])
    (refine plan_skip rfl (by kernel_rfl) ?_; simp only [Act.put, List.setIfInBounds_toArray, List.set_cons_zero, List.set_cons_succ, List.getElem_toArray, List.getElem_cons_zero, List.getElem_cons_succ])
    (refine plan_skip rfl (by kernel_rfl) ?_; simp only [Act.put, List.setIfInBounds_toArray, List.set_cons_zero, List.set_cons_succ, List.getElem_toArray, List.getElem_cons_zero, List.getElem_cons_succ])
    (refine plan_plain rfl rfl ?_ ?_ ?_; rotate_left; focus (intro w9; go_simp <;> with_reducible rfl)); (simp only [Act.put, List.setIfInBounds_toArray, List.set_cons_zero, List.set_cons_succ, List.getElem_toArray, List.getElem_cons_zero, List.getElem_cons_succ])
    (refine plan_plain rfl rfl ?_ ?_ ?_; rotate_left; focus (intro w9; go_simp <;> with_reducible rfl)); (simp only [Act.put, List.setIfInBounds_toArray, List.set_cons_zero, List.set_cons_succ, List.getElem_toArray, List.getElem_cons_zero, List.getElem_cons_succ])
    (refine plan_skip rfl (by kernel_rfl) ?_; simp only [Act.put, List.setIfInBounds_toArray, List.set_cons_zero, List.set_cons_succ, List.getElem_toArray, List.getElem_cons_zero, List.getElem_cons_succ])
    (refine plan_skip rfl (by kernel_rfl) ?_; simp only [Act.put, List.setIfInBounds_toArray, List.set_cons_zero, List.set_cons_succ, List.getElem_toArray, List.getElem_cons_zero, List.getElem_cons_succ])
    (refine plan_skip rfl (by kernel_rfl) ?_; simp only [Act.put, List.setIfInBounds_toArray, List.set_cons_zero, List.set_cons_succ, List.getElem_toArray, List.getElem_cons_zero, List.getElem_cons_succ])
    (refine plan_skip rfl (by kernel_rfl) ?_; simp only [Act.put, List.setIfInBounds_toArray, List.set_cons_zero, List.set_cons_succ, List.getElem_toArray, List.getElem_cons_zero, List.getElem_cons_succ])
    (refine plan_skip rfl (by kernel_rfl) ?_; simp only [Act.put, List.setIfInBounds_toArray, List.set_cons_zero, List.set_cons_succ, List.getElem_toArray, List.getElem_cons_zero, List.getElem_cons_succ])
    (refine plan_skip rfl (by kernel_rfl) ?_; simp only [Act.put, List.setIfInBounds_toArray, List.set_cons_zero, List.set_cons_succ, List.getElem_toArray, List.getElem_cons_zero, List.getElem_cons_succ])
    (refine plan_skip rfl (by kernel_rfl) ?_; simp only [Act.put, List.setIfInBounds_toArray, List.set_cons_zero, List.set_cons_succ, List.getElem_toArray, List.getElem_cons_zero, List.getElem_cons_succ])
    (refine plan_skip rfl (by kernel_rfl) ?_; simp only [Act.put, List.setIfInBounds_toArray, List.set_cons_zero, List.set_cons_succ, List.getElem_toArray, List.getElem_cons_zero, List.getElem_cons_succ])
    (refine plan_plain rfl rfl ?_ ?_ ?_; rotate_left; focus (intro w9; go_simp <;> with_reducible rfl)); (simp only [Act.put, List.setIfInBounds_toArray, List.set_cons_zero, List.set_cons_succ, List.getElem_toArray, List.getElem_cons_zero, List.getElem_cons_succ])
    change wpList _ _ _ _ _ _
    simp only [List.drop_succ_cons, List.drop_zero]
    go_wp2_with fail
    refine NoPanic.normal ?_
    go_wp2
    go_ret
    exact ⟨rfl, HB.out.trans (Below.mono v1_ HB.out.size)⟩
  obtain ⟨s1, s2, s3, s4, _, _, _⟩ := valid_parts hv
  rw [show isStripB wd hi xs ys fr ct = stripB hi fr ct from by unfold isStripB; rw [hv]; rfl]
  have HVC : Hid (∀ u, Below w.heap.size w u → Calls Try.prog 56 #[.agg #[.int .i64 wd, .int .i64 hi, .bool wb, .slice a xs.length ca, .slice b ys.length cb]] u fun e w' => e = .returned (.bool true) ∧ Below u.heap.size u w') := Lib.hid (fun u hu => by have h9 := implValidSheet wd hi wb a b ca cb xs ys u (ha.later hu) (hb.later hu) hx hy; rw [hv] at h9; exact h9)
  clear hv
  rcases h1 : decide (0 ≤ fr ∧ fr < hi) with _ | _
  · skip
    have HH : Hid (∀ u : World, Calls Try.prog 58 #[.agg #[.int .i64 wd, .int .i64 hi, .bool wb], .int .i64 fr] u fun e w' => e = .returned (.bool false) ∧ Below u.heap.size u w') := Lib.hid (fun u => by have h9 := implHasRow wd hi fr wb u; rw [h1] at h9; exact h9)
    rw [show stripB hi fr ct = false from by unfold stripB; rw [h1]; rfl]; clear h1
    have X := Blk.new w #[.int .i64 wd, .int .i64 hi, .bool wb, .slice a xs.length ca, .slice b ys.length cb] 29
    have Q := Blk.new1 w (.cells #[.int .i64 wd, .int .i64 hi, .bool wb, .slice a xs.length ca, .slice b ys.length cb] 29) #[.int .i64 fr, .int .i64 ct] 31
    replace X := X.alloc (.cells #[.int .i64 fr, .int .i64 ct] 31)
    have HB : Hid (Below w.heap.size w ((w.alloc (.cells #[.int .i64 wd, .int .i64 hi, .bool wb, .slice a xs.length ca, .slice b ys.length cb] 29)).alloc (.cells #[.int .i64 fr, .int .i64 ct] 31))) := Lib.hid (((Below.refl w.heap.size w).alloc (by simp <;> omega) _).alloc (by simp <;> omega) _)
    go_enter Try.func16, Try.ntmps16
    go_wp2_with fail
    generalize ((w.alloc (.cells #[.int .i64 wd, .int .i64 hi, .bool wb, .slice a xs.length ca, .slice b ys.length cb] 29)).alloc (.cells #[.int .i64 fr, .int .i64 ct] 31)) = u1 at *
    have ai64 : ∀ w, (isAgg 2).run Try.prog w = .ok false w := fun w => by kernel_rfl
    obtain ⟨Xc, Xf⟩ := X.open; obtain ⟨Qc, Qf⟩ := Q.open
    refine wp_region_noPanic ?_
    refine wp_region_plan (Grows u1) 24 [(0, true), (1, false), (2, true), (3, true), (5, true), (6, true), (4, false), (7, false), (8, true), (9, true), (10, true), (11, true), (12, true), (13, true), (14, true), (15, true), (16, true), (17, true), (18, true), (19, true), (20, true), (21, true), (22, true), (23, true)] (by kernel_rfl) (by kernel_rfl) (fun _ _ _ _ _ h => h) (Grows.drew _) ?_
    (refine plan_load rfl rfl (⟨w.heap.size, 0, none⟩) (by kernel_rfl) (.agg #[.int .i64 wd, .int .i64 hi, .bool wb, .slice a xs.length ca, .slice b ys.length cb]) (fun w' hw' => run_loadVar_row w' _ _ _ _ _ _ (X.later hw') Try.underlying29 rfl (by kernel_rfl)) ?_; simp only [Act.put, List.setIfInBounds_toArray, List.set_cons_zero, List.set_cons_succ, List.getElem_toArray, List.getElem_cons_zero, List.getElem_cons_succ])
    have v0_ := Grows.drew u1
    generalize u1.drew = v0 at *
    refine plan_call rfl rfl 56 #[] #[] rfl _ Try.func56 (by kernel_rfl) (by kernel_rfl) [.agg #[.int .i64 wd, .int .i64 hi, .bool wb, .slice a xs.length ca, .slice b ys.length cb]] (by kernel_rfl) #[.agg #[.int .i64 wd, .int .i64 hi, .bool wb, .slice a xs.length ca, .slice b ys.length cb]] (by simp) _ (HVC.out v0 (HB.out.trans (Below.mono v0_ HB.out.size))) ?_
    rintro e v1 ⟨rfl, b1⟩
    refine ⟨_, rfl, v0_.next b1, ?_⟩
    simp only [Act.put, List.setIfInBounds_toArray, List.set_cons_zero, List.set_cons_succ, List.getElem_toArray, List.getElem_cons_zero, List.getElem_cons_succ]
    have v1_ := v0_.next b1
    (refine plan_plain rfl rfl ?_ ?_ ?_; rotate_left; focus (intro w9; go_simp <;> with_reducible rfl)); (simp only [Act.put, List.setIfInBounds_toArray, List.set_cons_zero, List.set_cons_succ, List.getElem_toArray, List.getElem_cons_zero, List.getElem_cons_succ])
    (refine plan_load rfl rfl (⟨w.heap.size, 0, none⟩) (by kernel_rfl) (.agg #[.int .i64 wd, .int .i64 hi, .bool wb, .slice a xs.length ca, .slice b ys.length cb]) (fun w' hw' => run_loadVar_row w' _ _ _ _ _ _ (X.later hw') Try.underlying29 rfl (by kernel_rfl)) ?_; simp only [Act.put, List.setIfInBounds_toArray, List.set_cons_zero, List.set_cons_succ, List.getElem_toArray, List.getElem_cons_zero, List.getElem_cons_succ])
    (refine plan_plain rfl rfl ?_ ?_ ?_; rotate_left; focus (intro w9; go_simp <;> with_reducible rfl)); (simp only [Act.put, List.setIfInBounds_toArray, List.set_cons_zero, List.set_cons_succ, List.getElem_toArray, List.getElem_cons_zero, List.getElem_cons_succ])
    (refine plan_load rfl rfl (⟨w.heap.size + 1, 0, none⟩) (by kernel_rfl) (.int .i64 fr) (load_cell ai64 (Qc 0)) ?_; simp only [Act.put, List.setIfInBounds_toArray, List.set_cons_zero, List.set_cons_succ, List.getElem_toArray, List.getElem_cons_zero, List.getElem_cons_succ])
    refine plan_call rfl rfl 57 #[] #[] rfl _ Try.func57 (by kernel_rfl) (by kernel_rfl) [.agg #[.int .i64 wd, .int .i64 hi, .bool wb, .slice a xs.length ca, .slice b ys.length cb]] (by kernel_rfl) #[.agg #[.int .i64 wd, .int .i64 hi, .bool wb, .slice a xs.length ca, .slice b ys.length cb]] (by simp) _ (implShapeOf wd hi wb a b xs.length ys.length ca cb v1) ?_
    rintro e v2 ⟨rfl, b2⟩
    refine ⟨_, rfl, v1_.next b2, ?_⟩
    simp only [Act.put, List.setIfInBounds_toArray, List.set_cons_zero, List.set_cons_succ, List.getElem_toArray, List.getElem_cons_zero, List.getElem_cons_succ]
    have v2_ := v1_.next b2
    refine plan_call rfl rfl 58 #[] #[] rfl _ Try.func58 (by kernel_rfl) (by kernel_rfl) [.agg #[.int .i64 wd, .int .i64 hi, .bool wb], .int .i64 fr] (by kernel_rfl) #[.agg #[.int .i64 wd, .int .i64 hi, .bool wb], .int .i64 fr] (by simp) _ (HH.out v2) ?_
    rintro e v3 ⟨rfl, b3⟩
    refine ⟨_, rfl, v2_.next b3, ?_⟩
    simp only [Act.put, List.setIfInBounds_toArray, List.set_cons_zero, List.set_cons_succ, List.getElem_toArray, List.getElem_cons_zero, List.getElem_cons_succ]
    have v3_ := v2_.next b3
    (refine plan_plain rfl rfl ?_ ?_ ?_; rotate_left; focus (intro w9; go_simp <;> with_reducible rfl)); (simp only [Act.put, List.setIfInBounds_toArray, List.set_cons_zero, List.set_cons_succ, List.getElem_toArray, List.getElem_cons_zero, List.getElem_cons_succ])
    (refine plan_plain rfl rfl ?_ ?_ ?_; rotate_left; focus (intro w9; go_simp <;> with_reducible rfl)); (simp only [Act.put, List.setIfInBounds_toArray, List.set_cons_zero, List.set_cons_succ, List.getElem_toArray, List.getElem_cons_zero, List.getElem_cons_succ])
    (refine plan_skip rfl (by kernel_rfl) ?_; simp only [Act.put, List.setIfInBounds_toArray, List.set_cons_zero, List.set_cons_succ, List.getElem_toArray, List.getElem_cons_zero, List.getElem_cons_succ])
    (refine plan_skip rfl (by kernel_rfl) ?_; simp only [Act.put, List.setIfInBounds_toArray, List.set_cons_zero, List.set_cons_succ, List.getElem_toArray, List.getElem_cons_zero, List.getElem_cons_succ])
    (refine plan_skip rfl (by kernel_rfl) ?_; simp only [Act.put, List.setIfInBounds_toArray, List.set_cons_zero, List.set_cons_succ, List.getElem_toArray, List.getElem_cons_zero, List.getElem_cons_succ])
    (refine plan_plain rfl rfl ?_ ?_ ?_; rotate_left; focus (intro w9; go_simp <;> with_reducible rfl)); (simp only [Act.put, List.setIfInBounds_toArray, List.set_cons_zero, List.set_cons_succ, List.getElem_toArray, List.getElem_cons_zero, List.getElem_cons_succ])
    (refine plan_plain rfl rfl ?_ ?_ ?_; rotate_left; focus (intro w9; go_simp <;> with_reducible rfl)); (simp only [Act.put, List.setIfInBounds_toArray, List.set_cons_zero, List.set_cons_succ, List.getElem_toArray, List.getElem_cons_zero, List.getElem_cons_succ])
    (refine plan_skip rfl (by kernel_rfl) ?_; simp only [Act.put, List.setIfInBounds_toArray, List.set_cons_zero, List.set_cons_succ, List.getElem_toArray, List.getElem_cons_zero, List.getElem_cons_succ])
    (refine plan_skip rfl (by kernel_rfl) ?_; simp only [Act.put, List.setIfInBounds_toArray, List.set_cons_zero, List.set_cons_succ, List.getElem_toArray, List.getElem_cons_zero, List.getElem_cons_succ])
    (refine plan_skip rfl (by kernel_rfl) ?_; simp only [Act.put, List.setIfInBounds_toArray, List.set_cons_zero, List.set_cons_succ, List.getElem_toArray, List.getElem_cons_zero, List.getElem_cons_succ])
    (refine plan_skip rfl (by kernel_rfl) ?_; simp only [Act.put, List.setIfInBounds_toArray, List.set_cons_zero, List.set_cons_succ, List.getElem_toArray, List.getElem_cons_zero, List.getElem_cons_succ])
    (refine plan_skip rfl (by kernel_rfl) ?_; simp only [Act.put, List.setIfInBounds_toArray, List.set_cons_zero, List.set_cons_succ, List.getElem_toArray, List.getElem_cons_zero, List.getElem_cons_succ])
    (refine plan_skip rfl (by kernel_rfl) ?_; simp only [Act.put, List.setIfInBounds_toArray, List.set_cons_zero, List.set_cons_succ, List.getElem_toArray, List.getElem_cons_zero, List.getElem_cons_succ])
    (refine plan_skip rfl (by kernel_rfl) ?_; simp only [Act.put, List.setIfInBounds_toArray, List.set_cons_zero, List.set_cons_succ, List.getElem_toArray, List.getElem_cons_zero, List.getElem_cons_succ])
    (refine plan_skip rfl (by kernel_rfl) ?_; simp only [Act.put, List.setIfInBounds_toArray, List.set_cons_zero, List.set_cons_succ, List.getElem_toArray, List.getElem_cons_zero, List.getElem_cons_succ])
    (refine plan_plain rfl rfl ?_ ?_ ?_; rotate_left; focus (intro w9; go_simp <;> with_reducible rfl)); (simp only [Act.put, List.setIfInBounds_toArray, List.set_cons_zero, List.set_cons_succ, List.getElem_toArray, List.getElem_cons_zero, List.getElem_cons_succ])
    change wpList _ _ _ _ _ _
    simp only [List.drop_succ_cons, List.drop_zero]
    go_wp2_with fail
    refine NoPanic.normal ?_
    go_wp2
    go_ret
    exact ⟨rfl, HB.out.trans (Below.mono v3_ HB.out.size)⟩
  have HH : Hid (∀ u : World, Calls Try.prog 58 #[.agg #[.int .i64 wd, .int .i64 hi, .bool wb], .int .i64 fr] u fun e w' => e = .returned (.bool true) ∧ Below u.heap.size u w') := Lib.hid (fun u => by have h9 := implHasRow wd hi fr wb u; rw [h1] at h9; exact h9)
  obtain ⟨f1, f2⟩ := of_decide_eq_true h1
  rcases h2 : decide (1 ≤ ct) with _ | _
  · skip
    have H1 := Lib.hid h2
    rw [show stripB hi fr ct = false from by unfold stripB; rw [h1, show decide (1 ≤ ct ∧ ct ≤ hi - fr) = false from by rw [decide_eq_false_iff_not] at h2 ⊢; omega]; rfl]; clear h1 h2
    have X := Blk.new w #[.int .i64 wd, .int .i64 hi, .bool wb, .slice a xs.length ca, .slice b ys.length cb] 29
    have Q := Blk.new1 w (.cells #[.int .i64 wd, .int .i64 hi, .bool wb, .slice a xs.length ca, .slice b ys.length cb] 29) #[.int .i64 fr, .int .i64 ct] 31
    replace X := X.alloc (.cells #[.int .i64 fr, .int .i64 ct] 31)
    have HB : Hid (Below w.heap.size w ((w.alloc (.cells #[.int .i64 wd, .int .i64 hi, .bool wb, .slice a xs.length ca, .slice b ys.length cb] 29)).alloc (.cells #[.int .i64 fr, .int .i64 ct] 31))) := Lib.hid (((Below.refl w.heap.size w).alloc (by simp <;> omega) _).alloc (by simp <;> omega) _)
    go_enter Try.func16, Try.ntmps16
    go_wp2_with fail
    generalize ((w.alloc (.cells #[.int .i64 wd, .int .i64 hi, .bool wb, .slice a xs.length ca, .slice b ys.length cb] 29)).alloc (.cells #[.int .i64 fr, .int .i64 ct] 31)) = u1 at *
    have ai64 : ∀ w, (isAgg 2).run Try.prog w = .ok false w := fun w => by kernel_rfl
    obtain ⟨Xc, Xf⟩ := X.open; obtain ⟨Qc, Qf⟩ := Q.open
    refine wp_region_noPanic ?_
    refine wp_region_plan (Grows u1) 24 [(0, true), (1, false), (2, true), (3, true), (5, true), (6, true), (4, false), (7, false), (8, true), (9, true), (10, true), (11, true), (12, true), (13, true), (14, true), (15, true), (16, true), (17, true), (18, true), (19, true), (20, true), (21, true), (22, true), (23, true)] (by kernel_rfl) (by kernel_rfl) (fun _ _ _ _ _ h => h) (Grows.drew _) ?_
    (refine plan_load rfl rfl (⟨w.heap.size, 0, none⟩) (by kernel_rfl) (.agg #[.int .i64 wd, .int .i64 hi, .bool wb, .slice a xs.length ca, .slice b ys.length cb]) (fun w' hw' => run_loadVar_row w' _ _ _ _ _ _ (X.later hw') Try.underlying29 rfl (by kernel_rfl)) ?_; simp only [Act.put, List.setIfInBounds_toArray, List.set_cons_zero, List.set_cons_succ, List.getElem_toArray, List.getElem_cons_zero, List.getElem_cons_succ])
    have v0_ := Grows.drew u1
    generalize u1.drew = v0 at *
    refine plan_call rfl rfl 56 #[] #[] rfl _ Try.func56 (by kernel_rfl) (by kernel_rfl) [.agg #[.int .i64 wd, .int .i64 hi, .bool wb, .slice a xs.length ca, .slice b ys.length cb]] (by kernel_rfl) #[.agg #[.int .i64 wd, .int .i64 hi, .bool wb, .slice a xs.length ca, .slice b ys.length cb]] (by simp) _ (HVC.out v0 (HB.out.trans (Below.mono v0_ HB.out.size))) ?_
    rintro e v1 ⟨rfl, b1⟩
    refine ⟨_, rfl, v0_.next b1, ?_⟩
    simp only [Act.put, List.setIfInBounds_toArray, List.set_cons_zero, List.set_cons_succ, List.getElem_toArray, List.getElem_cons_zero, List.getElem_cons_succ]
    have v1_ := v0_.next b1
    (refine plan_plain rfl rfl ?_ ?_ ?_; rotate_left; focus (intro w9; go_simp <;> with_reducible rfl)); (simp only [Act.put, List.setIfInBounds_toArray, List.set_cons_zero, List.set_cons_succ, List.getElem_toArray, List.getElem_cons_zero, List.getElem_cons_succ])
    (refine plan_load rfl rfl (⟨w.heap.size, 0, none⟩) (by kernel_rfl) (.agg #[.int .i64 wd, .int .i64 hi, .bool wb, .slice a xs.length ca, .slice b ys.length cb]) (fun w' hw' => run_loadVar_row w' _ _ _ _ _ _ (X.later hw') Try.underlying29 rfl (by kernel_rfl)) ?_; simp only [Act.put, List.setIfInBounds_toArray, List.set_cons_zero, List.set_cons_succ, List.getElem_toArray, List.getElem_cons_zero, List.getElem_cons_succ])
    (refine plan_plain rfl rfl ?_ ?_ ?_; rotate_left; focus (intro w9; go_simp <;> with_reducible rfl)); (simp only [Act.put, List.setIfInBounds_toArray, List.set_cons_zero, List.set_cons_succ, List.getElem_toArray, List.getElem_cons_zero, List.getElem_cons_succ])
    (refine plan_load rfl rfl (⟨w.heap.size + 1, 0, none⟩) (by kernel_rfl) (.int .i64 fr) (load_cell ai64 (Qc 0)) ?_; simp only [Act.put, List.setIfInBounds_toArray, List.set_cons_zero, List.set_cons_succ, List.getElem_toArray, List.getElem_cons_zero, List.getElem_cons_succ])
    refine plan_call rfl rfl 57 #[] #[] rfl _ Try.func57 (by kernel_rfl) (by kernel_rfl) [.agg #[.int .i64 wd, .int .i64 hi, .bool wb, .slice a xs.length ca, .slice b ys.length cb]] (by kernel_rfl) #[.agg #[.int .i64 wd, .int .i64 hi, .bool wb, .slice a xs.length ca, .slice b ys.length cb]] (by simp) _ (implShapeOf wd hi wb a b xs.length ys.length ca cb v1) ?_
    rintro e v2 ⟨rfl, b2⟩
    refine ⟨_, rfl, v1_.next b2, ?_⟩
    simp only [Act.put, List.setIfInBounds_toArray, List.set_cons_zero, List.set_cons_succ, List.getElem_toArray, List.getElem_cons_zero, List.getElem_cons_succ]
    have v2_ := v1_.next b2
    refine plan_call rfl rfl 58 #[] #[] rfl _ Try.func58 (by kernel_rfl) (by kernel_rfl) [.agg #[.int .i64 wd, .int .i64 hi, .bool wb], .int .i64 fr] (by kernel_rfl) #[.agg #[.int .i64 wd, .int .i64 hi, .bool wb], .int .i64 fr] (by simp) _ (HH.out v2) ?_
    rintro e v3 ⟨rfl, b3⟩
    refine ⟨_, rfl, v2_.next b3, ?_⟩
    simp only [Act.put, List.setIfInBounds_toArray, List.set_cons_zero, List.set_cons_succ, List.getElem_toArray, List.getElem_cons_zero, List.getElem_cons_succ]
    have v3_ := v2_.next b3
    (refine plan_plain rfl rfl ?_ ?_ ?_; rotate_left; focus (intro w9; go_simp <;> with_reducible rfl)); (simp only [Act.put, List.setIfInBounds_toArray, List.set_cons_zero, List.set_cons_succ, List.getElem_toArray, List.getElem_cons_zero, List.getElem_cons_succ])
    (refine plan_plain rfl rfl ?_ ?_ ?_; rotate_left; focus (intro w9; go_simp <;> with_reducible rfl)); (simp only [Act.put, List.setIfInBounds_toArray, List.set_cons_zero, List.set_cons_succ, List.getElem_toArray, List.getElem_cons_zero, List.getElem_cons_succ])
    (refine plan_plain rfl rfl ?_ ?_ ?_; rotate_left; focus (intro w9; go_simp <;> with_reducible rfl)); (simp only [Act.put, List.setIfInBounds_toArray, List.set_cons_zero, List.set_cons_succ, List.getElem_toArray, List.getElem_cons_zero, List.getElem_cons_succ])
    (refine plan_load rfl rfl (⟨w.heap.size + 1, 1, none⟩) (by kernel_rfl) (.int .i64 ct) (load_cell ai64 (Qc 1)) ?_; simp only [Act.put, List.setIfInBounds_toArray, List.set_cons_zero, List.set_cons_succ, List.getElem_toArray, List.getElem_cons_zero, List.getElem_cons_succ])
    (refine plan_plain rfl rfl ?_ ?_ ?_; rotate_left; focus (intro w9; go_simp <;> with_reducible rfl)); (simp only [Act.put, List.setIfInBounds_toArray, List.set_cons_zero, List.set_cons_succ, List.getElem_toArray, List.getElem_cons_zero, List.getElem_cons_succ])
    simp only [H1.out]
    (refine plan_plain rfl rfl ?_ ?_ ?_; rotate_left; focus (intro w9; go_simp <;> with_reducible rfl)); (simp only [Act.put, List.setIfInBounds_toArray, List.set_cons_zero, List.set_cons_succ, List.getElem_toArray, List.getElem_cons_zero, List.getElem_cons_succ])
    (refine plan_plain rfl rfl ?_ ?_ ?_; rotate_left; focus (intro w9; go_simp <;> with_reducible rfl)); (simp only [Act.put, List.setIfInBounds_toArray, List.set_cons_zero, List.set_cons_succ, List.getElem_toArray, List.getElem_cons_zero, List.getElem_cons_succ])
    (refine plan_skip rfl (by kernel_rfl) ?_; simp only [Act.put, List.setIfInBounds_toArray, List.set_cons_zero, List.set_cons_succ, List.getElem_toArray, List.getElem_cons_zero, List.getElem_cons_succ])
    (refine plan_skip rfl (by kernel_rfl) ?_; simp only [Act.put, List.setIfInBounds_toArray, List.set_cons_zero, List.set_cons_succ, List.getElem_toArray, List.getElem_cons_zero, List.getElem_cons_succ])
    (refine plan_skip rfl (by kernel_rfl) ?_; simp only [Act.put, List.setIfInBounds_toArray, List.set_cons_zero, List.set_cons_succ, List.getElem_toArray, List.getElem_cons_zero, List.getElem_cons_succ])
    (refine plan_skip rfl (by kernel_rfl) ?_; simp only [Act.put, List.setIfInBounds_toArray, List.set_cons_zero, List.set_cons_succ, List.getElem_toArray, List.getElem_cons_zero, List.getElem_cons_succ])
    (refine plan_skip rfl (by kernel_rfl) ?_; simp only [Act.put, List.setIfInBounds_toArray, List.set_cons_zero, List.set_cons_succ, List.getElem_toArray, List.getElem_cons_zero, List.getElem_cons_succ])
    (refine plan_skip rfl (by kernel_rfl) ?_; simp only [Act.put, List.setIfInBounds_toArray, List.set_cons_zero, List.set_cons_succ, List.getElem_toArray, List.getElem_cons_zero, List.getElem_cons_succ])
    (refine plan_skip rfl (by kernel_rfl) ?_; simp only [Act.put, List.setIfInBounds_toArray, List.set_cons_zero, List.set_cons_succ, List.getElem_toArray, List.getElem_cons_zero, List.getElem_cons_succ])
    (refine plan_skip rfl (by kernel_rfl) ?_; simp only [Act.put, List.setIfInBounds_toArray, List.set_cons_zero, List.set_cons_succ, List.getElem_toArray, List.getElem_cons_zero, List.getElem_cons_succ])
    (refine plan_plain rfl rfl ?_ ?_ ?_; rotate_left; focus (intro w9; go_simp <;> with_reducible rfl)); (simp only [Act.put, List.setIfInBounds_toArray, List.set_cons_zero, List.set_cons_succ, List.getElem_toArray, List.getElem_cons_zero, List.getElem_cons_succ])
    change wpList _ _ _ _ _ _
    simp only [List.drop_succ_cons, List.drop_zero]
    go_wp2_with fail
    refine NoPanic.normal ?_
    go_wp2
    go_ret
    exact ⟨rfl, HB.out.trans (Below.mono v3_ HB.out.size)⟩
  have H1 := Lib.hid h2
  have H2 : Hid (decide (ct ≤ hi - fr) = stripB hi fr ct) := Lib.hid (by unfold stripB; rw [h1, Bool.true_and, decide_eq_decide]; have := of_decide_eq_true h2; omega)
  have HWR : Hid (IntKind.i64.wrap (hi - fr) = hi - fr) := Lib.hid (IntWalk.i64_in _ (by omega))
  clear h1 h2
  have X := Blk.new w #[.int .i64 wd, .int .i64 hi, .bool wb, .slice a xs.length ca, .slice b ys.length cb] 29
  have Q := Blk.new1 w (.cells #[.int .i64 wd, .int .i64 hi, .bool wb, .slice a xs.length ca, .slice b ys.length cb] 29) #[.int .i64 fr, .int .i64 ct] 31
  replace X := X.alloc (.cells #[.int .i64 fr, .int .i64 ct] 31)
  have HB : Hid (Below w.heap.size w ((w.alloc (.cells #[.int .i64 wd, .int .i64 hi, .bool wb, .slice a xs.length ca, .slice b ys.length cb] 29)).alloc (.cells #[.int .i64 fr, .int .i64 ct] 31))) := Lib.hid (((Below.refl w.heap.size w).alloc (by simp <;> omega) _).alloc (by simp <;> omega) _)
  go_enter Try.func16, Try.ntmps16
  go_wp2_with fail
  generalize ((w.alloc (.cells #[.int .i64 wd, .int .i64 hi, .bool wb, .slice a xs.length ca, .slice b ys.length cb] 29)).alloc (.cells #[.int .i64 fr, .int .i64 ct] 31)) = u1 at *
  have ai64 : ∀ w, (isAgg 2).run Try.prog w = .ok false w := fun w => by kernel_rfl
  obtain ⟨Xc, Xf⟩ := X.open; obtain ⟨Qc, Qf⟩ := Q.open
  refine wp_region_noPanic ?_
  refine wp_region_plan (Grows u1) 24 [(0, true), (1, false), (2, true), (3, true), (5, true), (6, true), (4, false), (7, false), (8, true), (9, true), (10, true), (11, true), (12, true), (13, true), (14, true), (15, true), (16, true), (17, true), (18, true), (19, true), (20, true), (21, true), (22, true), (23, true)] (by kernel_rfl) (by kernel_rfl) (fun _ _ _ _ _ h => h) (Grows.drew _) ?_
  (refine plan_load rfl rfl (⟨w.heap.size, 0, none⟩) (by kernel_rfl) (.agg #[.int .i64 wd, .int .i64 hi, .bool wb, .slice a xs.length ca, .slice b ys.length cb]) (fun w' hw' => run_loadVar_row w' _ _ _ _ _ _ (X.later hw') Try.underlying29 rfl (by kernel_rfl)) ?_; simp only [Act.put, List.setIfInBounds_toArray, List.set_cons_zero, List.set_cons_succ, List.getElem_toArray, List.getElem_cons_zero, List.getElem_cons_succ])
  have v0_ := Grows.drew u1
  generalize u1.drew = v0 at *
  refine plan_call rfl rfl 56 #[] #[] rfl _ Try.func56 (by kernel_rfl) (by kernel_rfl) [.agg #[.int .i64 wd, .int .i64 hi, .bool wb, .slice a xs.length ca, .slice b ys.length cb]] (by kernel_rfl) #[.agg #[.int .i64 wd, .int .i64 hi, .bool wb, .slice a xs.length ca, .slice b ys.length cb]] (by simp) _ (HVC.out v0 (HB.out.trans (Below.mono v0_ HB.out.size))) ?_
  rintro e v1 ⟨rfl, b1⟩
  refine ⟨_, rfl, v0_.next b1, ?_⟩
  simp only [Act.put, List.setIfInBounds_toArray, List.set_cons_zero, List.set_cons_succ, List.getElem_toArray, List.getElem_cons_zero, List.getElem_cons_succ]
  have v1_ := v0_.next b1
  (refine plan_plain rfl rfl ?_ ?_ ?_; rotate_left; focus (intro w9; go_simp <;> with_reducible rfl)); (simp only [Act.put, List.setIfInBounds_toArray, List.set_cons_zero, List.set_cons_succ, List.getElem_toArray, List.getElem_cons_zero, List.getElem_cons_succ])
  (refine plan_load rfl rfl (⟨w.heap.size, 0, none⟩) (by kernel_rfl) (.agg #[.int .i64 wd, .int .i64 hi, .bool wb, .slice a xs.length ca, .slice b ys.length cb]) (fun w' hw' => run_loadVar_row w' _ _ _ _ _ _ (X.later hw') Try.underlying29 rfl (by kernel_rfl)) ?_; simp only [Act.put, List.setIfInBounds_toArray, List.set_cons_zero, List.set_cons_succ, List.getElem_toArray, List.getElem_cons_zero, List.getElem_cons_succ])
  (refine plan_plain rfl rfl ?_ ?_ ?_; rotate_left; focus (intro w9; go_simp <;> with_reducible rfl)); (simp only [Act.put, List.setIfInBounds_toArray, List.set_cons_zero, List.set_cons_succ, List.getElem_toArray, List.getElem_cons_zero, List.getElem_cons_succ])
  (refine plan_load rfl rfl (⟨w.heap.size + 1, 0, none⟩) (by kernel_rfl) (.int .i64 fr) (load_cell ai64 (Qc 0)) ?_; simp only [Act.put, List.setIfInBounds_toArray, List.set_cons_zero, List.set_cons_succ, List.getElem_toArray, List.getElem_cons_zero, List.getElem_cons_succ])
  refine plan_call rfl rfl 57 #[] #[] rfl _ Try.func57 (by kernel_rfl) (by kernel_rfl) [.agg #[.int .i64 wd, .int .i64 hi, .bool wb, .slice a xs.length ca, .slice b ys.length cb]] (by kernel_rfl) #[.agg #[.int .i64 wd, .int .i64 hi, .bool wb, .slice a xs.length ca, .slice b ys.length cb]] (by simp) _ (implShapeOf wd hi wb a b xs.length ys.length ca cb v1) ?_
  rintro e v2 ⟨rfl, b2⟩
  refine ⟨_, rfl, v1_.next b2, ?_⟩
  simp only [Act.put, List.setIfInBounds_toArray, List.set_cons_zero, List.set_cons_succ, List.getElem_toArray, List.getElem_cons_zero, List.getElem_cons_succ]
  have v2_ := v1_.next b2
  refine plan_call rfl rfl 58 #[] #[] rfl _ Try.func58 (by kernel_rfl) (by kernel_rfl) [.agg #[.int .i64 wd, .int .i64 hi, .bool wb], .int .i64 fr] (by kernel_rfl) #[.agg #[.int .i64 wd, .int .i64 hi, .bool wb], .int .i64 fr] (by simp) _ (HH.out v2) ?_
  rintro e v3 ⟨rfl, b3⟩
  refine ⟨_, rfl, v2_.next b3, ?_⟩
  simp only [Act.put, List.setIfInBounds_toArray, List.set_cons_zero, List.set_cons_succ, List.getElem_toArray, List.getElem_cons_zero, List.getElem_cons_succ]
  have v3_ := v2_.next b3
  (refine plan_plain rfl rfl ?_ ?_ ?_; rotate_left; focus (intro w9; go_simp <;> with_reducible rfl)); (simp only [Act.put, List.setIfInBounds_toArray, List.set_cons_zero, List.set_cons_succ, List.getElem_toArray, List.getElem_cons_zero, List.getElem_cons_succ])
  (refine plan_plain rfl rfl ?_ ?_ ?_; rotate_left; focus (intro w9; go_simp <;> with_reducible rfl)); (simp only [Act.put, List.setIfInBounds_toArray, List.set_cons_zero, List.set_cons_succ, List.getElem_toArray, List.getElem_cons_zero, List.getElem_cons_succ])
  (refine plan_plain rfl rfl ?_ ?_ ?_; rotate_left; focus (intro w9; go_simp <;> with_reducible rfl)); (simp only [Act.put, List.setIfInBounds_toArray, List.set_cons_zero, List.set_cons_succ, List.getElem_toArray, List.getElem_cons_zero, List.getElem_cons_succ])
  (refine plan_load rfl rfl (⟨w.heap.size + 1, 1, none⟩) (by kernel_rfl) (.int .i64 ct) (load_cell ai64 (Qc 1)) ?_; simp only [Act.put, List.setIfInBounds_toArray, List.set_cons_zero, List.set_cons_succ, List.getElem_toArray, List.getElem_cons_zero, List.getElem_cons_succ])
  (refine plan_plain rfl rfl ?_ ?_ ?_; rotate_left; focus (intro w9; go_simp <;> with_reducible rfl)); (simp only [Act.put, List.setIfInBounds_toArray, List.set_cons_zero, List.set_cons_succ, List.getElem_toArray, List.getElem_cons_zero, List.getElem_cons_succ])
  simp only [H1.out]
  (refine plan_plain rfl rfl ?_ ?_ ?_; rotate_left; focus (intro w9; go_simp <;> with_reducible rfl)); (simp only [Act.put, List.setIfInBounds_toArray, List.set_cons_zero, List.set_cons_succ, List.getElem_toArray, List.getElem_cons_zero, List.getElem_cons_succ])
  (refine plan_plain rfl rfl ?_ ?_ ?_; rotate_left; focus (intro w9; go_simp <;> with_reducible rfl)); (simp only [Act.put, List.setIfInBounds_toArray, List.set_cons_zero, List.set_cons_succ, List.getElem_toArray, List.getElem_cons_zero, List.getElem_cons_succ])
  (refine plan_plain rfl rfl ?_ ?_ ?_; rotate_left; focus (intro w9; go_simp <;> with_reducible rfl)); (simp only [Act.put, List.setIfInBounds_toArray, List.set_cons_zero, List.set_cons_succ, List.getElem_toArray, List.getElem_cons_zero, List.getElem_cons_succ])
  (refine plan_load rfl rfl (⟨w.heap.size + 1, 1, none⟩) (by kernel_rfl) (.int .i64 ct) (load_cell ai64 (Qc 1)) ?_; simp only [Act.put, List.setIfInBounds_toArray, List.set_cons_zero, List.set_cons_succ, List.getElem_toArray, List.getElem_cons_zero, List.getElem_cons_succ])
  (refine plan_plain rfl rfl ?_ ?_ ?_; rotate_left; focus (intro w9; go_simp <;> with_reducible rfl)); (simp only [Act.put, List.setIfInBounds_toArray, List.set_cons_zero, List.set_cons_succ, List.getElem_toArray, List.getElem_cons_zero, List.getElem_cons_succ])
  (refine plan_load rfl rfl (⟨w.heap.size, 1, none⟩) (by kernel_rfl) (.int .i64 hi) (load_cell ai64 (Xc 1)) ?_; simp only [Act.put, List.setIfInBounds_toArray, List.set_cons_zero, List.set_cons_succ, List.getElem_toArray, List.getElem_cons_zero, List.getElem_cons_succ])
  (refine plan_plain rfl rfl ?_ ?_ ?_; rotate_left; focus (intro w9; go_simp <;> with_reducible rfl)); (simp only [Act.put, List.setIfInBounds_toArray, List.set_cons_zero, List.set_cons_succ, List.getElem_toArray, List.getElem_cons_zero, List.getElem_cons_succ])
  (refine plan_load rfl rfl (⟨w.heap.size + 1, 0, none⟩) (by kernel_rfl) (.int .i64 fr) (load_cell ai64 (Qc 0)) ?_; simp only [Act.put, List.setIfInBounds_toArray, List.set_cons_zero, List.set_cons_succ, List.getElem_toArray, List.getElem_cons_zero, List.getElem_cons_succ])
  (refine plan_plain rfl rfl ?_ ?_ ?_; rotate_left; focus (intro w9; go_simp <;> with_reducible rfl)); (simp only [Act.put, List.setIfInBounds_toArray, List.set_cons_zero, List.set_cons_succ, List.getElem_toArray, List.getElem_cons_zero, List.getElem_cons_succ])
  (refine plan_plain rfl rfl ?_ ?_ ?_; rotate_left; focus (intro w9; go_simp <;> with_reducible rfl)); (simp only [Act.put, List.setIfInBounds_toArray, List.set_cons_zero, List.set_cons_succ, List.getElem_toArray, List.getElem_cons_zero, List.getElem_cons_succ])
  simp only [HWR.out, H2.out]
  (refine plan_plain rfl rfl ?_ ?_ ?_; rotate_left; focus (intro w9; go_simp <;> with_reducible rfl)); (simp only [Act.put, List.setIfInBounds_toArray, List.set_cons_zero, List.set_cons_succ, List.getElem_toArray, List.getElem_cons_zero, List.getElem_cons_succ])
  change wpList _ _ _ _ _ _
  simp only [List.drop_succ_cons, List.drop_zero]
  go_wp2_with fail
  refine NoPanic.normal ?_
  go_wp2
  go_ret
  exact ⟨rfl, HB.out.trans (Below.mono v3_ HB.out.size)⟩

set_option maxHeartbeats 4000000 in
set_option maxRecDepth 100000 in
theorem specL07Is (g gp : Nat) (wd hi : Int) (wb : Bool) (v3 v4 : Value) (fr ct : Int) (w : World) (X : Blk w g #[.int .i64 wd, .int .i64 hi, .bool wb, v3, v4] 29) (Q : Blk w gp #[.int .i64 fr, .int .i64 ct] 31) (s1 : 3 ≤ wd) (s2 : wd ≤ 16) (s3 : 3 ≤ hi) (s4 : hi ≤ 16) :
    Calls Try.prog 54 #[.pointer (some ⟨g, 0, none⟩), .pointer (some ⟨gp, 0, none⟩)] w fun e w' => e = .returned (.bool (stripB hi fr ct)) ∧ ∃ n, w' = w.drewN n := by
  obtain ⟨Xc, Xf⟩ := X.open; obtain ⟨Qc, Qf⟩ := Q.open
  rcases k0 : decide (0 ≤ fr ∧ fr < hi) with _ | _
  · skip
    have HR : Hid (stripB hi fr ct = false) := Lib.hid (by unfold stripB; rw [k0]; rfl)
    have K0 := Lib.hid (show decide (0 ≤ fr ∧ fr ≤ hi - 1) = false from by rw [← k0, decide_eq_decide]; omega)
    clear k0
    go_enter Try.func54, Try.ntmps54
    go_wp2_with fail
    go_quiet ((first | (go_at_call 66; with_reducible exact quietI _ _ _ _ _ _ K0.out)))
    go_wp2
    go_ret
    exact ⟨by rw [HR.out]; rfl, _, rfl⟩
  rcases k1 : decide (1 ≤ ct ∧ ct ≤ hi - fr) with _ | _
  · skip
    have HR : Hid (stripB hi fr ct = false) := Lib.hid (by unfold stripB; rw [k0, k1]; rfl)
    have K0 := Lib.hid (show decide (0 ≤ fr ∧ fr ≤ hi - 1) = true from by rw [← k0, decide_eq_decide]; omega)
    have K1 := Lib.hid k1
    have hf := of_decide_eq_true k0; obtain ⟨f1, f2⟩ := hf
    clear k0 k1
    go_enter Try.func54, Try.ntmps54
    go_wp2_with fail
    go_quiet ((first | (go_at_call 66; with_reducible exact quietI _ _ _ _ _ _ K0.out) | (go_at_call 66; with_reducible exact quietI _ _ _ _ _ _ K1.out)))
    go_wp2
    go_ret
    exact ⟨by rw [HR.out]; rfl, _, rfl⟩
  · skip
    have HR : Hid (stripB hi fr ct = true) := Lib.hid (by unfold stripB; rw [k0, k1]; rfl)
    have K0 := Lib.hid (show decide (0 ≤ fr ∧ fr ≤ hi - 1) = true from by rw [← k0, decide_eq_decide]; omega)
    have K1 := Lib.hid k1
    have hf := of_decide_eq_true k0; obtain ⟨f1, f2⟩ := hf
    clear k0 k1
    go_enter Try.func54, Try.ntmps54
    go_wp2_with fail
    go_quiet ((first | (go_at_call 66; with_reducible exact quietI _ _ _ _ _ _ K0.out) | (go_at_call 66; with_reducible exact quietI _ _ _ _ _ _ K1.out)))
    go_wp2
    go_ret
    exact ⟨by rw [HR.out]; rfl, _, rfl⟩

set_option maxHeartbeats 4000000 in
set_option maxRecDepth 100000 in
theorem specIsStrip (wd hi : Int) (wb : Bool) (a b : Option Addr) (ca cb : Nat) (xs ys : List Nat) (fr ct : Int) (w : World) (ha : RowV w a (fvals xs)) (hb : RowV w b (fvals ys)) (hx : xs.length ≤ maxLen) (hy : ys.length ≤ maxLen) :
    Calls Try.prog 13 #[.agg #[.int .i64 wd, .int .i64 hi, .bool wb, .slice a xs.length ca, .slice b ys.length cb], .agg #[.int .i64 fr, .int .i64 ct]] w fun e w' => e = .returned (.bool (isStripB wd hi xs ys fr ct)) ∧ Below w.heap.size w w' := by
  rcases hv : validB wd hi xs ys with _ | _
  · skip
    have HR : Hid (isStripB wd hi xs ys fr ct = false) := Lib.hid (by unfold isStripB; rw [hv]; rfl)
    have H_v := Lib.hid hv; clear hv
    rw [HR.out]
    have X := Blk.new w #[.int .i64 wd, .int .i64 hi, .bool wb, .slice a xs.length ca, .slice b ys.length cb] 29
    have Q := Blk.new1 w (.cells #[.int .i64 wd, .int .i64 hi, .bool wb, .slice a xs.length ca, .slice b ys.length cb] 29) #[.int .i64 fr, .int .i64 ct] 31
    replace X := X.alloc (.cells #[.int .i64 fr, .int .i64 ct] 31)
    have HB : Hid (Below w.heap.size w ((w.alloc (.cells #[.int .i64 wd, .int .i64 hi, .bool wb, .slice a xs.length ca, .slice b ys.length cb] 29)).alloc (.cells #[.int .i64 fr, .int .i64 ct] 31))) := Lib.hid (((Below.refl w.heap.size w).alloc (by simp <;> omega) _).alloc (by simp <;> omega) _)
    go_enter Try.func13, Try.ntmps13
    go_wp2_with fail
    generalize ((w.alloc (.cells #[.int .i64 wd, .int .i64 hi, .bool wb, .slice a xs.length ca, .slice b ys.length cb] 29)).alloc (.cells #[.int .i64 fr, .int .i64 ct] 31)) = u1 at *
    refine (specIs _ _ _ _ _ _ _ _ _ _ _ X (ha.later HB.out) (hb.later HB.out) hx hy).mono ?_
    rintro r u2 ⟨rfl, nq, hw⟩
    have q : Below u1.heap.size u1 u2 := by rw [hw]; exact below_drewN (Below.refl _ _) _
    clear hw
    replace X := X.later q
    replace Q := Q.later q
    replace HB := Lib.hid (HB.out.trans (q.mono HB.out.size))
    clear q
    rw [H_v.out]
    go_wp2
    go_ret
    exact ⟨rfl, HB.out⟩
  obtain ⟨s1, s2, s3, s4, _, _, _⟩ := valid_parts hv
  have HR : Hid (isStripB wd hi xs ys fr ct = stripB hi fr ct) := Lib.hid (by unfold isStripB; rw [hv]; rfl)
  have H_v := Lib.hid hv; clear hv
  rw [HR.out]
  have X := Blk.new w #[.int .i64 wd, .int .i64 hi, .bool wb, .slice a xs.length ca, .slice b ys.length cb] 29
  have Q := Blk.new1 w (.cells #[.int .i64 wd, .int .i64 hi, .bool wb, .slice a xs.length ca, .slice b ys.length cb] 29) #[.int .i64 fr, .int .i64 ct] 31
  replace X := X.alloc (.cells #[.int .i64 fr, .int .i64 ct] 31)
  have HB : Hid (Below w.heap.size w ((w.alloc (.cells #[.int .i64 wd, .int .i64 hi, .bool wb, .slice a xs.length ca, .slice b ys.length cb] 29)).alloc (.cells #[.int .i64 fr, .int .i64 ct] 31))) := Lib.hid (((Below.refl w.heap.size w).alloc (by simp <;> omega) _).alloc (by simp <;> omega) _)
  go_enter Try.func13, Try.ntmps13
  go_wp2_with fail
  generalize ((w.alloc (.cells #[.int .i64 wd, .int .i64 hi, .bool wb, .slice a xs.length ca, .slice b ys.length cb] 29)).alloc (.cells #[.int .i64 fr, .int .i64 ct] 31)) = u1 at *
  refine (specIs _ _ _ _ _ _ _ _ _ _ _ X (ha.later HB.out) (hb.later HB.out) hx hy).mono ?_
  rintro r u2 ⟨rfl, nq, hw⟩
  have q : Below u1.heap.size u1 u2 := by rw [hw]; exact below_drewN (Below.refl _ _) _
  clear hw
  replace X := X.later q
  replace Q := Q.later q
  replace HB := Lib.hid (HB.out.trans (q.mono HB.out.size))
  clear q
  rw [H_v.out]
  go_wp2_with fail
  refine (specL07Is _ _ wd hi wb _ _ fr ct _ X Q s1 s2 s3 s4).mono ?_
  rintro r u3 ⟨rfl, nq, hw⟩
  have q : Below u2.heap.size u2 u3 := by rw [hw]; exact below_drewN (Below.refl _ _) _
  clear hw
  replace X := X.later q
  replace Q := Q.later q
  replace HB := Lib.hid (HB.out.trans (q.mono HB.out.size))
  clear q
  go_wp2
  go_ret
  exact ⟨rfl, HB.out⟩

theorem toStrip_any (fr ct : Int) (w : World) : Calls Try.prog 15 #[.agg #[.int .i64 fr, .int .i64 ct]] w fun e w' => e = .returned (.agg #[.int .i64 fr, .int .i64 ct]) ∧ Below w.heap.size w w' := by
  go_enter Try.func15, Try.ntmps15
  go_wp2
  refine bodyPost_ret (v := .agg #[.int .i64 fr, .int .i64 ct]) (by simp [results, Try.results15, go_sem]) rfl ⟨rfl, ?_⟩
  exact ((((Below.refl w.heap.size w).alloc (Nat.le_refl _) _).alloc (by simp) _).alloc (by simp <;> omega) _)

end Go.Proofs.Ytedfbaeajofmnaa
