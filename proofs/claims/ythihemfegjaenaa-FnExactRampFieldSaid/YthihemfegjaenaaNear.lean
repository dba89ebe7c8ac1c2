/- Cells near the edges, parts of a width, and what losses and values become there: the program's functions. Conditions: none beyond those of each theorem. -/
import Derived.Test.YthihemfegjaenaaDepth
import Derived.Test.YthihemfegjaenaaPlan
import Derived.Test.YthihemfegjaenaaBu15
import Derived.Test.YthihemfegjaenaaCost
namespace Go.Proofs.Ythihemfegjaenaa
open Go Ieee Go.RowKit
set_option linter.unusedVariables false

theorem implNear (wd hi wi : Int) (wb : Bool) (w : World) : Calls Try.prog 74 #[.agg #[.int .i64 wd, .int .i64 hi, .bool wb], .int .i64 wi] w fun e w' => ∃ gh gw, e = .returned (.func (.func 115) #[] #[.pointer (some ⟨gh, 0, none⟩), .pointer (some ⟨gw, 0, none⟩)]) ∧ Blk w' gh #[.int .i64 wd, .int .i64 hi, .bool wb] 78 ∧ Blk w' gw #[.int .i64 wi] 2 ∧ w.heap.size ≤ gh ∧ w.heap.size ≤ gw ∧ Below w.heap.size w w' := by
  have B := (Blk.new w #[.int .i64 wd, .int .i64 hi, .bool wb] 78).alloc (.cells #[.int .i64 wi] 2)
  have C := Blk.new1 w (.cells #[.int .i64 wd, .int .i64 hi, .bool wb] 78) #[.int .i64 wi] 2
  have HB : Hid (Below w.heap.size w ((w.alloc (.cells #[.int .i64 wd, .int .i64 hi, .bool wb] 78)).alloc (.cells #[.int .i64 wi] 2))) := Lib.hid (((Below.refl w.heap.size w).alloc (Nat.le_refl _) _).alloc (by simp) _)
  go_enter Try.func74, Try.ntmps74
  go_wp2
  go_ret
  exact ⟨_, _, rfl, B, C, Nat.le_refl _, by omega, HB.out⟩

/-- which part of a width some cells are -/
def partC (wi c : Int) : Option Nat := fop .quo .f32 (canon .f32 (mk c)) (canon .f32 (mk wi))

theorem implPart (wi c : Int) (w : World) : Calls Try.prog 69 #[.int .i64 wi, .int .i64 c] w fun e w' => ∃ v, e = .returned (.float .f32 v) ∧ canon .f32 v = partC wi c ∧ v < 2 ^ 32 ∧ Below w.heap.size w w' := by
  go_enter Try.func69, Try.ntmps69
  go_wp2_with (refine wpList_arith rfl _ _ _ _ _ rfl rfl .f32 _ _ rfl rfl ?_; intro v q hc hv; have HC := Lib.hid hc; clear hc)
  go_ret
  exact ⟨v, rfl, HC.out, hv, below_drewN (Below.refl _ _) _⟩

set_option maxHeartbeats 4000000 in
set_option maxRecDepth 100000 in
theorem implNear1 (gh gw : Nat) (wd hi wi x y : Int) (wb : Bool) (w : World) (H : Blk w gh #[.int .i64 wd, .int .i64 hi, .bool wb] 78) (W : Blk w gw #[.int .i64 wi] 2) (s1 : 3 ≤ wd) (s2 : wd ≤ 16) (s3 : 3 ≤ hi) (s4 : hi ≤ 16) (x0 : 0 ≤ x) (x1 : x < wd) (y0 : 0 ≤ y) (y1 : y < hi) :
    Calls Try.prog 115 #[.agg #[.int .i64 x, .int .i64 y], .pointer (some ⟨gh, 0, none⟩), .pointer (some ⟨gw, 0, none⟩)] w fun e w' => e = .returned (.bool (decide (depI wd hi x y < wi))) ∧ Below w.heap.size w w' := by
  have ai64 : ∀ w, (isAgg 2).run Try.prog w = .ok false w := fun w => by kernel_rfl
  have C := Blk.new w #[.int .i64 x, .int .i64 y] 81
  have HB : Hid (Below w.heap.size w (w.alloc (.cells #[.int .i64 x, .int .i64 y] 81))) := Lib.hid ((Below.refl w.heap.size w).alloc (by simp <;> omega) _)
  go_enter Try.func115, Try.ntmps115
  go_wp2_with fail
  generalize (w.alloc (.cells #[.int .i64 x, .int .i64 y] 81)) = u1 at *
  replace H := H.later HB.out; replace W := W.later HB.out
  obtain ⟨Wc, Wf⟩ := W.open
  have HD : Hid (depI wd hi x y = depI wd hi x y) := Lib.hid rfl
  generalize hd : depI wd hi x y = d at *
  have HDD := Lib.hid hd; clear hd HD
  refine wp_region_relC (Grows u1) (fun _ _ v => v = .int .i64 d) (by kernel_rfl) (by kernel_rfl) (Grows.drew _) ?_
  (refine wpRel_load rfl _ rfl (_) (fun w' hw' => run_loadVar_row w' _ _ _ _ _ _ (H.later hw') Try.underlying78 rfl (by kernel_rfl)) ?_; simp only [Act.put, List.setIfInBounds_toArray, List.set_cons_zero, List.set_cons_succ])
  (refine wpRel_load rfl _ rfl (_) (fun w' hw' => run_loadVar_row w' _ _ _ _ _ _ (C.later hw') Try.underlying81 rfl (by kernel_rfl)) ?_; simp only [Act.put, List.setIfInBounds_toArray, List.set_cons_zero, List.set_cons_succ])
  (refine wpRel_callC rfl 70 _ rfl Try.func70 (by kernel_rfl) (by kernel_rfl) [.agg #[.int .i64 wd, .int .i64 hi, .bool wb], .agg #[.int .i64 x, .int .i64 y]] rfl (fun w' hw' => (implDepth wd hi x y wb w' s1 s2 s3 s4 x0 x1 y0 y1).mono (by rintro e w'' ⟨rfl, q9⟩; exact ⟨_, rfl, congrArg (Value.int .i64) HDD.out, hw'.next q9⟩)) ?_; intro v hv; obtain rfl := hv; simp only [Act.put, List.setIfInBounds_toArray, List.set_cons_zero, List.set_cons_succ])
  (refine wpRel_load rfl _ rfl (.int .i64 wi) (load_cell ai64 (Wc 0)) ?_; simp only [Act.put, List.setIfInBounds_toArray, List.set_cons_zero, List.set_cons_succ])
  (refine wpRel_plain rfl rfl ?_; intro K hK; go_big_quiet_op; (first | go_big_quiet_on | (refine ⟨_, fun _ _ => rfl, ?_⟩; go_big_quiet_on)))
  (refine wpRel_plain rfl rfl ?_; intro K hK; go_big_quiet_op; (first | go_big_quiet_on | (refine ⟨_, fun _ _ => rfl, ?_⟩; go_big_quiet_on)))
  refine wpRel_nil ?_
  intro u3 hw'
  replace hw' : Below u1.heap.size u1 u3 := hw'
  go_wp2
  go_ret
  exact ⟨by rw [HDD.out]; rfl, HB.out.trans (hw'.mono HB.out.size)⟩

def gradeS (S : Option Nat) : Option Nat := if ford .f32 S (some 1065353216) = some .gt then some 1065353216 else S
/-- what a loss becomes -/
def gradeC (lo mo : Nat) (wi d : Int) : Option Nat := gradeS (fop .add .f32 (canon .f32 lo) (fop .mul .f32 (canon .f32 mo) (fop .mul .f32 (partC wi (wi - d)) (partC wi (wi - d)))))

/-- what the calls of a region of floats answer: a depth, a part of a width, a product -/
def SpFl (D : Int) (wi c : Int) (f : FuncId) (args : Array Value) (v : Value) : Prop :=
  if f = 70 then v = .int .i64 D else if f = 69 then ∃ z, v = .float .f32 z ∧ canon .f32 z = partC wi c ∧ z < 2 ^ 32 else ∃ a b z, args = #[.float .f32 a, .float .f32 b] ∧ v = .float .f32 z ∧ canon .f32 z = fop .mul .f32 (canon .f32 a) (canon .f32 b) ∧ z < 2 ^ 32

theorem spDep {D wi c : Int} {args : Array Value} {v : Value} (h : SpFl D wi c 70 args v) : v = .int .i64 D := by
  unfold SpFl at h; rwa [if_pos rfl] at h
theorem spPart {D wi c : Int} {args : Array Value} {v : Value} (h : SpFl D wi c 69 args v) : ∃ z, v = .float .f32 z ∧ canon .f32 z = partC wi c ∧ z < 2 ^ 32 := by
  unfold SpFl at h; rwa [if_neg (by decide), if_pos rfl] at h
theorem spMul {D wi c : Int} {a b : Nat} {v : Value} (h : SpFl D wi c 71 #[.float .f32 a, .float .f32 b] v) : ∃ z, v = .float .f32 z ∧ canon .f32 z = fop .mul .f32 (canon .f32 a) (canon .f32 b) ∧ z < 2 ^ 32 := by
  unfold SpFl at h; rw [if_neg (by decide), if_neg (by decide)] at h
  obtain ⟨a', b', z, h1, h2, h3, h4⟩ := h
  simp at h1
  obtain ⟨rfl, rfl⟩ := h1
  exact ⟨z, h2, h3, h4⟩
theorem toDep {D wi c : Int} {args : Array Value} : SpFl D wi c 70 args (.int .i64 D) := by unfold SpFl; rw [if_pos rfl]
theorem toPart {D wi c : Int} {args : Array Value} {z : Nat} (h : canon .f32 z = partC wi c) (hz : z < 2 ^ 32) : SpFl D wi c 69 args (.float .f32 z) := by unfold SpFl; rw [if_neg (by decide), if_pos rfl]; exact ⟨z, rfl, h, hz⟩
theorem toMul {D wi c : Int} {a b z : Nat} (h : canon .f32 z = fop .mul .f32 (canon .f32 a) (canon .f32 b)) (hz : z < 2 ^ 32) : SpFl D wi c 71 #[.float .f32 a, .float .f32 b] (.float .f32 z) := by unfold SpFl; rw [if_neg (by decide), if_neg (by decide)]; exact ⟨a, b, z, rfl, rfl, h, hz⟩

theorem mulB (x y : Nat) (w : World) : Calls Try.prog 71 #[.float .f32 x, .float .f32 y] w fun e w' => ∃ v, e = .returned (.float .f32 v) ∧ canon .f32 v = fop .mul .f32 (canon .f32 x) (canon .f32 y) ∧ v < 2 ^ 32 ∧ Below w.heap.size w w' :=
  (mulN x y w).mono fun e w' ⟨v, n, h1, h2, h3, h4⟩ => ⟨v, h1, h3, h4, by rw [h2]; exact below_drewN (Below.refl _ _) _⟩

set_option maxHeartbeats 4000000 in
set_option maxRecDepth 100000 in
theorem implRamp1 (gw gh e : Nat) (wd hi wi x y : Int) (wb : Bool) (w : World) (H : Blk w gh #[.int .i64 wd, .int .i64 hi, .bool wb] 78) (W : Blk w gw #[.int .i64 wi] 2) (s1 : 3 ≤ wd) (s2 : wd ≤ 16) (s3 : 3 ≤ hi) (s4 : hi ≤ 16) (x0 : 0 ≤ x) (x1 : x < wd) (y0 : 0 ≤ y) (y1 : y < hi) :
    Calls Try.prog 79 #[.agg #[.int .i64 x, .int .i64 y], .float .f32 e, .pointer (some ⟨gw, 0, none⟩), .pointer (some ⟨gh, 0, none⟩)] w fun r w' => ∃ v, r = .returned (.float .f32 v) ∧ canon .f32 v = fop .mul .f32 (canon .f32 e) (partC wi (depI wd hi x y)) ∧ v < 2 ^ 32 ∧ Below w.heap.size w w' := by
  have ai64 : ∀ w, (isAgg 2).run Try.prog w = .ok false w := fun w => by kernel_rfl
  have C := Blk.new w #[.int .i64 x, .int .i64 y] 81
  have HB : Hid (Below w.heap.size w (w.alloc (.cells #[.int .i64 x, .int .i64 y] 81))) := Lib.hid ((Below.refl w.heap.size w).alloc (by simp <;> omega) _)
  go_enter Try.func79, Try.ntmps79
  go_wp2_with fail
  generalize (w.alloc (.cells #[.int .i64 x, .int .i64 y] 81)) = u1 at *
  replace H := H.later HB.out; replace W := W.later HB.out
  obtain ⟨Wc, Wf⟩ := W.open
  generalize hd : depI wd hi x y = d at *
  have HDD := Lib.hid hd; clear hd
  refine wp_region_relC (Grows u1) (SpFl d wi d) (by kernel_rfl) (by kernel_rfl) (Grows.drew _) ?_
  (refine wpRel_plain rfl rfl ?_; intro K hK; go_big_quiet_op; (first | go_big_quiet_on | (refine ⟨_, fun _ _ => rfl, ?_⟩; go_big_quiet_on)))
  (refine wpRel_load rfl _ rfl (.int .i64 wi) (load_cell ai64 (Wc 0)) ?_; simp only [Act.put, List.setIfInBounds_toArray, List.set_cons_zero, List.set_cons_succ])
  (refine wpRel_load rfl _ rfl (_) (fun w' hw' => run_loadVar_row w' _ _ _ _ _ _ (H.later hw') Try.underlying78 rfl (by kernel_rfl)) ?_; simp only [Act.put, List.setIfInBounds_toArray, List.set_cons_zero, List.set_cons_succ])
  (refine wpRel_load rfl _ rfl (_) (fun w' hw' => run_loadVar_row w' _ _ _ _ _ _ (C.later hw') Try.underlying81 rfl (by kernel_rfl)) ?_; simp only [Act.put, List.setIfInBounds_toArray, List.set_cons_zero, List.set_cons_succ])
  (refine wpRel_callC rfl 70 _ rfl Try.func70 (by kernel_rfl) (by kernel_rfl) [.agg #[.int .i64 wd, .int .i64 hi, .bool wb], .agg #[.int .i64 x, .int .i64 y]] rfl (fun w' hw' => (implDepth wd hi x y wb w' s1 s2 s3 s4 x0 x1 y0 y1).mono (by rintro e w'' ⟨rfl, q9⟩; exact ⟨_, rfl, by rw [HDD.out]; exact toDep, hw'.next q9⟩)) ?_; intro v hv; obtain rfl := spDep hv; simp only [Act.put, List.setIfInBounds_toArray, List.set_cons_zero, List.set_cons_succ])
  (refine wpRel_callC rfl 69 _ rfl Try.func69 (by kernel_rfl) (by kernel_rfl) [.int .i64 wi, .int .i64 d] rfl (fun w' hw' => (implPart wi d w').mono (by rintro e w'' ⟨z, rfl, hz, hzl, q9⟩; exact ⟨_, rfl, toPart hz hzl, hw'.next q9⟩)) ?_; intro v hv; obtain ⟨g, rfl, hg, hgl⟩ := spPart hv; have HG := Lib.hid hg; clear hg hv; simp only [Act.put, List.setIfInBounds_toArray, List.set_cons_zero, List.set_cons_succ])
  (refine wpRel_callC rfl 71 _ rfl Try.func71 (by kernel_rfl) (by kernel_rfl) [.float .f32 e, .float .f32 g] rfl (fun w' hw' => (mulB e g w').mono (by rintro e w'' ⟨z, rfl, hz, hzl, q9⟩; exact ⟨_, rfl, toMul hz hzl, hw'.next q9⟩)) ?_; intro v hv; obtain ⟨z, rfl, hc_z, hb_z⟩ := spMul hv; have H_z := Lib.hid hc_z; clear hc_z hv; simp only [Act.put, List.setIfInBounds_toArray, List.set_cons_zero, List.set_cons_succ])
  (refine wpRel_plain rfl rfl ?_; intro K hK; go_big_quiet_op; (first | go_big_quiet_on | (refine ⟨_, fun _ _ => rfl, ?_⟩; go_big_quiet_on)))
  refine wpRel_nil ?_
  intro u3 hw'
  replace hw' : Below u1.heap.size u1 u3 := hw'
  go_wp2
  go_ret
  exact ⟨z, rfl, by rw [HDD.out, H_z.out, HG.out], hb_z, HB.out.trans (hw'.mono HB.out.size)⟩

end Go.Proofs.Ythihemfegjaenaa
