/- Rects of a sheet: the program's test and the model's. Conditions: none beyond those of each theorem. -/
import Derived.Test.YthlkndjllhdppaaCost
import Derived.Test.YthlkndjllhdppaaBu5
import Derived.Test.YthlkndjllhdppaaBu14
import Derived.Test.YthlkndjllhdppaaCallV
import Derived.Laws.StructEq
namespace Go.Proofs.Ythlkndjllhdppaa
open Go Ieee Go.RowKit
set_option linter.unusedVariables false

def clI (n lo hi : Int) : Int := if hi < (if n < lo then lo else n) then hi else (if n < lo then lo else n)
def rectB (wd hi rx ry rw rh : Int) : Bool := cellB wd hi rx ry && (decide (1 ≤ rw ∧ rw ≤ wd - rx) && decide (1 ≤ rh ∧ rh ≤ hi - ry))
def isRectB (wd hi : Int) (xs ys : List Nat) (rx ry rw rh : Int) : Bool := validB wd hi xs ys && rectB wd hi rx ry rw rh
/-- a cell is one of a rect -/
def hasR (rx ry rw rh x y : Int) : Bool := decide (rx ≤ x ∧ x < rx + rw) && decide (ry ≤ y ∧ y < ry + rh)

theorem rect_in {wd hi rx ry rw rh : Int} (h : rectB wd hi rx ry rw rh = true) : 0 ≤ rx ∧ 0 ≤ ry ∧ 1 ≤ rw ∧ rw ≤ wd - rx ∧ 1 ≤ rh ∧ rh ≤ hi - ry := by
  unfold rectB cellB at h
  simp only [Bool.and_eq_true, decide_eq_true_eq] at h
  omega

theorem clamp_eq {wd hi rx ry rw rh : Int} (s1 : 3 ≤ wd) (s3 : 3 ≤ hi) : ((rx == clI rx 0 (wd - 1)) && ((ry == clI ry 0 (hi - 1)) && ((rw == clI rw 1 (wd - clI rx 0 (wd - 1))) && (rh == clI rh 1 (hi - clI ry 0 (hi - 1)))))) = rectB wd hi rx ry rw rh := by
  have b : ∀ a c : Int, (a == c) = decide (a = c) := fun a c => by by_cases h : a = c <;> simp [h]
  unfold rectB cellB
  simp only [b, ← Bool.decide_and, decide_eq_decide]
  have hx : rx = clI rx 0 (wd - 1) ↔ (0 ≤ rx ∧ rx ≤ wd - 1) := (by unfold clI; (repeat' split) <;> omega)
  have hy : ry = clI ry 0 (hi - 1) ↔ (0 ≤ ry ∧ ry ≤ hi - 1) := (by unfold clI; (repeat' split) <;> omega)
  have cx : 0 ≤ clI rx 0 (wd - 1) ∧ clI rx 0 (wd - 1) ≤ wd - 1 := (by unfold clI; (repeat' split) <;> omega)
  have cy : 0 ≤ clI ry 0 (hi - 1) ∧ clI ry 0 (hi - 1) ≤ hi - 1 := (by unfold clI; (repeat' split) <;> omega)
  generalize clI rx 0 (wd - 1) = p at *
  generalize clI ry 0 (hi - 1) = q at *
  have hw : rw = clI rw 1 (wd - p) ↔ (1 ≤ rw ∧ rw ≤ wd - p) := (by unfold clI; (repeat' split) <;> omega)
  have hh : rh = clI rh 1 (hi - q) ↔ (1 ≤ rh ∧ rh ≤ hi - q) := (by unfold clI; (repeat' split) <;> omega)
  omega

theorem run_eql_rect (w : World) (a b c d a2 b2 c2 d2 : Int) (v : Bool) (h : ((a == a2) && ((b == b2) && ((c == c2) && (d == d2)))) = v) : (binOp .eql 39 (.agg #[.int .i64 a, .int .i64 b, .int .i64 c, .int .i64 d]) (.agg #[.int .i64 a2, .int .i64 b2, .int .i64 c2, .int .i64 d2])).run Try.prog w = .ok (.bool v) w := by
  have u3 := Try.underlying2
  have a3 := Try.isAgg2
  have z3 := Try.sizeOf2
  have hS : Try.prog.underlying 39 = some (.struct (Try.prog.fieldsOf 39)) := by kernel_rfl
  have hp : Try.prog.stoodInHeld 39 = false := by kernel_rfl
  rw [run_eql_struct, show (10000 : Nat) = 9999 + 1 from rfl, run_equalIn_agg w 9999 39 _ _ hS hp, ← h]
  clear h
  simp only [Program.fieldsOf, Try.underlying39]
  go_simp
  by_cases h1 : a = a2 <;> by_cases h2 : b = b2 <;> by_cases h3 : c = c2 <;> by_cases h4 : d = d2 <;> simp [h1, h2, h3, h4]

theorem implClamp (n lo hi : Int) (w : World) : Calls Try.prog 121 #[.int .i64 n, .int .i64 lo, .int .i64 hi] w fun e w' => e = .returned (.int .i64 (clI n lo hi)) ∧ Below w.heap.size w w' := by
  by_cases h1 : n < lo
  · by_cases h2 : hi < lo
    · have HV2 : Hid (clI n lo hi = hi) := Lib.hid (by unfold clI; rw [if_pos h1, if_pos h2])
      go_enter Try.func121, Try.ntmps121
      go_wp2
      go_ret
      exact ⟨by rw [HV2.out]; rfl, Below.refl _ _⟩
    · have HV2 : Hid (clI n lo hi = lo) := Lib.hid (by unfold clI; rw [if_pos h1, if_neg h2])
      go_enter Try.func121, Try.ntmps121
      go_wp2
      go_ret
      exact ⟨by rw [HV2.out]; rfl, Below.refl _ _⟩
  · by_cases h2 : hi < n
    · have HV2 : Hid (clI n lo hi = hi) := Lib.hid (by unfold clI; rw [if_neg h1, if_pos h2])
      go_enter Try.func121, Try.ntmps121
      go_wp2
      go_ret
      exact ⟨by rw [HV2.out]; rfl, Below.refl _ _⟩
    · have HV2 : Hid (clI n lo hi = n) := Lib.hid (by unfold clI; rw [if_neg h1, if_neg h2])
      go_enter Try.func121, Try.ntmps121
      go_wp2
      go_ret
      exact ⟨by rw [HV2.out]; rfl, Below.refl _ _⟩

def SpCl (f : FuncId) (args : Array Value) (v : Value) : Prop := ∃ a b c, args = #[.int .i64 a, .int .i64 b, .int .i64 c] ∧ v = .int .i64 (clI a b c)
theorem spCl {f : FuncId} {a b c : Int} {v : Value} (h : SpCl f #[.int .i64 a, .int .i64 b, .int .i64 c] v) : v = .int .i64 (clI a b c) := by
  obtain ⟨a', b', c', h1, h2⟩ := h
  simp at h1
  obtain ⟨rfl, rfl, rfl⟩ := h1
  exact h2
theorem toCl {f : FuncId} {a b c : Int} : SpCl f #[.int .i64 a, .int .i64 b, .int .i64 c] (.int .i64 (clI a b c)) := ⟨a, b, c, rfl, rfl⟩
theorem cl_in {n lo hi : Int} (h : lo ≤ hi) : lo ≤ clI n lo hi ∧ clI n lo hi ≤ hi := by
  unfold clI; (repeat' split) <;> omega

set_option maxHeartbeats 4000000 in
set_option maxRecDepth 100000 in
theorem implClamped (rx ry rw rh : Int) (wd hi : Int) (wb : Bool) (w : World) (s1 : 3 ≤ wd) (s2 : wd ≤ 16) (s3 : 3 ≤ hi) (s4 : hi ≤ 16) :
    Calls Try.prog 73 #[.agg #[.int .i64 rx, .int .i64 ry, .int .i64 rw, .int .i64 rh], .agg #[.int .i64 wd, .int .i64 hi, .bool wb]] w fun e w' => e = .returned (.agg #[.int .i64 (clI rx 0 (wd - 1)), .int .i64 (clI ry 0 (hi - 1)), .int .i64 (clI rw 1 (wd - (clI rx 0 (wd - 1)))), .int .i64 (clI rh 1 (hi - (clI ry 0 (hi - 1))))]) ∧ Below w.heap.size w w' := by
  have Q := Blk.new w #[.int .i64 rx, .int .i64 ry, .int .i64 rw, .int .i64 rh] 39
  have H := Blk.new1 w (.cells #[.int .i64 rx, .int .i64 ry, .int .i64 rw, .int .i64 rh] 39) #[.int .i64 wd, .int .i64 hi, .bool wb] 82
  replace Q := Q.alloc (.cells #[.int .i64 wd, .int .i64 hi, .bool wb] 82)
  have R := Blk.new2 w (.cells #[.int .i64 rx, .int .i64 ry, .int .i64 rw, .int .i64 rh] 39) (.cells #[.int .i64 wd, .int .i64 hi, .bool wb] 82) #[.int .i64 0, .int .i64 0, .int .i64 0, .int .i64 0] 39
  replace Q := Q.alloc (.cells #[.int .i64 0, .int .i64 0, .int .i64 0, .int .i64 0] 39)
  replace H := H.alloc (.cells #[.int .i64 0, .int .i64 0, .int .i64 0, .int .i64 0] 39)
  have HB : Hid (Below w.heap.size w (((w.alloc (.cells #[.int .i64 rx, .int .i64 ry, .int .i64 rw, .int .i64 rh] 39)).alloc (.cells #[.int .i64 wd, .int .i64 hi, .bool wb] 82)).alloc (.cells #[.int .i64 0, .int .i64 0, .int .i64 0, .int .i64 0] 39))) := Lib.hid ((((Below.refl w.heap.size w).alloc (by simp <;> omega) _).alloc (by simp <;> omega) _).alloc (by simp <;> omega) _)
  go_enter Try.func73, Try.ntmps73
  go_wp2_with fail
  generalize (((w.alloc (.cells #[.int .i64 rx, .int .i64 ry, .int .i64 rw, .int .i64 rh] 39)).alloc (.cells #[.int .i64 wd, .int .i64 hi, .bool wb] 82)).alloc (.cells #[.int .i64 0, .int .i64 0, .int .i64 0, .int .i64 0] 39)) = u1 at *
  have ai64 : ∀ w, (isAgg 2).run Try.prog w = .ok false w := fun w => by kernel_rfl
  have HPX := Lib.hid (cl_in (n := rx) (show 0 ≤ wd - 1 by omega)); have HPY := Lib.hid (cl_in (n := ry) (show 0 ≤ hi - 1 by omega))
  obtain ⟨Qc, Qf⟩ := Q.open; obtain ⟨Hc, Hf⟩ := H.open
  refine wp_region_relC (Grows u1) (SpCl) (by kernel_rfl) (by kernel_rfl) (Grows.drew _) ?_
  (refine wpRel_plain rfl rfl ?_; intro K hK; go_big_quiet_op; (first | go_big_quiet_on | (refine ⟨_, fun _ _ => rfl, ?_⟩; go_big_quiet_on)))
  (refine wpRel_load rfl _ rfl (.int .i64 rx) (load_cell ai64 (Qc 0)) ?_; simp only [Act.put, List.setIfInBounds_toArray, List.set_cons_zero, List.set_cons_succ])
  (refine wpRel_plain rfl rfl ?_; intro K hK; go_big_quiet_op; (first | go_big_quiet_on | (refine ⟨_, fun _ _ => rfl, ?_⟩; go_big_quiet_on)))
  (refine wpRel_load rfl _ rfl (.int .i64 wd) (load_cell ai64 (Hc 0)) ?_; simp only [Act.put, List.setIfInBounds_toArray, List.set_cons_zero, List.set_cons_succ])
  (refine wpRel_plain rfl rfl ?_; intro K hK; go_big_quiet_op; (first | go_big_quiet_on | (refine ⟨_, fun _ _ => rfl, ?_⟩; go_big_quiet_on)))
  (refine wpRel_callC rfl 121 _ rfl Try.func121 (by kernel_rfl) (by kernel_rfl) [.int .i64 rx, .int .i64 0, .int .i64 (wd - 1)] rfl (fun w' hw' => (implClamp rx 0 (wd - 1) w').mono (by rintro e w'' ⟨rfl, q9⟩; exact ⟨_, rfl, toCl, hw'.next q9⟩)) ?_; intro v hv; obtain rfl := spCl hv; clear hv; simp only [Act.put, List.setIfInBounds_toArray, List.set_cons_zero, List.set_cons_succ])
  (refine wpRel_plain rfl rfl ?_; intro K hK; go_big_quiet_op; (first | go_big_quiet_on | (refine ⟨_, fun _ _ => rfl, ?_⟩; go_big_quiet_on)))
  (refine wpRel_load rfl _ rfl (.int .i64 ry) (load_cell ai64 (Qc 1)) ?_; simp only [Act.put, List.setIfInBounds_toArray, List.set_cons_zero, List.set_cons_succ])
  (refine wpRel_plain rfl rfl ?_; intro K hK; go_big_quiet_op; (first | go_big_quiet_on | (refine ⟨_, fun _ _ => rfl, ?_⟩; go_big_quiet_on)))
  (refine wpRel_load rfl _ rfl (.int .i64 hi) (load_cell ai64 (Hc 1)) ?_; simp only [Act.put, List.setIfInBounds_toArray, List.set_cons_zero, List.set_cons_succ])
  (refine wpRel_plain rfl rfl ?_; intro K hK; go_big_quiet_op; (first | go_big_quiet_on | (refine ⟨_, fun _ _ => rfl, ?_⟩; go_big_quiet_on)))
  (refine wpRel_callC rfl 121 _ rfl Try.func121 (by kernel_rfl) (by kernel_rfl) [.int .i64 ry, .int .i64 0, .int .i64 (hi - 1)] rfl (fun w' hw' => (implClamp ry 0 (hi - 1) w').mono (by rintro e w'' ⟨rfl, q9⟩; exact ⟨_, rfl, toCl, hw'.next q9⟩)) ?_; intro v hv; obtain rfl := spCl hv; clear hv; simp only [Act.put, List.setIfInBounds_toArray, List.set_cons_zero, List.set_cons_succ])
  (refine wpRel_plain rfl rfl ?_; intro K hK; go_big_quiet_op; (first | go_big_quiet_on | (refine ⟨_, fun _ _ => rfl, ?_⟩; go_big_quiet_on)))
  (refine wpRel_plain rfl rfl ?_; intro K hK; go_big_quiet_op; (first | go_big_quiet_on | (refine ⟨_, fun _ _ => rfl, ?_⟩; go_big_quiet_on)))
  refine wpRel_nil ?_
  intro u2 hw'
  replace hw' : Below u1.heap.size u1 u2 := hw'
  replace Q := Q.later hw'; replace H := H.later hw'; replace R := R.later hw'; replace HB := Lib.hid (HB.out.trans (hw'.mono HB.out.size)); clear hw' Qc Qf Hc Hf
  generalize hp : clI rx 0 (wd - 1) = p at *
  generalize hq : clI ry 0 (hi - 1) = q at *
  obtain ⟨p0, p1⟩ := HPX.out; obtain ⟨q0, q1⟩ := HPY.out
  have HP := Lib.hid hp; have HQ := Lib.hid hq; clear hp hq
  obtain ⟨Qc, Qf⟩ := Q.open; obtain ⟨Hc, Hf⟩ := H.open
  go_wp2_with fail
  refine wp_region_rel_tail (Grows u2) (SpCl) 17 (by kernel_rfl) (by kernel_rfl) (Grows.drew _) ?_
  simp only [List.take_succ_cons, List.take_zero, List.drop_succ_cons, List.drop_zero]
  (refine wpRel_plain rfl rfl ?_; intro K hK; go_big_quiet_op; (first | go_big_quiet_on | (refine ⟨_, fun _ _ => rfl, ?_⟩; go_big_quiet_on)))
  (refine wpRel_plain rfl rfl ?_; intro K hK; go_big_quiet_op; (first | go_big_quiet_on | (refine ⟨_, fun _ _ => rfl, ?_⟩; go_big_quiet_on)))
  (refine wpRel_plain rfl rfl ?_; intro K hK; go_big_quiet_op; (first | go_big_quiet_on | (refine ⟨_, fun _ _ => rfl, ?_⟩; go_big_quiet_on)))
  (refine wpRel_load rfl _ rfl (.int .i64 rw) (load_cell ai64 (Qc 2)) ?_; simp only [Act.put, List.setIfInBounds_toArray, List.set_cons_zero, List.set_cons_succ])
  (refine wpRel_plain rfl rfl ?_; intro K hK; go_big_quiet_op; (first | go_big_quiet_on | (refine ⟨_, fun _ _ => rfl, ?_⟩; go_big_quiet_on)))
  (refine wpRel_load rfl _ rfl (.int .i64 wd) (load_cell ai64 (Hc 0)) ?_; simp only [Act.put, List.setIfInBounds_toArray, List.set_cons_zero, List.set_cons_succ])
  (refine wpRel_plain rfl rfl ?_; intro K hK; go_big_quiet_op; (first | go_big_quiet_on | (refine ⟨_, fun _ _ => rfl, ?_⟩; go_big_quiet_on)))
  (refine wpRel_plain rfl rfl ?_; intro K hK; go_big_quiet_op; (first | go_big_quiet_on | (refine ⟨_, fun _ _ => rfl, ?_⟩; go_big_quiet_on)))
  (refine wpRel_callC rfl 121 _ (by kernel_rfl) Try.func121 (by kernel_rfl) (by kernel_rfl) [.int .i64 rw, .int .i64 1, .int .i64 (wd - p)] (by kernel_rfl) (fun w' hw' => (implClamp rw 1 (wd - p) w').mono (by rintro e w'' ⟨rfl, q9⟩; exact ⟨_, rfl, toCl, hw'.next q9⟩)) ?_; intro v hv; obtain rfl := spCl hv; clear hv; simp only [Act.put, List.setIfInBounds_toArray, List.set_cons_zero, List.set_cons_succ])
  (refine wpRel_plain rfl rfl ?_; intro K hK; go_big_quiet_op; (first | go_big_quiet_on | (refine ⟨_, fun _ _ => rfl, ?_⟩; go_big_quiet_on)))
  (refine wpRel_load rfl (⟨w.heap.size, 3, none⟩) (by kernel_rfl) (.int .i64 rh) (load_cell ai64 (Qc 3)) ?_; simp only [Act.put, List.setIfInBounds_toArray, List.set_cons_zero, List.set_cons_succ])
  (refine wpRel_plain rfl rfl ?_; intro K hK; go_big_quiet_op; (first | go_big_quiet_on | (refine ⟨_, fun _ _ => rfl, ?_⟩; go_big_quiet_on)))
  (refine wpRel_load rfl (⟨w.heap.size + 1, 1, none⟩) (by kernel_rfl) (.int .i64 hi) (load_cell ai64 (Hc 1)) ?_; simp only [Act.put, List.setIfInBounds_toArray, List.set_cons_zero, List.set_cons_succ])
  (refine wpRel_plain rfl rfl ?_; intro K hK; go_big_quiet_op; (first | go_big_quiet_on | (refine ⟨_, fun _ _ => rfl, ?_⟩; go_big_quiet_on)))
  (refine wpRel_plain rfl rfl ?_; intro K hK; go_big_quiet_op; (first | go_big_quiet_on | (refine ⟨_, fun _ _ => rfl, ?_⟩; go_big_quiet_on)))
  (refine wpRel_callC rfl 121 _ (by kernel_rfl) Try.func121 (by kernel_rfl) (by kernel_rfl) [.int .i64 rh, .int .i64 1, .int .i64 (hi - q)] (by kernel_rfl) (fun w' hw' => (implClamp rh 1 (hi - q) w').mono (by rintro e w'' ⟨rfl, q9⟩; exact ⟨_, rfl, toCl, hw'.next q9⟩)) ?_; intro v hv; obtain rfl := spCl hv; clear hv; simp only [Act.put, List.setIfInBounds_toArray, List.set_cons_zero, List.set_cons_succ])
  (refine wpRel_build rfl #[.int .i64 p, .int .i64 q, .int .i64 (clI rw 1 (wd - p)), .int .i64 (clI rh 1 (hi - q))] (by kernel_rfl) ?_; simp only [Act.put, List.setIfInBounds_toArray, List.set_cons_zero, List.set_cons_succ])
  refine wpRel_nil ?_
  intro u3 hw'
  replace hw' : Below u2.heap.size u2 u3 := hw'
  replace R := R.later hw'; replace HB := Lib.hid (HB.out.trans (hw'.mono HB.out.size)); clear hw' Qc Qf Hc Hf
  obtain ⟨Rc, Rf⟩ := R.open
  go_wp2
  rw [HP.out, HQ.out]
  exact bodyPost_ret (v := .agg #[.int .i64 p, .int .i64 q, .int .i64 (clI rw 1 (wd - p)), .int .i64 (clI rh 1 (hi - q))]) (by simp [results, Try.results73, go_sem, Rc]) rfl ⟨rfl, ((((HB.out.setCell (p := ⟨w.heap.size + 1 + 1, 0, none⟩) (by first | omega | (simp <;> omega)) _).setCell (p := ⟨w.heap.size + 1 + 1, 1, none⟩) (by first | omega | (simp <;> omega)) _).setCell (p := ⟨w.heap.size + 1 + 1, 2, none⟩) (by first | omega | (simp <;> omega)) _).setCell (p := ⟨w.heap.size + 1 + 1, 3, none⟩) (by first | omega | (simp <;> omega)) _)⟩

end Go.Proofs.Ythlkndjllhdppaa
