/- Several texts in one: facts on floats, lists, memory and the functions that the theorems beside this text use. Conditions: none beyond those of each theorem. -/
import Derived.Test.YtedfbaeajofmnaaBu7
import Derived.Test.YtedfbaeajofmnaaBu5
import Derived.Test.YtedfbaeajofmnaaBu1
import Derived.Laws.EntriesVeiled

set_option linter.unusedVariables false

section

namespace Go.Proofs.Ytedfbaeajofmnaa
open Go Ieee Go.RowKit
set_option linter.unusedVariables false

theorem implAround (n s : Int) (w : World) (h1 : -1000 ≤ n) (h2 : n ≤ 1000) (h3 : 1 ≤ s) (h4 : s ≤ 16) : Calls Try.prog 154 #[.int .i64 n, .int .i64 s] w fun e w' => e = .returned (.int .i64 (n % s)) ∧ w = w' := by
  have hne : (s == 0) = false := by simp; omega
  have t1 : n.tmod s < s := Int.tmod_lt_of_pos _ (by omega)
  have t2 : -s < n.tmod s := Int.lt_tmod_of_pos _ (by omega)
  have t3 : 0 ≤ n.tmod s + s := by omega
  have HR : Hid ((n.tmod s) % s = n % s) := Lib.hid (by rw [Int.tmod_def, Int.sub_mul_emod_self_left])
  go_enter Try.func154, Try.ntmps154
  go_wp2
  go_ret
  exact ⟨by first | (rw [← HR.out]; simp; done) | (rw [← HR.out]; rfl), rfl⟩

theorem implAroundB (n s : Int) (w : World) (h1 : -1000 ≤ n) (h2 : n ≤ 1000) (h3 : 1 ≤ s) (h4 : s ≤ 16) : Calls Try.prog 154 #[.int .i64 n, .int .i64 s] w fun e w' => e = .returned (.int .i64 (n % s)) ∧ Below w.heap.size w w' :=
  (implAround n s w h1 h2 h3 h4).mono fun e w' ⟨h, hw⟩ => ⟨h, hw ▸ Below.refl _ _⟩

theorem implWrapped (wd hi x y : Int) (wb : Bool) (w : World) (h1 : -100 ≤ x) (h2 : x ≤ 100) (h1' : -100 ≤ y) (h2' : y ≤ 100) (h3 : 3 ≤ wd) (h4 : wd ≤ 16) (h5 : 3 ≤ hi) (h6 : hi ≤ 16) : Calls Try.prog 148 #[.agg #[.int .i64 wd, .int .i64 hi, .bool wb], .agg #[.int .i64 (x), .int .i64 (y)]] w fun e w' => e = .returned (.agg #[.int .i64 (x % wd), .int .i64 (y % hi)]) ∧ Below w.heap.size w w' := by
  have X := Blk.new w #[.int .i64 wd, .int .i64 hi, .bool wb] 80
  have C := Blk.new1 w (.cells #[.int .i64 wd, .int .i64 hi, .bool wb] 80) #[.int .i64 (x), .int .i64 (y)] 134
  replace X := X.alloc (.cells #[.int .i64 (x), .int .i64 (y)] 134)
  have R := Blk.new2 w (.cells #[.int .i64 wd, .int .i64 hi, .bool wb] 80) (.cells #[.int .i64 (x), .int .i64 (y)] 134) #[.int .i64 0, .int .i64 0] 134
  replace X := X.alloc (.cells #[.int .i64 0, .int .i64 0] 134)
  replace C := C.alloc (.cells #[.int .i64 0, .int .i64 0] 134)
  have HB : Hid (Below w.heap.size w (((w.alloc (.cells #[.int .i64 wd, .int .i64 hi, .bool wb] 80)).alloc (.cells #[.int .i64 (x), .int .i64 (y)] 134)).alloc (.cells #[.int .i64 0, .int .i64 0] 134))) := Lib.hid ((((Below.refl w.heap.size w).alloc (by simp <;> omega) _).alloc (by simp <;> omega) _).alloc (by simp <;> omega) _)
  go_enter Try.func148, Try.ntmps148
  go_wp2_with fail
  generalize (((w.alloc (.cells #[.int .i64 wd, .int .i64 hi, .bool wb] 80)).alloc (.cells #[.int .i64 (x), .int .i64 (y)] 134)).alloc (.cells #[.int .i64 0, .int .i64 0] 134)) = u1 at *
  obtain ⟨Xc, Xf⟩ := X.open
  obtain ⟨Cc, Cf⟩ := C.open
  clear Xc Xf
  clear Cc Cf
  have neX : w.heap.size ≠ w.heap.size + 1 + 1 := by omega
  have neC : w.heap.size + 1 ≠ w.heap.size + 1 + 1 := by omega
  have tk0 : True := trivial
  have tk1 : True := trivial
  go_region_held3 (fun w' => (∀ i, w'.cell? ⟨w.heap.size, i, none⟩ = (#[.int .i64 wd, .int .i64 hi, .bool wb] : Array Value)[i]?) ∧ (∀ i, w'.cell? ⟨w.heap.size + 1, i, none⟩ = (#[.int .i64 (x), .int .i64 (y)] : Array Value)[i]?) ∧ u1.grownBy w' (some (w.heap.size + 1 + 1))) (first | exact keepR2_start X C | exact keepR2_later X C neX neC (by assumption) (by assumption) | exact keepR2_set2 X C neX neC (by assumption) _ _)
    (first
      | (go_at_call 154; have _t := tk0; clear _t tk0; (with_reducible refine (implAroundB _ _ _ (by omega) (by omega) (by omega) (by omega)).mono ?_); rintro r u2 ⟨rfl, qa0⟩)
      | (go_at_call 154; have _t := tk1; clear _t tk1; (with_reducible refine (implAroundB _ _ _ (by omega) (by omega) (by omega) (by omega)).mono ?_); rintro r u3 ⟨rfl, qa1⟩; obtain ⟨Rc, Rf⟩ := (R.later (below_next (below_next (below_drew u1) qa0) qa1)).open))
  go_wp2
  refine bodyPost_ret (v := .agg #[.int .i64 (x % wd), .int .i64 (y % hi)]) (by simp [results, Try.results148, go_sem, Rc]) rfl ⟨rfl, (((HB.out.trans ((below_next (below_next (below_drew u1) qa0) qa1).mono HB.out.size)).setCell (p := ⟨w.heap.size + 1 + 1, 0, none⟩) (by simp <;> omega) _).setCell (p := ⟨w.heap.size + 1 + 1, 1, none⟩) (by simp <;> omega) _)⟩

end Go.Proofs.Ytedfbaeajofmnaa

end
