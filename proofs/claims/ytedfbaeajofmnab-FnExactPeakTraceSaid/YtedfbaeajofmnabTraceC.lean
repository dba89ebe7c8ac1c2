/- What happens in a cell over steps: the program's. Conditions: those of each theorem. -/
import Derived.Test.YtedfbaeajofmnabTraceB
import Derived.Test.YtedfbaeajofmnabBu22
import Derived.Test.YtedfbaeajofmnabBu14
namespace Go.Proofs.Ytedfbaeajofmnab
open Go Ieee Go.RowKit Go.Shelf
set_option linter.unusedVariables false

set_option maxHeartbeats 8000000 in
set_option maxRecDepth 100000 in
theorem implMeasureAt (m k n q zb cb g0 g1 g2 c0 c1 c2 ba oa bb ob ca cb_ lx ly : Nat) (u v : Int) (wb : Bool) (ea : Nat → Nat) (w : World) (Z : Blk w zb #[.int .i64 (m : Int), .int .i64 (k : Int), .bool wb] 59) (C : Blk w cb #[.int .i64 u, .int .i64 v] 79) (r0 : RowV w (some ⟨g0, 0, none⟩) (fvals (firsts ea n))) (hq : Hid (u + (m : Int) * v = (q : Int))) (hqn : q < n) (k1 : 0 ≤ (m : Int) * v) (k2 : (m : Int) * v ≤ 256) (k3 : 0 ≤ u) (k4 : u ≤ 256) :
    Calls Try.prog 56 #[.agg #[.int .i64 (m : Int), .int .i64 (k : Int), .bool wb, .slice (some ⟨ba, oa, none⟩) lx ca, .slice (some ⟨bb, ob, none⟩) ly cb_], .agg #[.slice (some ⟨g0, 0, none⟩) n c0, .slice (some ⟨g1, 0, none⟩) n c1, .slice (some ⟨g2, 0, none⟩) n c2], .pointer (some ⟨zb, 0, none⟩), .pointer (some ⟨cb, 0, none⟩)] w fun r w' => r = .returned (.float .f32 (ea q)) ∧ Below w.heap.size w w' := by
  have hj : q < (firsts ea n).length := by rw [firsts_length]; exact hqn
  obtain ⟨b', o', e', zc⟩ := r0 q _ (fvals_get hj)
  cases e'
  have ez : (firsts ea n)[q] = ea q := by simp [firsts]
  rw [ez, Nat.zero_add] at zc
  have ij : (q : Int) < (n : Int) := by omega
  clear ez hj r0
  have HZ := Z; have HC := C; clear Z C
  have X := Blk.new w #[.int .i64 (m : Int), .int .i64 (k : Int), .bool wb, .slice (some ⟨ba, oa, none⟩) lx ca, .slice (some ⟨bb, ob, none⟩) ly cb_] 32
  have Y := Blk.new1 w (.cells #[.int .i64 (m : Int), .int .i64 (k : Int), .bool wb, .slice (some ⟨ba, oa, none⟩) lx ca, .slice (some ⟨bb, ob, none⟩) ly cb_] 32) #[.slice (some ⟨g0, 0, none⟩) n c0, .slice (some ⟨g1, 0, none⟩) n c1, .slice (some ⟨g2, 0, none⟩) n c2] 29
  replace X := X.alloc (.cells #[.slice (some ⟨g0, 0, none⟩) n c0, .slice (some ⟨g1, 0, none⟩) n c1, .slice (some ⟨g2, 0, none⟩) n c2] 29)
  have HB : Hid (Below w.heap.size w ((w.alloc (.cells #[.int .i64 (m : Int), .int .i64 (k : Int), .bool wb, .slice (some ⟨ba, oa, none⟩) lx ca, .slice (some ⟨bb, ob, none⟩) ly cb_] 32)).alloc (.cells #[.slice (some ⟨g0, 0, none⟩) n c0, .slice (some ⟨g1, 0, none⟩) n c1, .slice (some ⟨g2, 0, none⟩) n c2] 29))) := Lib.hid (((Below.refl w.heap.size w).alloc (by simp <;> omega) _).alloc (by simp <;> omega) _)
  go_enter Try.func56, Try.ntmps56
  go_wp2_with fail
  generalize ((w.alloc (.cells #[.int .i64 (m : Int), .int .i64 (k : Int), .bool wb, .slice (some ⟨ba, oa, none⟩) lx ca, .slice (some ⟨bb, ob, none⟩) ly cb_] 32)).alloc (.cells #[.slice (some ⟨g0, 0, none⟩) n c0, .slice (some ⟨g1, 0, none⟩) n c1, .slice (some ⟨g2, 0, none⟩) n c2] 29)) = u1 at *
  have Z := HZ.later HB.out; have C := HC.later HB.out; clear HZ HC
  have zz := cell_on zc HB.out; clear zc
  obtain ⟨Zc, Zf⟩ := Z.open
  obtain ⟨Cc, Cf⟩ := C.open
  obtain ⟨Yc, Yf⟩ := Y.open
  go_wp2_with fail
  clear Zc Zf
  clear Cc Cf
  clear Yc Yf
  go_region_held3 (fun w' => (∀ i, w'.cell? ⟨zb, i, none⟩ = (#[.int .i64 (m : Int), .int .i64 (k : Int), .bool wb] : Array Value)[i]?) ∧ (∀ i, w'.cell? ⟨cb, i, none⟩ = (#[.int .i64 u, .int .i64 v] : Array Value)[i]?) ∧ (∀ i, w'.cell? ⟨w.heap.size + 1, i, none⟩ = (#[.slice (some ⟨g0, 0, none⟩) n c0, .slice (some ⟨g1, 0, none⟩) n c1, .slice (some ⟨g2, 0, none⟩) n c2] : Array Value)[i]?) ∧ w'.cell? ⟨g0, q, none⟩ = some (.float .f32 (ea q)) ∧ Below u1.heap.size u1 w') (first | with_reducible exact keep3c1_start Z C Y zz | with_reducible exact keep3c1_later Z C Y zz (by assumption) (by assumption))
    (first
      | (go_at_call 57; (with_reducible refine (implIndexQ0 _ _ _ _ _ _ _ hq k1 k2 k3 k4).mono ?_); rintro r u2 ⟨rfl, qa0⟩))
  have q := (below_next (below_drew u1) qa0)
  clear qa0
  replace X := X.later q
  replace Y := Y.later q
  replace Z := Z.later q
  replace C := C.later q
  replace HB := Lib.hid (HB.out.trans (q.mono HB.out.size))
  clear q
  go_wp2
  go_ret
  exact ⟨rfl, HB.out⟩

set_option maxHeartbeats 4000000 in
theorem implHasAny (wd hi x y : Int) (wb : Bool) (w : World) : Calls Try.prog 54 #[.agg #[.int .i64 wd, .int .i64 hi, .bool wb], .agg #[.int .i64 x, .int .i64 y]] w fun e w' => e = .returned (.bool (cellB wd hi x y)) ∧ Below w.heap.size w w' := by
  have B := ((Below.refl w.heap.size w).alloc (Nat.le_refl _) (.cells #[.int .i64 wd, .int .i64 hi, .bool wb] 59)).alloc (by simp) (.cells #[.int .i64 x, .int .i64 y] 79)
  have HB := Lib.hid B; clear B
  by_cases k0 : 0 ≤ x
  · skip
    by_cases k1 : x < wd
    · skip
      by_cases k2 : 0 ≤ y
      · skip
        by_cases k3 : y < hi
        · skip
          have HC : Hid (cellB wd hi x y = true) := Lib.hid (by unfold cellB; rw [decide_eq_true (by omega), decide_eq_true (by omega)]; rfl)
          have d0 : decide (0 ≤ x) = true := decide_eq_true k0
          have d1 : decide (x < wd) = true := decide_eq_true k1
          have d2 : decide (0 ≤ y) = true := decide_eq_true k2
          have d3 : decide (y < hi) = true := decide_eq_true k3
          clear k0 k1 k2 k3
          go_enter Try.func54, Try.ntmps54
          go_wp2
          go_ret
          exact ⟨by rw [HC.out]; rfl, HB.out⟩
        · skip
          have HC : Hid (cellB wd hi x y = false) := Lib.hid (by unfold cellB; rw [decide_eq_false (p := 0 ≤ y ∧ y ≤ hi - 1) (by omega), Bool.and_false])
          have d0 : decide (0 ≤ x) = true := decide_eq_true k0
          have d1 : decide (x < wd) = true := decide_eq_true k1
          have d2 : decide (0 ≤ y) = true := decide_eq_true k2
          have d3 : decide (y < hi) = false := decide_eq_false k3
          clear k0 k1 k2 k3
          go_enter Try.func54, Try.ntmps54
          go_wp2
          go_ret
          exact ⟨by rw [HC.out]; rfl, HB.out⟩
      · skip
        have HC : Hid (cellB wd hi x y = false) := Lib.hid (by unfold cellB; rw [decide_eq_false (p := 0 ≤ y ∧ y ≤ hi - 1) (by omega), Bool.and_false])
        have d0 : decide (0 ≤ x) = true := decide_eq_true k0
        have d1 : decide (x < wd) = true := decide_eq_true k1
        have d2 : decide (0 ≤ y) = false := decide_eq_false k2
        clear k0 k1 k2
        go_enter Try.func54, Try.ntmps54
        go_wp2
        go_ret
        exact ⟨by rw [HC.out]; rfl, HB.out⟩
    · skip
      have HC : Hid (cellB wd hi x y = false) := Lib.hid (by unfold cellB; rw [decide_eq_false (by omega)]; rfl)
      have d0 : decide (0 ≤ x) = true := decide_eq_true k0
      have d1 : decide (x < wd) = false := decide_eq_false k1
      clear k0 k1
      go_enter Try.func54, Try.ntmps54
      go_wp2
      go_ret
      exact ⟨by rw [HC.out]; rfl, HB.out⟩
  · skip
    have HC : Hid (cellB wd hi x y = false) := Lib.hid (by unfold cellB; rw [decide_eq_false (by omega)]; rfl)
    have d0 : decide (0 ≤ x) = false := decide_eq_false k0
    clear k0
    go_enter Try.func54, Try.ntmps54
    go_wp2
    go_ret
    exact ⟨by rw [HC.out]; rfl, HB.out⟩

set_option maxHeartbeats 8000000 in
set_option maxRecDepth 100000 in
theorem implTraceNo (wd hi : Int) (wb : Bool) (a b : Option Addr) (ca cb : Nat) (xs ys : List Nat) (a0 a1 a2 : Option Addr) (c0 c1 c2 : Nat) (e x y : List Nat) (steps : Int) (mf : Nat) (env : Array Value) (w : World) (ha : RowV w a (fvals xs)) (hb : RowV w b (fvals ys)) (hx : xs.length ≤ maxLen) (hy : ys.length ≤ maxLen) (h0 : RowV w a0 (fvals e)) (h1 : RowV w a1 (fvals x)) (h2 : RowV w a2 (fvals y)) (m0 : e.length ≤ maxLen) (m1 : x.length ≤ maxLen) (m2 : y.length ≤ maxLen) (hr : runB wd hi wb xs ys e x y steps = false) :
    Calls Try.prog 55 #[.agg #[.int .i64 wd, .int .i64 hi, .bool wb, .slice a xs.length ca, .slice b ys.length cb], .agg #[.slice a0 e.length e.length, .slice a1 x.length x.length, .slice a2 y.length y.length], .int .i64 steps, .func (.func mf) #[] env] w fun r w' => r = .returned (.tuple #[.slice none 0 0, .bool false]) ∧ Below w.heap.size w w' := by
  unfold runB at hr
  rcases hfv : fieldB wd hi wb xs ys e x y with _ | _
  · skip
    have H_fb := Lib.hid hfv; clear hfv hr
    have X := Blk.new w #[.int .i64 wd, .int .i64 hi, .bool wb, .slice a xs.length ca, .slice b ys.length cb] 32
    have Y := Blk.new1 w (.cells #[.int .i64 wd, .int .i64 hi, .bool wb, .slice a xs.length ca, .slice b ys.length cb] 32) #[.slice a0 e.length e.length, .slice a1 x.length x.length, .slice a2 y.length y.length] 29
    replace X := X.alloc (.cells #[.slice a0 e.length e.length, .slice a1 x.length x.length, .slice a2 y.length y.length] 29)
    have M := Blk.new2 w (.cells #[.int .i64 wd, .int .i64 hi, .bool wb, .slice a xs.length ca, .slice b ys.length cb] 32) (.cells #[.slice a0 e.length e.length, .slice a1 x.length x.length, .slice a2 y.length y.length] 29) #[.func (.func mf) #[] env] 83
    replace X := X.alloc (.cells #[.func (.func mf) #[] env] 83)
    replace Y := Y.alloc (.cells #[.func (.func mf) #[] env] 83)
    have HB : Hid (Below w.heap.size w (((w.alloc (.cells #[.int .i64 wd, .int .i64 hi, .bool wb, .slice a xs.length ca, .slice b ys.length cb] 32)).alloc (.cells #[.slice a0 e.length e.length, .slice a1 x.length x.length, .slice a2 y.length y.length] 29)).alloc (.cells #[.func (.func mf) #[] env] 83))) := Lib.hid ((((Below.refl w.heap.size w).alloc (by simp <;> omega) _).alloc (by simp <;> omega) _).alloc (by simp <;> omega) _)
    refine callsIn_wide.1 (callsIn_of_wp_marks (n := 0) Try.func55 rfl trivial (wpIn_wide.2 ?_))
    simp only [Try.ntmps55, List.size_toArray, List.length_cons, List.length_nil, Nat.reduceAdd, Nat.reduceSub, Array.replicate_succ, Array.replicate_zero, List.push_toArray, List.append_toArray, List.nil_append, List.cons_append]
    go_wp2_with fail
    generalize (((w.alloc (.cells #[.int .i64 wd, .int .i64 hi, .bool wb, .slice a xs.length ca, .slice b ys.length cb] 32)).alloc (.cells #[.slice a0 e.length e.length, .slice a1 x.length x.length, .slice a2 y.length y.length] 29)).alloc (.cells #[.func (.func mf) #[] env] 83)) = u1 at *
    obtain ⟨Xc, Xf⟩ := X.open
    obtain ⟨Yc, Yf⟩ := Y.open
    go_wp2_with fail
    refine (implIsField _ _ _ _ _ _ _ _ _ _ _ _ _ _ _ _ _ _ _ (ha.later HB.out) (hb.later HB.out) hx hy (h0.later HB.out) (h1.later HB.out) (h2.later HB.out) m0 m1 m2).mono ?_
    rintro r u2 ⟨rfl, q⟩
    clear Xc Xf
    clear Yc Yf
    replace X := X.later q
    replace Y := Y.later q
    replace M := M.later q
    replace HB := Lib.hid (HB.out.trans (q.mono HB.out.size))
    clear q
    rw [H_fb.out]
    go_wp2
    exact ⟨.tuple #[.slice none 0 0, .bool false], by simp [results, Try.results55, go_sem], rfl, HB.out⟩
  rw [hfv, Bool.true_and] at hr
  have HST := Lib.hid hr; have H_fb := Lib.hid hfv; clear hfv hr
  have X := Blk.new w #[.int .i64 wd, .int .i64 hi, .bool wb, .slice a xs.length ca, .slice b ys.length cb] 32
  have Y := Blk.new1 w (.cells #[.int .i64 wd, .int .i64 hi, .bool wb, .slice a xs.length ca, .slice b ys.length cb] 32) #[.slice a0 e.length e.length, .slice a1 x.length x.length, .slice a2 y.length y.length] 29
  replace X := X.alloc (.cells #[.slice a0 e.length e.length, .slice a1 x.length x.length, .slice a2 y.length y.length] 29)
  have M := Blk.new2 w (.cells #[.int .i64 wd, .int .i64 hi, .bool wb, .slice a xs.length ca, .slice b ys.length cb] 32) (.cells #[.slice a0 e.length e.length, .slice a1 x.length x.length, .slice a2 y.length y.length] 29) #[.func (.func mf) #[] env] 83
  replace X := X.alloc (.cells #[.func (.func mf) #[] env] 83)
  replace Y := Y.alloc (.cells #[.func (.func mf) #[] env] 83)
  have HB : Hid (Below w.heap.size w (((w.alloc (.cells #[.int .i64 wd, .int .i64 hi, .bool wb, .slice a xs.length ca, .slice b ys.length cb] 32)).alloc (.cells #[.slice a0 e.length e.length, .slice a1 x.length x.length, .slice a2 y.length y.length] 29)).alloc (.cells #[.func (.func mf) #[] env] 83))) := Lib.hid ((((Below.refl w.heap.size w).alloc (by simp <;> omega) _).alloc (by simp <;> omega) _).alloc (by simp <;> omega) _)
  refine callsIn_wide.1 (callsIn_of_wp_marks (n := 0) Try.func55 rfl trivial (wpIn_wide.2 ?_))
  simp only [Try.ntmps55, List.size_toArray, List.length_cons, List.length_nil, Nat.reduceAdd, Nat.reduceSub, Array.replicate_succ, Array.replicate_zero, List.push_toArray, List.append_toArray, List.nil_append, List.cons_append]
  go_wp2_with fail
  generalize (((w.alloc (.cells #[.int .i64 wd, .int .i64 hi, .bool wb, .slice a xs.length ca, .slice b ys.length cb] 32)).alloc (.cells #[.slice a0 e.length e.length, .slice a1 x.length x.length, .slice a2 y.length y.length] 29)).alloc (.cells #[.func (.func mf) #[] env] 83)) = u1 at *
  obtain ⟨Xc, Xf⟩ := X.open
  obtain ⟨Yc, Yf⟩ := Y.open
  go_wp2_with fail
  refine (implIsField _ _ _ _ _ _ _ _ _ _ _ _ _ _ _ _ _ _ _ (ha.later HB.out) (hb.later HB.out) hx hy (h0.later HB.out) (h1.later HB.out) (h2.later HB.out) m0 m1 m2).mono ?_
  rintro r u2 ⟨rfl, q⟩
  clear Xc Xf
  clear Yc Yf
  replace X := X.later q
  replace Y := Y.later q
  replace M := M.later q
  replace HB := Lib.hid (HB.out.trans (q.mono HB.out.size))
  clear q
  rw [H_fb.out]
  go_wp2_with fail
  refine (implIsRun _ _).mono ?_
  rintro r w5 ⟨rfl, rfl⟩
  rw [HST.out]
  go_wp2
  exact ⟨.tuple #[.slice none 0 0, .bool false], by simp [results, Try.results55, go_sem], rfl, HB.out⟩

end Go.Proofs.Ytedfbaeajofmnab
