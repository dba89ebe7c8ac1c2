/- Rects of a sheet: the model's functions. Conditions: none beyond those of each theorem. -/
import Derived.Test.YthlkndjllhdppaaRect
import Derived.Test.YthlkndjllhdppaaBu7
namespace Go.Proofs.Ythlkndjllhdppaa
open Go Ieee Go.RowKit
set_option linter.unusedVariables false

theorem quietC (g : Nat) (wd hi x y : Int) (wb : Bool) (v3 v4 : Value) (c : Bool) (w : World) (n : Nat) (hc : cellB wd hi x y = c) (X : Blk w g #[.int .i64 wd, .int .i64 hi, .bool wb, v3, v4] 29) (s1 : 3 ≤ wd) (s2 : wd ≤ 16) (s3 : 3 ≤ hi) (s4 : hi ≤ 16) :
    Calls Try.prog 57 #[.pointer (some ⟨g, 0, none⟩), .int .i64 x, .int .i64 y] (w.drewN n) fun e w'' => e = .returned (.bool c) ∧ ∃ m, w'' = w.drewN m := by
  subst hc
  exact quietS (specCell g wd hi x y wb v3 v4 _ (X.drewN _) s1 s2 s3 s4)

theorem quietI (a lo hi : Int) (c : Bool) (w : World) (n : Nat) (hc : decide (lo ≤ a ∧ a ≤ hi) = c) : Calls Try.prog 58 #[.int .i64 a, .int .i64 lo, .int .i64 hi] (w.drewN n) fun e w'' => e = .returned (.bool c) ∧ ∃ m, w'' = w.drewN m := by
  subst hc
  exact quietS (l00In_any a lo hi _)

set_option maxHeartbeats 4000000 in
set_option maxRecDepth 100000 in
theorem specRect (g gr : Nat) (wd hi : Int) (wb : Bool) (v3 v4 : Value) (rx ry rw rh : Int) (w : World) (X : Blk w g #[.int .i64 wd, .int .i64 hi, .bool wb, v3, v4] 29) (Q : Blk w gr #[.int .i64 rx, .int .i64 ry, .int .i64 rw, .int .i64 rh] 39) (s1 : 3 ≤ wd) (s2 : wd ≤ 16) (s3 : 3 ≤ hi) (s4 : hi ≤ 16) :
    Calls Try.prog 72 #[.pointer (some ⟨g, 0, none⟩), .pointer (some ⟨gr, 0, none⟩)] w fun e w' => e = .returned (.bool (rectB wd hi rx ry rw rh)) ∧ Below w.heap.size w w' := by
  obtain ⟨Xc, Xf⟩ := X.open; obtain ⟨Qc, Qf⟩ := Q.open
  rcases k0 : cellB wd hi rx ry with _ | _
  · skip
    have HR : Hid (rectB wd hi rx ry rw rh = false) := Lib.hid (by unfold rectB; rw [k0]; rfl)
    have K0 := Lib.hid k0
    clear k0
    go_enter Try.func72, Try.ntmps72
    go_wp2_with fail
    go_quiet ((first | (go_at_call 57; exact quietC g wd hi rx ry wb v3 v4 _ _ _ K0.out X s1 s2 s3 s4)))
    go_wp2
    go_ret
    exact ⟨by rw [HR.out]; rfl, below_drewN (Below.refl _ _) _⟩
  · skip
    rcases k1 : decide (1 ≤ rw ∧ rw ≤ wd - rx) with _ | _
    · skip
      have HR : Hid (rectB wd hi rx ry rw rh = false) := Lib.hid (by unfold rectB; rw [k0, k1]; rfl)
      have K0 := Lib.hid k0
      have K1 := Lib.hid k1
      obtain ⟨c0, c1, c2, c3⟩ := cell_in k0
      clear k0 k1
      go_enter Try.func72, Try.ntmps72
      go_wp2_with fail
      go_quiet ((first | (go_at_call 57; exact quietC g wd hi rx ry wb v3 v4 _ _ _ K0.out X s1 s2 s3 s4) | (go_at_call 58; with_reducible exact quietI _ _ _ _ _ _ K1.out)))
      go_wp2
      go_ret
      exact ⟨by rw [HR.out]; rfl, below_drewN (Below.refl _ _) _⟩
    · skip
      rcases k2 : decide (1 ≤ rh ∧ rh ≤ hi - ry) with _ | _
      · skip
        have HR : Hid (rectB wd hi rx ry rw rh = false) := Lib.hid (by unfold rectB; rw [k0, k1, k2]; rfl)
        have K0 := Lib.hid k0
        have K1 := Lib.hid k1
        have K2 := Lib.hid k2
        obtain ⟨c0, c1, c2, c3⟩ := cell_in k0
        clear k0 k1 k2
        go_enter Try.func72, Try.ntmps72
        go_wp2_with fail
        go_quiet ((first | (go_at_call 57; exact quietC g wd hi rx ry wb v3 v4 _ _ _ K0.out X s1 s2 s3 s4) | (go_at_call 58; with_reducible exact quietI _ _ _ _ _ _ K1.out) | (go_at_call 58; with_reducible exact quietI _ _ _ _ _ _ K2.out)))
        go_wp2
        go_ret
        exact ⟨by rw [HR.out]; rfl, below_drewN (Below.refl _ _) _⟩
      · skip
        have HR : Hid (rectB wd hi rx ry rw rh = true) := Lib.hid (by unfold rectB; rw [k0, k1, k2]; rfl)
        have K0 := Lib.hid k0
        have K1 := Lib.hid k1
        have K2 := Lib.hid k2
        obtain ⟨c0, c1, c2, c3⟩ := cell_in k0
        clear k0 k1 k2
        go_enter Try.func72, Try.ntmps72
        go_wp2_with fail
        go_quiet ((first | (go_at_call 57; exact quietC g wd hi rx ry wb v3 v4 _ _ _ K0.out X s1 s2 s3 s4) | (go_at_call 58; with_reducible exact quietI _ _ _ _ _ _ K1.out) | (go_at_call 58; with_reducible exact quietI _ _ _ _ _ _ K2.out)))
        go_wp2
        go_ret
        exact ⟨by rw [HR.out]; rfl, below_drewN (Below.refl _ _) _⟩

set_option maxHeartbeats 4000000 in
set_option maxRecDepth 100000 in
theorem specIn (gr : Nat) (rx ry rw rh : Int) (x y : Int) (w : World) (Q : Blk w gr #[.int .i64 rx, .int .i64 ry, .int .i64 rw, .int .i64 rh] 39) (b1 : rx + rw ≤ 1000000) (b2 : ry + rh ≤ 1000000) (b3 : 0 ≤ rx) (b4 : 0 ≤ ry) (b5 : 1 ≤ rw) (b6 : 1 ≤ rh) :
    Calls Try.prog 92 #[.pointer (some ⟨gr, 0, none⟩), .int .i64 x, .int .i64 y] w fun e w' => e = .returned (.bool (hasR rx ry rw rh x y)) ∧ ∃ n, w' = w.drewN n := by
  obtain ⟨Qc, Qf⟩ := Q.open
  rcases k0 : decide (rx ≤ x ∧ x ≤ rx + rw - 1) with _ | _
  · skip
    have HR : Hid (hasR rx ry rw rh x y = false) := Lib.hid (by unfold hasR; rw [show decide (rx ≤ x ∧ x < rx + rw) = false from by rw [← k0, decide_eq_decide]; omega]; rfl)
    have K0 := Lib.hid k0
    clear k0
    go_enter Try.func92, Try.ntmps92
    go_wp2_with fail
    go_quiet ((first | (go_at_call 58; with_reducible exact quietI _ _ _ _ _ _ K0.out)))
    go_wp2
    go_ret
    exact ⟨by rw [HR.out]; rfl, _, rfl⟩
  rcases k1 : decide (ry ≤ y ∧ y ≤ ry + rh - 1) with _ | _
  · skip
    have HR : Hid (hasR rx ry rw rh x y = false) := Lib.hid (by unfold hasR; rw [show decide (rx ≤ x ∧ x < rx + rw) = true from by rw [← k0, decide_eq_decide]; omega, show decide (ry ≤ y ∧ y < ry + rh) = false from by rw [← k1, decide_eq_decide]; omega]; rfl)
    have K0 := Lib.hid k0
    have K1 := Lib.hid k1
    clear k0 k1
    go_enter Try.func92, Try.ntmps92
    go_wp2_with fail
    go_quiet ((first | (go_at_call 58; with_reducible exact quietI _ _ _ _ _ _ K0.out) | (go_at_call 58; with_reducible exact quietI _ _ _ _ _ _ K1.out)))
    go_wp2
    go_ret
    exact ⟨by rw [HR.out]; rfl, _, rfl⟩
  · skip
    have HR : Hid (hasR rx ry rw rh x y = true) := Lib.hid (by unfold hasR; rw [show decide (rx ≤ x ∧ x < rx + rw) = true from by rw [← k0, decide_eq_decide]; omega, show decide (ry ≤ y ∧ y < ry + rh) = true from by rw [← k1, decide_eq_decide]; omega]; rfl)
    have K0 := Lib.hid k0
    have K1 := Lib.hid k1
    clear k0 k1
    go_enter Try.func92, Try.ntmps92
    go_wp2_with fail
    go_quiet ((first | (go_at_call 58; with_reducible exact quietI _ _ _ _ _ _ K0.out) | (go_at_call 58; with_reducible exact quietI _ _ _ _ _ _ K1.out)))
    go_wp2
    go_ret
    exact ⟨by rw [HR.out]; rfl, _, rfl⟩

set_option maxHeartbeats 4000000 in
set_option maxRecDepth 100000 in
theorem specIsRect (wd hi : Int) (wb : Bool) (a b : Option Addr) (ca cb : Nat) (xs ys : List Nat) (rx ry rw rh : Int) (w : World) (ha : RowV w a (fvals xs)) (hb : RowV w b (fvals ys)) (hx : xs.length ≤ maxLen) (hy : ys.length ≤ maxLen) :
    Calls Try.prog 24 #[.agg #[.int .i64 wd, .int .i64 hi, .bool wb, .slice a xs.length ca, .slice b ys.length cb], .agg #[.int .i64 rx, .int .i64 ry, .int .i64 rw, .int .i64 rh]] w fun e w' => e = .returned (.bool (isRectB wd hi xs ys rx ry rw rh)) ∧ Below w.heap.size w w' := by
  rcases hv : validB wd hi xs ys with _ | _
  · skip
    have HR : Hid (isRectB wd hi xs ys rx ry rw rh = false) := Lib.hid (by unfold isRectB; rw [hv]; rfl)
    have H_v := Lib.hid hv; clear hv
    rw [HR.out]
    have X := Blk.new w #[.int .i64 wd, .int .i64 hi, .bool wb, .slice a xs.length ca, .slice b ys.length cb] 29
    have Q := Blk.new1 w (.cells #[.int .i64 wd, .int .i64 hi, .bool wb, .slice a xs.length ca, .slice b ys.length cb] 29) #[.int .i64 rx, .int .i64 ry, .int .i64 rw, .int .i64 rh] 39
    replace X := X.alloc (.cells #[.int .i64 rx, .int .i64 ry, .int .i64 rw, .int .i64 rh] 39)
    have HB : Hid (Below w.heap.size w ((w.alloc (.cells #[.int .i64 wd, .int .i64 hi, .bool wb, .slice a xs.length ca, .slice b ys.length cb] 29)).alloc (.cells #[.int .i64 rx, .int .i64 ry, .int .i64 rw, .int .i64 rh] 39))) := Lib.hid (((Below.refl w.heap.size w).alloc (by simp <;> omega) _).alloc (by simp <;> omega) _)
    go_enter Try.func24, Try.ntmps24
    go_wp2_with fail
    generalize ((w.alloc (.cells #[.int .i64 wd, .int .i64 hi, .bool wb, .slice a xs.length ca, .slice b ys.length cb] 29)).alloc (.cells #[.int .i64 rx, .int .i64 ry, .int .i64 rw, .int .i64 rh] 39)) = u1 at *
    refine (specIs _ _ _ _ _ _ _ _ _ _ _ X (ha.later HB.out) (hb.later HB.out) hx hy).mono ?_
    rintro r u2 ⟨rfl, nq, hw⟩
    have q : Below u1.heap.size u1 u2 := by rw [hw]; exact below_drewN (Below.refl _ _) _
    clear hw
    replace X := X.later q
    replace Q := Q.later q
    replace HB := Lib.hid (HB.out.trans (q.mono HB.out.size))
    clear q
    rw [H_v.out]
    go_wp2
    go_ret
    exact ⟨rfl, HB.out⟩
  obtain ⟨s1, s2, s3, s4, _, _, _⟩ := valid_parts hv
  have HR : Hid (isRectB wd hi xs ys rx ry rw rh = rectB wd hi rx ry rw rh) := Lib.hid (by unfold isRectB; rw [hv]; rfl)
  have H_v := Lib.hid hv; clear hv
  rw [HR.out]
  have X := Blk.new w #[.int .i64 wd, .int .i64 hi, .bool wb, .slice a xs.length ca, .slice b ys.length cb] 29
  have Q := Blk.new1 w (.cells #[.int .i64 wd, .int .i64 hi, .bool wb, .slice a xs.length ca, .slice b ys.length cb] 29) #[.int .i64 rx, .int .i64 ry, .int .i64 rw, .int .i64 rh] 39
  replace X := X.alloc (.cells #[.int .i64 rx, .int .i64 ry, .int .i64 rw, .int .i64 rh] 39)
  have HB : Hid (Below w.heap.size w ((w.alloc (.cells #[.int .i64 wd, .int .i64 hi, .bool wb, .slice a xs.length ca, .slice b ys.length cb] 29)).alloc (.cells #[.int .i64 rx, .int .i64 ry, .int .i64 rw, .int .i64 rh] 39))) := Lib.hid (((Below.refl w.heap.size w).alloc (by simp <;> omega) _).alloc (by simp <;> omega) _)
  go_enter Try.func24, Try.ntmps24
  go_wp2_with fail
  generalize ((w.alloc (.cells #[.int .i64 wd, .int .i64 hi, .bool wb, .slice a xs.length ca, .slice b ys.length cb] 29)).alloc (.cells #[.int .i64 rx, .int .i64 ry, .int .i64 rw, .int .i64 rh] 39)) = u1 at *
  refine (specIs _ _ _ _ _ _ _ _ _ _ _ X (ha.later HB.out) (hb.later HB.out) hx hy).mono ?_
  rintro r u2 ⟨rfl, nq, hw⟩
  have q : Below u1.heap.size u1 u2 := by rw [hw]; exact below_drewN (Below.refl _ _) _
  clear hw
  replace X := X.later q
  replace Q := Q.later q
  replace HB := Lib.hid (HB.out.trans (q.mono HB.out.size))
  clear q
  rw [H_v.out]
  go_wp2_with fail
  refine (specRect _ _ wd hi wb _ _ rx ry rw rh _ X Q s1 s2 s3 s4).mono ?_
  rintro r u3 ⟨rfl, q⟩
  replace X := X.later q
  replace Q := Q.later q
  replace HB := Lib.hid (HB.out.trans (q.mono HB.out.size))
  clear q
  go_wp2
  go_ret
  exact ⟨rfl, HB.out⟩

end Go.Proofs.Ythlkndjllhdppaa
