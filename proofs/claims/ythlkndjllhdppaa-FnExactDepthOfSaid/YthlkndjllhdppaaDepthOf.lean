/- The depth of a cell of a sheet: the program's answer and the model's. Conditions: none beyond those of each theorem. -/
import Derived.Test.YthlkndjllhdppaaDepth
import Derived.Test.YthlkndjllhdppaaBu7
namespace Go.Proofs.Ythlkndjllhdppaa
open Go Ieee Go.RowKit
set_option linter.unusedVariables false

theorem mul_in0 {wd hi y : Int} (s1 : 3 ≤ wd) (h0 : 0 ≤ y) (h1 : y < hi) (h2 : wd * hi ≤ 256) : 0 ≤ wd * y ∧ wd * y ≤ 256 := by
  have a := Int.mul_nonneg (show 0 ≤ wd by omega) h0
  have b := Int.mul_le_mul_of_nonneg_left (show y ≤ hi by omega) (show 0 ≤ wd by omega)
  omega

def dofB (wd hi : Int) (xs ys : List Nat) (x y : Int) : Bool := validB wd hi xs ys && cellB wd hi x y

set_option maxHeartbeats 4000000 in
set_option maxRecDepth 100000 in
theorem implDepthOfL (wd hi : Int) (wb : Bool) (a b : Option Addr) (ca cb : Nat) (xs ys : List Nat) (x y : Int) (w : World) (ha : RowV w a (fvals xs)) (hb : RowV w b (fvals ys)) (qa : ∀ z ∈ xs, z < 2 ^ 32) (qb : ∀ z ∈ ys, z < 2 ^ 32) (hx : xs.length ≤ maxLen) (hy : ys.length ≤ maxLen) (wx : (Lit.int .i64 x).wf = true) (wy : (Lit.int .i64 y).wf = true) :
    Calls Try.prog 28 #[.agg #[.int .i64 wd, .int .i64 hi, .bool wb, .slice a xs.length ca, .slice b ys.length cb], .int .i64 x, .int .i64 y] w fun e w' => e = .returned (.tuple #[.int .i64 (ifI (dofB wd hi xs ys x y) (depI wd hi x y)), .bool (dofB wd hi xs ys x y)]) ∧ Below w.heap.size w w' := by
  rcases hv : validB wd hi xs ys with _ | _
  · skip
    have HR : Hid (dofB wd hi xs ys x y = false) := Lib.hid (by unfold dofB; rw [hv]; rfl)
    rw [HR.out]; have H_v := Lib.hid hv; clear hv
    have X := Blk.new w #[.int .i64 wd, .int .i64 hi, .bool wb, .slice a xs.length ca, .slice b ys.length cb] 29
    have HB : Hid (Below w.heap.size w (w.alloc (.cells #[.int .i64 wd, .int .i64 hi, .bool wb, .slice a xs.length ca, .slice b ys.length cb] 29))) := Lib.hid ((Below.refl w.heap.size w).alloc (by simp <;> omega) _)
    go_enter Try.func28, Try.ntmps28
    go_wp2_with fail
    generalize (w.alloc (.cells #[.int .i64 wd, .int .i64 hi, .bool wb, .slice a xs.length ca, .slice b ys.length cb] 29)) = u1 at *
    obtain ⟨Xc, Xf⟩ := X.open
    refine (implShapeOf _ _ _ _ _ _ _ _ _ _).mono ?_
    rintro r u2 ⟨rfl, q⟩
    clear Xc Xf
    replace X := X.later q
    replace HB := Lib.hid (HB.out.trans (q.mono HB.out.size))
    clear q
    have H := Blk.new u2 #[.int .i64 wd, .int .i64 hi, .bool wb] 82
    have q := below_new u2 (.cells #[.int .i64 wd, .int .i64 hi, .bool wb] 82)
    replace X := X.later q
    replace HB := Lib.hid (HB.out.trans (q.mono HB.out.size))
    clear q
    have C := Blk.new1 u2 (.cells #[.int .i64 wd, .int .i64 hi, .bool wb] 82) #[.int .i64 x, .int .i64 y] 85
    have q := below_new (u2.alloc (.cells #[.int .i64 wd, .int .i64 hi, .bool wb] 82)) (.cells #[.int .i64 x, .int .i64 y] 85)
    replace X := X.later q
    replace H := H.later q
    replace HB := Lib.hid (HB.out.trans (q.mono HB.out.size))
    clear q
    obtain ⟨Xc, Xf⟩ := X.open
    go_wp2_with fail
    generalize ((u2.alloc (.cells #[.int .i64 wd, .int .i64 hi, .bool wb] 82)).alloc (.cells #[.int .i64 x, .int .i64 y] 85)) = u3 at *
    refine (implValidSheet _ _ _ _ _ _ _ _ _ _ (ha.later HB.out) (hb.later HB.out) hx hy).mono ?_
    rintro r u4 ⟨rfl, q⟩
    clear Xc Xf
    replace X := X.later q
    replace H := H.later q
    replace C := C.later q
    replace HB := Lib.hid (HB.out.trans (q.mono HB.out.size))
    clear q
    rw [H_v.out]
    go_wp2
    go_ret2
    exact ⟨by first | rfl | (rw [HR.out]; rfl), HB.out⟩
  obtain ⟨s1, s2, s3, s4, hm2, lx, ly⟩ := valid_parts hv
  rcases hc : cellB wd hi x y with _ | _
  · skip
    have HR : Hid (dofB wd hi xs ys x y = false) := Lib.hid (by unfold dofB; rw [hv, hc]; rfl)
    rw [HR.out]; have H_v := Lib.hid hv; have H_c := Lib.hid hc; clear hv hc lx ly
    have X := Blk.new w #[.int .i64 wd, .int .i64 hi, .bool wb, .slice a xs.length ca, .slice b ys.length cb] 29
    have HB : Hid (Below w.heap.size w (w.alloc (.cells #[.int .i64 wd, .int .i64 hi, .bool wb, .slice a xs.length ca, .slice b ys.length cb] 29))) := Lib.hid ((Below.refl w.heap.size w).alloc (by simp <;> omega) _)
    go_enter Try.func28, Try.ntmps28
    go_wp2_with fail
    generalize (w.alloc (.cells #[.int .i64 wd, .int .i64 hi, .bool wb, .slice a xs.length ca, .slice b ys.length cb] 29)) = u1 at *
    obtain ⟨Xc, Xf⟩ := X.open
    refine (implShapeOf _ _ _ _ _ _ _ _ _ _).mono ?_
    rintro r u2 ⟨rfl, q⟩
    clear Xc Xf
    replace X := X.later q
    replace HB := Lib.hid (HB.out.trans (q.mono HB.out.size))
    clear q
    have H := Blk.new u2 #[.int .i64 wd, .int .i64 hi, .bool wb] 82
    have q := below_new u2 (.cells #[.int .i64 wd, .int .i64 hi, .bool wb] 82)
    replace X := X.later q
    replace HB := Lib.hid (HB.out.trans (q.mono HB.out.size))
    clear q
    have C := Blk.new1 u2 (.cells #[.int .i64 wd, .int .i64 hi, .bool wb] 82) #[.int .i64 x, .int .i64 y] 85
    have q := below_new (u2.alloc (.cells #[.int .i64 wd, .int .i64 hi, .bool wb] 82)) (.cells #[.int .i64 x, .int .i64 y] 85)
    replace X := X.later q
    replace H := H.later q
    replace HB := Lib.hid (HB.out.trans (q.mono HB.out.size))
    clear q
    obtain ⟨Xc, Xf⟩ := X.open
    go_wp2_with fail
    generalize ((u2.alloc (.cells #[.int .i64 wd, .int .i64 hi, .bool wb] 82)).alloc (.cells #[.int .i64 x, .int .i64 y] 85)) = u3 at *
    refine (implValidSheet _ _ _ _ _ _ _ _ _ _ (ha.later HB.out) (hb.later HB.out) hx hy).mono ?_
    rintro r u4 ⟨rfl, q⟩
    clear Xc Xf
    replace X := X.later q
    replace H := H.later q
    replace C := C.later q
    replace HB := Lib.hid (HB.out.trans (q.mono HB.out.size))
    clear q
    rw [H_v.out]
    obtain ⟨Hc, Hf⟩ := H.open
    obtain ⟨Cc, Cf⟩ := C.open
    go_wp2_with fail
    refine (implHas _ _ _ _ _ _ s1 s2 s3 s4).mono ?_
    rintro r u5 ⟨rfl, q⟩
    clear Hc Hf
    clear Cc Cf
    replace X := X.later q
    replace H := H.later q
    replace C := C.later q
    replace HB := Lib.hid (HB.out.trans (q.mono HB.out.size))
    clear q
    rw [H_c.out]
    go_wp2
    go_ret2
    exact ⟨by first | rfl | (rw [HR.out]; rfl), HB.out⟩
  have HR : Hid (dofB wd hi xs ys x y = true) := Lib.hid (by unfold dofB; rw [hv, hc]; rfl)
  rw [HR.out]; have H_v := Lib.hid hv; have H_c := Lib.hid hc
  obtain ⟨x0, x1, y0, y1⟩ := cell_in hc
  clear hv hc lx ly
  have X := Blk.new w #[.int .i64 wd, .int .i64 hi, .bool wb, .slice a xs.length ca, .slice b ys.length cb] 29
  have HB : Hid (Below w.heap.size w (w.alloc (.cells #[.int .i64 wd, .int .i64 hi, .bool wb, .slice a xs.length ca, .slice b ys.length cb] 29))) := Lib.hid ((Below.refl w.heap.size w).alloc (by simp <;> omega) _)
  go_enter Try.func28, Try.ntmps28
  go_wp2_with fail
  generalize (w.alloc (.cells #[.int .i64 wd, .int .i64 hi, .bool wb, .slice a xs.length ca, .slice b ys.length cb] 29)) = u1 at *
  obtain ⟨Xc, Xf⟩ := X.open
  refine (implShapeOf _ _ _ _ _ _ _ _ _ _).mono ?_
  rintro r u2 ⟨rfl, q⟩
  clear Xc Xf
  replace X := X.later q
  replace HB := Lib.hid (HB.out.trans (q.mono HB.out.size))
  clear q
  have H := Blk.new u2 #[.int .i64 wd, .int .i64 hi, .bool wb] 82
  have q := below_new u2 (.cells #[.int .i64 wd, .int .i64 hi, .bool wb] 82)
  replace X := X.later q
  replace HB := Lib.hid (HB.out.trans (q.mono HB.out.size))
  clear q
  have C := Blk.new1 u2 (.cells #[.int .i64 wd, .int .i64 hi, .bool wb] 82) #[.int .i64 x, .int .i64 y] 85
  have q := below_new (u2.alloc (.cells #[.int .i64 wd, .int .i64 hi, .bool wb] 82)) (.cells #[.int .i64 x, .int .i64 y] 85)
  replace X := X.later q
  replace H := H.later q
  replace HB := Lib.hid (HB.out.trans (q.mono HB.out.size))
  clear q
  obtain ⟨Xc, Xf⟩ := X.open
  go_wp2_with fail
  generalize ((u2.alloc (.cells #[.int .i64 wd, .int .i64 hi, .bool wb] 82)).alloc (.cells #[.int .i64 x, .int .i64 y] 85)) = u3 at *
  refine (implValidSheet _ _ _ _ _ _ _ _ _ _ (ha.later HB.out) (hb.later HB.out) hx hy).mono ?_
  rintro r u4 ⟨rfl, q⟩
  clear Xc Xf
  replace X := X.later q
  replace H := H.later q
  replace C := C.later q
  replace HB := Lib.hid (HB.out.trans (q.mono HB.out.size))
  clear q
  rw [H_v.out]
  obtain ⟨Hc, Hf⟩ := H.open
  obtain ⟨Cc, Cf⟩ := C.open
  go_wp2_with fail
  refine (implHas _ _ _ _ _ _ s1 s2 s3 s4).mono ?_
  rintro r u5 ⟨rfl, q⟩
  clear Hc Hf
  clear Cc Cf
  replace X := X.later q
  replace H := H.later q
  replace C := C.later q
  replace HB := Lib.hid (HB.out.trans (q.mono HB.out.size))
  clear q
  rw [H_c.out]
  obtain ⟨Hc, Hf⟩ := H.open
  obtain ⟨Cc, Cf⟩ := C.open
  go_wp2_with fail
  refine (implDepth _ _ _ _ _ _ s1 s2 s3 s4 x0 x1 y0 y1).mono ?_
  rintro r u6 ⟨rfl, q⟩
  clear Hc Hf
  clear Cc Cf
  replace X := X.later q
  replace H := H.later q
  replace C := C.later q
  replace HB := Lib.hid (HB.out.trans (q.mono HB.out.size))
  clear q
  go_wp2
  go_ret2
  exact ⟨by first | rfl | (rw [HR.out]; rfl), HB.out⟩

set_option maxHeartbeats 4000000 in
set_option maxRecDepth 100000 in
theorem specDepthOfL (wd hi : Int) (wb : Bool) (a b : Option Addr) (ca cb : Nat) (xs ys : List Nat) (x y : Int) (w : World) (ha : RowV w a (fvals xs)) (hb : RowV w b (fvals ys)) (qa : ∀ z ∈ xs, z < 2 ^ 32) (qb : ∀ z ∈ ys, z < 2 ^ 32) (hx : xs.length ≤ maxLen) (hy : ys.length ≤ maxLen) (wx : (Lit.int .i64 x).wf = true) (wy : (Lit.int .i64 y).wf = true) :
    Calls Try.prog 27 #[.agg #[.int .i64 wd, .int .i64 hi, .bool wb, .slice a xs.length ca, .slice b ys.length cb], .int .i64 x, .int .i64 y] w fun e w' => e = .returned (.tuple #[.int .i64 (ifI (dofB wd hi xs ys x y) (depI wd hi x y)), .bool (dofB wd hi xs ys x y)]) ∧ Below w.heap.size w w' := by
  rcases hv : validB wd hi xs ys with _ | _
  · skip
    have HR : Hid (dofB wd hi xs ys x y = false) := Lib.hid (by unfold dofB; rw [hv]; rfl)
    rw [HR.out]; have H_v := Lib.hid hv; clear hv
    have X := Blk.new w #[.int .i64 wd, .int .i64 hi, .bool wb, .slice a xs.length ca, .slice b ys.length cb] 29
    have HB : Hid (Below w.heap.size w (w.alloc (.cells #[.int .i64 wd, .int .i64 hi, .bool wb, .slice a xs.length ca, .slice b ys.length cb] 29))) := Lib.hid ((Below.refl w.heap.size w).alloc (by simp <;> omega) _)
    go_enter Try.func27, Try.ntmps27
    go_wp2_with fail
    generalize (w.alloc (.cells #[.int .i64 wd, .int .i64 hi, .bool wb, .slice a xs.length ca, .slice b ys.length cb] 29)) = u1 at *
    refine (specIs _ _ _ _ _ _ _ _ _ _ _ X (ha.later HB.out) (hb.later HB.out) hx hy).mono ?_
    rintro r u2 ⟨rfl, nq, hw⟩
    have q : Below u1.heap.size u1 u2 := by rw [hw]; exact below_drewN (Below.refl _ _) _
    clear hw
    replace X := X.later q
    replace HB := Lib.hid (HB.out.trans (q.mono HB.out.size))
    clear q
    rw [H_v.out]
    go_wp2
    go_ret2
    exact ⟨by first | rfl | (rw [HR.out]; rfl), HB.out⟩
  obtain ⟨s1, s2, s3, s4, hm2, lx, ly⟩ := valid_parts hv
  rcases hc : cellB wd hi x y with _ | _
  · skip
    have HR : Hid (dofB wd hi xs ys x y = false) := Lib.hid (by unfold dofB; rw [hv, hc]; rfl)
    rw [HR.out]; have H_v := Lib.hid hv; have H_c := Lib.hid hc; clear hv hc lx ly
    have X := Blk.new w #[.int .i64 wd, .int .i64 hi, .bool wb, .slice a xs.length ca, .slice b ys.length cb] 29
    have HB : Hid (Below w.heap.size w (w.alloc (.cells #[.int .i64 wd, .int .i64 hi, .bool wb, .slice a xs.length ca, .slice b ys.length cb] 29))) := Lib.hid ((Below.refl w.heap.size w).alloc (by simp <;> omega) _)
    go_enter Try.func27, Try.ntmps27
    go_wp2_with fail
    generalize (w.alloc (.cells #[.int .i64 wd, .int .i64 hi, .bool wb, .slice a xs.length ca, .slice b ys.length cb] 29)) = u1 at *
    refine (specIs _ _ _ _ _ _ _ _ _ _ _ X (ha.later HB.out) (hb.later HB.out) hx hy).mono ?_
    rintro r u2 ⟨rfl, nq, hw⟩
    have q : Below u1.heap.size u1 u2 := by rw [hw]; exact below_drewN (Below.refl _ _) _
    clear hw
    replace X := X.later q
    replace HB := Lib.hid (HB.out.trans (q.mono HB.out.size))
    clear q
    rw [H_v.out]
    obtain ⟨Xc, Xf⟩ := X.open
    go_wp2_with fail
    refine (specCell _ _ _ _ _ _ _ _ _ X s1 s2 s3 s4).mono ?_
    rintro r w' ⟨rfl, rfl⟩
    rw [H_c.out]
    go_wp2
    go_ret2
    exact ⟨by first | rfl | (rw [HR.out]; rfl), HB.out⟩
  have HR : Hid (dofB wd hi xs ys x y = true) := Lib.hid (by unfold dofB; rw [hv, hc]; rfl)
  rw [HR.out]; have H_v := Lib.hid hv; have H_c := Lib.hid hc
  obtain ⟨x0, x1, y0, y1⟩ := cell_in hc
  obtain ⟨n, hn⟩ := Int.eq_ofNat_of_zero_le (show 0 ≤ wd * hi by omega)
  obtain ⟨i0, i1⟩ := cell_lt hn x0 x1 y0 y1
  have i2 : x + wd * y < wd * hi := by rw [hn]; exact i1
  obtain ⟨m0, m1⟩ := mul_in0 s1 y0 y1 hm2
  have HE : Hid ((x + wd * y) % wd = x ∧ (x + wd * y) / wd = y) := Lib.hid ⟨by rw [Int.add_mul_emod_self_left, Int.emod_eq_of_lt x0 x1], by rw [Int.add_mul_ediv_left _ _ (by omega), Int.ediv_eq_zero_of_lt x0 x1, Int.zero_add]⟩
  clear hn i1
  clear hv hc lx ly
  have X := Blk.new w #[.int .i64 wd, .int .i64 hi, .bool wb, .slice a xs.length ca, .slice b ys.length cb] 29
  have HB : Hid (Below w.heap.size w (w.alloc (.cells #[.int .i64 wd, .int .i64 hi, .bool wb, .slice a xs.length ca, .slice b ys.length cb] 29))) := Lib.hid ((Below.refl w.heap.size w).alloc (by simp <;> omega) _)
  go_enter Try.func27, Try.ntmps27
  go_wp2_with fail
  generalize (w.alloc (.cells #[.int .i64 wd, .int .i64 hi, .bool wb, .slice a xs.length ca, .slice b ys.length cb] 29)) = u1 at *
  refine (specIs _ _ _ _ _ _ _ _ _ _ _ X (ha.later HB.out) (hb.later HB.out) hx hy).mono ?_
  rintro r u2 ⟨rfl, nq, hw⟩
  have q : Below u1.heap.size u1 u2 := by rw [hw]; exact below_drewN (Below.refl _ _) _
  clear hw
  replace X := X.later q
  replace HB := Lib.hid (HB.out.trans (q.mono HB.out.size))
  clear q
  rw [H_v.out]
  obtain ⟨Xc, Xf⟩ := X.open
  go_wp2_with fail
  refine (specCell _ _ _ _ _ _ _ _ _ X s1 s2 s3 s4).mono ?_
  rintro r w' ⟨rfl, rfl⟩
  rw [H_c.out]
  clear Xc Xf
  obtain ⟨Xc, Xf⟩ := X.open
  go_wp2_with fail
  refine (specDepth _ _ _ _ _ _ _ _ X s1 s2 s3 s4 i0 i2 hm2).mono ?_
  rintro r u3 ⟨rfl, q⟩
  clear Xc Xf
  replace X := X.later q
  replace HB := Lib.hid (HB.out.trans (q.mono HB.out.size))
  clear q
  rw [HE.out.1, HE.out.2]
  go_wp2
  go_ret2
  exact ⟨by first | rfl | (rw [HR.out]; rfl), HB.out⟩

end Go.Proofs.Ythlkndjllhdppaa
