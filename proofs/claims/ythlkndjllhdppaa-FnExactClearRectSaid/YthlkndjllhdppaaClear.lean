/- Fields with a rect that is cleared: the program's closure. Conditions: none beyond those of each theorem. -/
import Derived.Test.YthlkndjllhdppaaFill
import Derived.Test.YthlkndjllhdppaaRamp
namespace Go.Proofs.Ythlkndjllhdppaa
open Go Ieee Go.RowKit
set_option linter.unusedVariables false
set_option linter.unusedSimpArgs false

def clearB (wd hi : Int) (wb : Bool) (xs ys e x y : List Nat) (rx ry rw rh : Int) : Bool := fieldB wd hi wb xs ys e x y && isRectB wd hi xs ys rx ry rw rh

set_option maxHeartbeats 8000000 in
set_option maxRecDepth 100000 in
theorem implCleared (wd hi : Int) (wb : Bool) (rx ry rw rh : Int) (gh gq ba oa ca n : Nat) (xs : List Nat) (w : World) (H : Blk w gh #[.int .i64 wd, .int .i64 hi, .bool wb] 82) (Q : Blk w gq #[.int .i64 rx, .int .i64 ry, .int .i64 rw, .int .i64 rh] 39) (ha : RowV w (some ⟨ba, oa, none⟩) (fvals xs)) (qa : ∀ z ∈ xs, z < 2 ^ 32) (hx : xs.length = n) (s1 : 3 ≤ wd) (s2 : wd ≤ 16) (n0 : 0 < n) (n256 : n ≤ 256) (q1 : rx + rw ≤ 1000000) (q2 : ry + rh ≤ 1000000) (q3 : 0 ≤ rx) (q4 : 0 ≤ ry) (q5 : 1 ≤ rw) (q6 : 1 ≤ rh) :
    Calls Try.prog 96 #[.slice (some ⟨ba, oa, none⟩) n ca, .pointer (some ⟨gh, 0, none⟩), .pointer (some ⟨gq, 0, none⟩)] w fun e w' => ∃ g c L, e = .returned (.slice (some ⟨g, 0, none⟩) n c) ∧ OwnV w' w.heap.size (some ⟨g, 0, none⟩) (fvals L) ∧ L.length = n ∧ Is L (chgC (inP wd rx ry rw rh) (fun _ => canon .f32 0) xs) ∧ Below w.heap.size w w' := by
  have HX := Lib.hid hx; clear hx
  go_enter Try.func96, Try.ntmps96
  go_wp2_with fail
  refine wp_region_noPanic ?_
  refine wp_region_plan (Grows w) 6 [(0, true), (1, true), (2, true), (3, true), (4, false), (5, false)] (by kernel_rfl) (by kernel_rfl) (fun _ _ _ _ _ h => h) (Grows.drew _) ?_
  (refine plan_load rfl rfl (⟨gh, 0, none⟩) (by kernel_rfl) (.agg #[.int .i64 wd, .int .i64 hi, .bool wb]) (fun w' hw' => run_loadVar_row w' _ _ _ _ _ _ (H.later hw') Try.underlying82 rfl (by kernel_rfl)) ?_; simp only [Act.put, List.setIfInBounds_toArray, List.set_cons_zero, List.set_cons_succ])
  (refine plan_plain rfl rfl ?_ ?_ ?_; rotate_left; focus (intro w9; go_simp <;> with_reducible rfl)); (simp only [Act.put, List.setIfInBounds_toArray, List.set_cons_zero, List.set_cons_succ])
  (refine plan_load rfl rfl (⟨gq, 0, none⟩) (by kernel_rfl) (.agg #[.int .i64 rx, .int .i64 ry, .int .i64 rw, .int .i64 rh]) (fun w' hw' => run_loadVar_row w' _ _ _ _ _ _ (Q.later hw') Try.underlying39 rfl (by kernel_rfl)) ?_; simp only [Act.put, List.setIfInBounds_toArray, List.set_cons_zero, List.set_cons_succ])
  (refine plan_plain rfl rfl ?_ ?_ ?_; rotate_left; focus (intro w9; go_simp <;> with_reducible rfl)); (simp only [Act.put, List.setIfInBounds_toArray, List.set_cons_zero, List.set_cons_succ])
  have v0_ := Grows.drew w
  generalize w.drew = v0 at *
  refine plan_call rfl rfl 95 #[] #[] rfl _ Try.func95 (by kernel_rfl) (by kernel_rfl) [.float .f32 0] (by kernel_rfl) #[.float .f32 0] (by simp) _ (implAlways 0 v0) ?_
  rintro e pa ⟨gb0, rfl, BA0, _, bb0a⟩
  refine ⟨_, rfl, v0_.next bb0a, ?_⟩
  simp only [Act.put, List.setIfInBounds_toArray, List.set_cons_zero, List.set_cons_succ]
  have pa_ := v0_.next bb0a
  have ee0 := ha.later pa_
  have HCH := implChanged wd hi wb ba oa ca n xs 94 126 #[.agg #[.int .i64 rx, .int .i64 ry, .int .i64 rw, .int .i64 rh]] #[] #[] #[.pointer (some ⟨gb0, 0, none⟩)] (inP wd rx ry rw rh) (fun _ => canon .f32 0) pa ee0 qa HX.out s1 s2 n0 n256 (by exact ⟨_, rfl, by kernel_rfl, by kernel_rfl⟩) (by exact ⟨_, rfl, by kernel_rfl, by kernel_rfl⟩) (fun i hlt w' hw' => implRHas rx ry rw rh ((i : Int) % wd) ((i : Int) / wd) w' q1 q2 q3 q4 q5 q6) (always_zero (p := inP wd rx ry rw rh) (n := n) (wd := wd) (xs := xs) gb0 0 pa BA0 (by omega))
  refine plan_call rfl rfl 84 #[] #[] rfl _ Try.func84 (by kernel_rfl) (by kernel_rfl) [.agg #[.int .i64 wd, .int .i64 hi, .bool wb], .slice (some ⟨ba, oa, none⟩) n ca, .func (.func 94) #[.agg #[.int .i64 rx, .int .i64 ry, .int .i64 rw, .int .i64 rh]] #[], .func (.func 126) #[] #[.pointer (some ⟨gb0, 0, none⟩)]] (by kernel_rfl) #[.agg #[.int .i64 wd, .int .i64 hi, .bool wb], .slice (some ⟨ba, oa, none⟩) n ca, .func (.func 94) #[.agg #[.int .i64 rx, .int .i64 ry, .int .i64 rw, .int .i64 rh]] #[], .func (.func 126) #[] #[.pointer (some ⟨gb0, 0, none⟩)]] (by simp) _ (HCH) ?_
  rintro e pb ⟨g0, k0, L0, rfl, oo0, hL0, hI0, bb0b⟩
  refine ⟨_, rfl, pa_.next bb0b, ?_⟩
  simp only [Act.put, List.setIfInBounds_toArray, List.set_cons_zero, List.set_cons_succ]
  have pb_ := pa_.next bb0b; clear HCH
  change wpList _ _ _ _ _ _
  simp only [List.drop_succ_cons, List.drop_zero]
  go_wp2_with fail
  refine NoPanic.normal ?_
  go_wp2
  refine bodyPost_ret (v := .slice (some ⟨g0, 0, none⟩) n k0) (by simp [results, Try.results96, go_sem]) rfl ⟨g0, k0, L0, rfl, oo0.lower (Below.size pa_), hL0, hI0, pb_⟩

set_option maxHeartbeats 8000000 in
set_option maxRecDepth 100000 in
theorem implClearRectL (wd hi : Int) (wb : Bool) (a b : Option Addr) (ca cb : Nat) (xs ys : List Nat) (a0 a1 a2 : Option Addr) (c0 c1 c2 : Nat) (e x y : List Nat) (rx ry rw rh : Int) (w : World) (ha : RowV w a (fvals xs)) (hb : RowV w b (fvals ys)) (qa : ∀ z ∈ xs, z < 2 ^ 32) (qb : ∀ z ∈ ys, z < 2 ^ 32) (hx : xs.length ≤ maxLen) (hy : ys.length ≤ maxLen) (h0 : RowV w a0 (fvals e)) (h1 : RowV w a1 (fvals x)) (h2 : RowV w a2 (fvals y)) (q0 : ∀ z ∈ e, z < 2 ^ 32) (q1 : ∀ z ∈ x, z < 2 ^ 32) (q2 : ∀ z ∈ y, z < 2 ^ 32) (m0 : e.length ≤ maxLen) (m1 : x.length ≤ maxLen) (m2 : y.length ≤ maxLen) :
    Calls Try.prog 42 #[.agg #[.int .i64 wd, .int .i64 hi, .bool wb, .slice a xs.length ca, .slice b ys.length cb], .agg #[.slice a0 e.length c0, .slice a1 x.length c1, .slice a2 y.length c2], .agg #[.int .i64 rx, .int .i64 ry, .int .i64 rw, .int .i64 rh]] w (GaveO w (clearB wd hi wb xs ys e x y rx ry rw rh) (chgC (inP wd rx ry rw rh) (fun _ => canon .f32 0) e) (chgC (inP wd rx ry rw rh) (fun _ => canon .f32 0) x) (chgC (inP wd rx ry rw rh) (fun _ => canon .f32 0) y)) := by
  rcases hfv : fieldB wd hi wb xs ys e x y with _ | _
  · skip
    refine Calls.mono ?_ (fun e w9 h9 => rampO_no (by unfold clearB; rw [hfv]; rfl) h9)
    have H_fb := Lib.hid hfv; clear hfv
    have X := Blk.new w #[.int .i64 wd, .int .i64 hi, .bool wb, .slice a xs.length ca, .slice b ys.length cb] 29
    have Y := Blk.new1 w (.cells #[.int .i64 wd, .int .i64 hi, .bool wb, .slice a xs.length ca, .slice b ys.length cb] 29) #[.slice a0 e.length c0, .slice a1 x.length c1, .slice a2 y.length c2] 52
    replace X := X.alloc (.cells #[.slice a0 e.length c0, .slice a1 x.length c1, .slice a2 y.length c2] 52)
    have Q := Blk.new2 w (.cells #[.int .i64 wd, .int .i64 hi, .bool wb, .slice a xs.length ca, .slice b ys.length cb] 29) (.cells #[.slice a0 e.length c0, .slice a1 x.length c1, .slice a2 y.length c2] 52) #[.int .i64 rx, .int .i64 ry, .int .i64 rw, .int .i64 rh] 39
    replace X := X.alloc (.cells #[.int .i64 rx, .int .i64 ry, .int .i64 rw, .int .i64 rh] 39)
    replace Y := Y.alloc (.cells #[.int .i64 rx, .int .i64 ry, .int .i64 rw, .int .i64 rh] 39)
    have R := Blk.new3 w (.cells #[.int .i64 wd, .int .i64 hi, .bool wb, .slice a xs.length ca, .slice b ys.length cb] 29) (.cells #[.slice a0 e.length c0, .slice a1 x.length c1, .slice a2 y.length c2] 52) (.cells #[.int .i64 rx, .int .i64 ry, .int .i64 rw, .int .i64 rh] 39) #[.slice none 0 0, .slice none 0 0, .slice none 0 0] 52
    replace X := X.alloc (.cells #[.slice none 0 0, .slice none 0 0, .slice none 0 0] 52)
    replace Y := Y.alloc (.cells #[.slice none 0 0, .slice none 0 0, .slice none 0 0] 52)
    replace Q := Q.alloc (.cells #[.slice none 0 0, .slice none 0 0, .slice none 0 0] 52)
    have HB : Hid (Below w.heap.size w ((((w.alloc (.cells #[.int .i64 wd, .int .i64 hi, .bool wb, .slice a xs.length ca, .slice b ys.length cb] 29)).alloc (.cells #[.slice a0 e.length c0, .slice a1 x.length c1, .slice a2 y.length c2] 52)).alloc (.cells #[.int .i64 rx, .int .i64 ry, .int .i64 rw, .int .i64 rh] 39)).alloc (.cells #[.slice none 0 0, .slice none 0 0, .slice none 0 0] 52))) := Lib.hid (((((Below.refl w.heap.size w).alloc (by simp <;> omega) _).alloc (by simp <;> omega) _).alloc (by simp <;> omega) _).alloc (by simp <;> omega) _)
    go_enter Try.func42, Try.ntmps42
    go_wp2_with fail
    generalize ((((w.alloc (.cells #[.int .i64 wd, .int .i64 hi, .bool wb, .slice a xs.length ca, .slice b ys.length cb] 29)).alloc (.cells #[.slice a0 e.length c0, .slice a1 x.length c1, .slice a2 y.length c2] 52)).alloc (.cells #[.int .i64 rx, .int .i64 ry, .int .i64 rw, .int .i64 rh] 39)).alloc (.cells #[.slice none 0 0, .slice none 0 0, .slice none 0 0] 52)) = u1 at *
    refine (implIsField _ _ _ _ _ _ _ _ _ _ _ _ _ _ _ _ _ _ _ (ha.later HB.out) (hb.later HB.out) hx hy (h0.later HB.out) (h1.later HB.out) (h2.later HB.out) m0 m1 m2).mono ?_
    rintro r u2 ⟨rfl, q⟩
    replace X := X.later q
    replace Y := Y.later q
    replace Q := Q.later q
    replace R := R.later q
    replace HB := Lib.hid (HB.out.trans (q.mono HB.out.size))
    clear q
    rw [H_fb.out]
    obtain ⟨Rc, Rf⟩ := R.open
    go_wp2
    refine bodyPost_ret (v := .tuple #[.agg #[.slice none 0 0, .slice none 0 0, .slice none 0 0], .bool false]) (by simp [results, Try.results42, go_sem, Rc]) rfl ⟨none, none, none, 0, 0, 0, [], [], [], rfl, GotField.none (((HB.out.setCell (p := ⟨w.heap.size + 1 + 1 + 1, 0, none⟩) (by first | omega | (simp <;> omega)) _).setCell (p := ⟨w.heap.size + 1 + 1 + 1, 1, none⟩) (by first | omega | (simp <;> omega)) _).setCell (p := ⟨w.heap.size + 1 + 1 + 1, 2, none⟩) (by first | omega | (simp <;> omega)) _)⟩
  have HB0 : Hid (clearB wd hi wb xs ys e x y rx ry rw rh = isRectB wd hi xs ys rx ry rw rh) := Lib.hid (by unfold clearB; rw [hfv]; rfl)
  obtain ⟨p1, _, l0, l1, l2⟩ := field_parts hfv
  obtain ⟨s1, s2, s3, s4, hm2, lx, ly⟩ := valid_parts p1
  obtain ⟨t1, t2⟩ := (sides_mul (valid_sides p1)).2.2.2.2
  obtain ⟨n, hn⟩ := Int.eq_ofNat_of_zero_le (show 0 ≤ wd * hi by omega)
  have E0 : e.length = n := by omega
  have E1 : x.length = n := by omega
  have E2 : y.length = n := by omega
  have n256 : n ≤ 256 := by omega
  have n0 : 0 < n := by omega
  obtain ⟨b0, o0, rfl, hz0⟩ := h0 0 _ (fvals_get (show 0 < e.length by omega)); clear hz0
  obtain ⟨b1, o1, rfl, hz1⟩ := h1 0 _ (fvals_get (show 0 < x.length by omega)); clear hz1
  obtain ⟨b2, o2, rfl, hz2⟩ := h2 0 _ (fvals_get (show 0 < y.length by omega)); clear hz2
  have CV : ∀ u, Below w.heap.size w u → Calls Try.prog 90 #[.agg #[.int .i64 wd, .int .i64 hi, .bool wb, .slice a xs.length ca, .slice b ys.length cb], .agg #[.slice (some ⟨b0, o0, none⟩) n c0, .slice (some ⟨b1, o1, none⟩) n c1, .slice (some ⟨b2, o2, none⟩) n c2]] u fun e w' => e = .returned (.bool true) ∧ Below u.heap.size u w' := fun u hu => by
    have := implIsField wd hi wb a b ca cb xs ys (some ⟨b0, o0, none⟩) (some ⟨b1, o1, none⟩) (some ⟨b2, o2, none⟩) c0 c1 c2 e x y u (ha.later hu) (hb.later hu) hx hy (h0.later hu) (h1.later hu) (h2.later hu) m0 m1 m2
    rw [E0, E1, E2, hfv] at this; exact this
  have HCV := Lib.hid CV; clear CV
  rw [E0, E1, E2]
  have HN := Lib.hid hn; have L0 := Lib.hid E0; have L1 := Lib.hid E1; have L2 := Lib.hid E2; clear hn E0 E1 E2 l0 l1 l2 lx ly t1 t2
  clear p1 hfv
  rcases hwi : isRectB wd hi xs ys rx ry rw rh with _ | _
  · skip
    refine Calls.mono ?_ (fun e w9 h9 => rampO_no (by rw [HB0.out, hwi]) h9)
    have HW := Lib.hid hwi; clear hwi
    have X := Blk.new w #[.int .i64 wd, .int .i64 hi, .bool wb, .slice a xs.length ca, .slice b ys.length cb] 29
    have Y := Blk.new1 w (.cells #[.int .i64 wd, .int .i64 hi, .bool wb, .slice a xs.length ca, .slice b ys.length cb] 29) #[.slice (some ⟨b0, o0, none⟩) n c0, .slice (some ⟨b1, o1, none⟩) n c1, .slice (some ⟨b2, o2, none⟩) n c2] 52
    replace X := X.alloc (.cells #[.slice (some ⟨b0, o0, none⟩) n c0, .slice (some ⟨b1, o1, none⟩) n c1, .slice (some ⟨b2, o2, none⟩) n c2] 52)
    have Q := Blk.new2 w (.cells #[.int .i64 wd, .int .i64 hi, .bool wb, .slice a xs.length ca, .slice b ys.length cb] 29) (.cells #[.slice (some ⟨b0, o0, none⟩) n c0, .slice (some ⟨b1, o1, none⟩) n c1, .slice (some ⟨b2, o2, none⟩) n c2] 52) #[.int .i64 rx, .int .i64 ry, .int .i64 rw, .int .i64 rh] 39
    replace X := X.alloc (.cells #[.int .i64 rx, .int .i64 ry, .int .i64 rw, .int .i64 rh] 39)
    replace Y := Y.alloc (.cells #[.int .i64 rx, .int .i64 ry, .int .i64 rw, .int .i64 rh] 39)
    have R := Blk.new3 w (.cells #[.int .i64 wd, .int .i64 hi, .bool wb, .slice a xs.length ca, .slice b ys.length cb] 29) (.cells #[.slice (some ⟨b0, o0, none⟩) n c0, .slice (some ⟨b1, o1, none⟩) n c1, .slice (some ⟨b2, o2, none⟩) n c2] 52) (.cells #[.int .i64 rx, .int .i64 ry, .int .i64 rw, .int .i64 rh] 39) #[.slice none 0 0, .slice none 0 0, .slice none 0 0] 52
    replace X := X.alloc (.cells #[.slice none 0 0, .slice none 0 0, .slice none 0 0] 52)
    replace Y := Y.alloc (.cells #[.slice none 0 0, .slice none 0 0, .slice none 0 0] 52)
    replace Q := Q.alloc (.cells #[.slice none 0 0, .slice none 0 0, .slice none 0 0] 52)
    have HB : Hid (Below w.heap.size w ((((w.alloc (.cells #[.int .i64 wd, .int .i64 hi, .bool wb, .slice a xs.length ca, .slice b ys.length cb] 29)).alloc (.cells #[.slice (some ⟨b0, o0, none⟩) n c0, .slice (some ⟨b1, o1, none⟩) n c1, .slice (some ⟨b2, o2, none⟩) n c2] 52)).alloc (.cells #[.int .i64 rx, .int .i64 ry, .int .i64 rw, .int .i64 rh] 39)).alloc (.cells #[.slice none 0 0, .slice none 0 0, .slice none 0 0] 52))) := Lib.hid (((((Below.refl w.heap.size w).alloc (by simp <;> omega) _).alloc (by simp <;> omega) _).alloc (by simp <;> omega) _).alloc (by simp <;> omega) _)
    go_enter Try.func42, Try.ntmps42
    go_wp2_with fail
    generalize ((((w.alloc (.cells #[.int .i64 wd, .int .i64 hi, .bool wb, .slice a xs.length ca, .slice b ys.length cb] 29)).alloc (.cells #[.slice (some ⟨b0, o0, none⟩) n c0, .slice (some ⟨b1, o1, none⟩) n c1, .slice (some ⟨b2, o2, none⟩) n c2] 52)).alloc (.cells #[.int .i64 rx, .int .i64 ry, .int .i64 rw, .int .i64 rh] 39)).alloc (.cells #[.slice none 0 0, .slice none 0 0, .slice none 0 0] 52)) = u1 at *
    refine (HCV.out _ HB.out).mono ?_
    rintro r u2 ⟨rfl, q⟩
    replace X := X.later q
    replace Y := Y.later q
    replace Q := Q.later q
    replace R := R.later q
    replace HB := Lib.hid (HB.out.trans (q.mono HB.out.size))
    clear q
    obtain ⟨Xc, Xf⟩ := X.open
    obtain ⟨Qc, Qf⟩ := Q.open
    go_wp2_with fail
    refine (implIsRect _ _ _ _ _ _ _ _ _ _ _ _ _ _ (ha.later HB.out) (hb.later HB.out) hx hy).mono ?_
    rintro r u3 ⟨rfl, q⟩
    clear Xc Xf
    clear Qc Qf
    replace X := X.later q
    replace Y := Y.later q
    replace Q := Q.later q
    replace R := R.later q
    replace HB := Lib.hid (HB.out.trans (q.mono HB.out.size))
    clear q
    rw [HW.out]
    obtain ⟨Rc, Rf⟩ := R.open
    go_wp2
    refine bodyPost_ret (v := .tuple #[.agg #[.slice none 0 0, .slice none 0 0, .slice none 0 0], .bool false]) (by simp [results, Try.results42, go_sem, Rc]) rfl ⟨none, none, none, 0, 0, 0, [], [], [], rfl, GotField.none (((HB.out.setCell (p := ⟨w.heap.size + 1 + 1 + 1, 0, none⟩) (by first | omega | (simp <;> omega)) _).setCell (p := ⟨w.heap.size + 1 + 1 + 1, 1, none⟩) (by first | omega | (simp <;> omega)) _).setCell (p := ⟨w.heap.size + 1 + 1 + 1, 2, none⟩) (by first | omega | (simp <;> omega)) _)⟩
  have HBT : Hid (clearB wd hi wb xs ys e x y rx ry rw rh = true) := Lib.hid (by rw [HB0.out, hwi])
  obtain ⟨hvv, hrr⟩ : validB wd hi xs ys = true ∧ rectB wd hi rx ry rw rh = true := by unfold isRectB at hwi; simpa using hwi
  obtain ⟨r1, r2, r3, r4, r5, r6⟩ := rect_sum s2 s4 hrr
  have HW := Lib.hid hwi; clear hwi hvv hrr
  have X := Blk.new w #[.int .i64 wd, .int .i64 hi, .bool wb, .slice a xs.length ca, .slice b ys.length cb] 29
  have Y := Blk.new1 w (.cells #[.int .i64 wd, .int .i64 hi, .bool wb, .slice a xs.length ca, .slice b ys.length cb] 29) #[.slice (some ⟨b0, o0, none⟩) n c0, .slice (some ⟨b1, o1, none⟩) n c1, .slice (some ⟨b2, o2, none⟩) n c2] 52
  replace X := X.alloc (.cells #[.slice (some ⟨b0, o0, none⟩) n c0, .slice (some ⟨b1, o1, none⟩) n c1, .slice (some ⟨b2, o2, none⟩) n c2] 52)
  have Q := Blk.new2 w (.cells #[.int .i64 wd, .int .i64 hi, .bool wb, .slice a xs.length ca, .slice b ys.length cb] 29) (.cells #[.slice (some ⟨b0, o0, none⟩) n c0, .slice (some ⟨b1, o1, none⟩) n c1, .slice (some ⟨b2, o2, none⟩) n c2] 52) #[.int .i64 rx, .int .i64 ry, .int .i64 rw, .int .i64 rh] 39
  replace X := X.alloc (.cells #[.int .i64 rx, .int .i64 ry, .int .i64 rw, .int .i64 rh] 39)
  replace Y := Y.alloc (.cells #[.int .i64 rx, .int .i64 ry, .int .i64 rw, .int .i64 rh] 39)
  have R := Blk.new3 w (.cells #[.int .i64 wd, .int .i64 hi, .bool wb, .slice a xs.length ca, .slice b ys.length cb] 29) (.cells #[.slice (some ⟨b0, o0, none⟩) n c0, .slice (some ⟨b1, o1, none⟩) n c1, .slice (some ⟨b2, o2, none⟩) n c2] 52) (.cells #[.int .i64 rx, .int .i64 ry, .int .i64 rw, .int .i64 rh] 39) #[.slice none 0 0, .slice none 0 0, .slice none 0 0] 52
  replace X := X.alloc (.cells #[.slice none 0 0, .slice none 0 0, .slice none 0 0] 52)
  replace Y := Y.alloc (.cells #[.slice none 0 0, .slice none 0 0, .slice none 0 0] 52)
  replace Q := Q.alloc (.cells #[.slice none 0 0, .slice none 0 0, .slice none 0 0] 52)
  have HB : Hid (Below w.heap.size w ((((w.alloc (.cells #[.int .i64 wd, .int .i64 hi, .bool wb, .slice a xs.length ca, .slice b ys.length cb] 29)).alloc (.cells #[.slice (some ⟨b0, o0, none⟩) n c0, .slice (some ⟨b1, o1, none⟩) n c1, .slice (some ⟨b2, o2, none⟩) n c2] 52)).alloc (.cells #[.int .i64 rx, .int .i64 ry, .int .i64 rw, .int .i64 rh] 39)).alloc (.cells #[.slice none 0 0, .slice none 0 0, .slice none 0 0] 52))) := Lib.hid (((((Below.refl w.heap.size w).alloc (by simp <;> omega) _).alloc (by simp <;> omega) _).alloc (by simp <;> omega) _).alloc (by simp <;> omega) _)
  go_enter Try.func42, Try.ntmps42
  go_wp2_with fail
  generalize ((((w.alloc (.cells #[.int .i64 wd, .int .i64 hi, .bool wb, .slice a xs.length ca, .slice b ys.length cb] 29)).alloc (.cells #[.slice (some ⟨b0, o0, none⟩) n c0, .slice (some ⟨b1, o1, none⟩) n c1, .slice (some ⟨b2, o2, none⟩) n c2] 52)).alloc (.cells #[.int .i64 rx, .int .i64 ry, .int .i64 rw, .int .i64 rh] 39)).alloc (.cells #[.slice none 0 0, .slice none 0 0, .slice none 0 0] 52)) = u1 at *
  refine (HCV.out _ HB.out).mono ?_
  rintro r u2 ⟨rfl, q⟩
  replace X := X.later q
  replace Y := Y.later q
  replace Q := Q.later q
  replace R := R.later q
  replace HB := Lib.hid (HB.out.trans (q.mono HB.out.size))
  clear q
  obtain ⟨Xc, Xf⟩ := X.open
  obtain ⟨Qc, Qf⟩ := Q.open
  go_wp2_with fail
  refine (implIsRect _ _ _ _ _ _ _ _ _ _ _ _ _ _ (ha.later HB.out) (hb.later HB.out) hx hy).mono ?_
  rintro r u3 ⟨rfl, q⟩
  clear Xc Xf
  clear Qc Qf
  replace X := X.later q
  replace Y := Y.later q
  replace Q := Q.later q
  replace R := R.later q
  replace HB := Lib.hid (HB.out.trans (q.mono HB.out.size))
  clear q
  rw [HW.out]
  obtain ⟨Xc, Xf⟩ := X.open
  go_wp2_with fail
  refine (implShapeOf _ _ _ _ _ _ _ _ _ _).mono ?_
  rintro r u4 ⟨rfl, q⟩
  clear Xc Xf
  replace X := X.later q
  replace Y := Y.later q
  replace Q := Q.later q
  replace R := R.later q
  replace HB := Lib.hid (HB.out.trans (q.mono HB.out.size))
  clear q
  have H := Blk.new u4 #[.int .i64 wd, .int .i64 hi, .bool wb] 82
  have q := below_new u4 (.cells #[.int .i64 wd, .int .i64 hi, .bool wb] 82)
  replace X := X.later q
  replace Y := Y.later q
  replace Q := Q.later q
  replace R := R.later q
  replace HB := Lib.hid (HB.out.trans (q.mono HB.out.size))
  clear q
  go_wp2_with fail
  generalize (u4.alloc (.cells #[.int .i64 wd, .int .i64 hi, .bool wb] 82)) = u5 at *
  obtain ⟨gh0, hgh0⟩ : ∃ gh0, gh0 = u4.heap.size := ⟨_, rfl⟩
  rw [← hgh0] at H
  (try simp only [← hgh0])
  clear hgh0
  have HBU := HB.out; have zr := R.lt; have zu := HBU.size
  have aslc : ∀ w, (isAgg 22).run Try.prog w = .ok false w := fun w => by kernel_rfl
  obtain ⟨Yc, Yf⟩ := Y.open
  refine wp_region_noPanic ?_
  refine wp_region_plan (Grows u5) 13 [(0, true), (1, true), (2, true), (4, true), (5, true), (6, true), (8, true), (9, true), (10, true), (3, false), (7, false), (11, false), (12, true)] (by kernel_rfl) (by kernel_rfl) (fun _ _ _ _ _ h => h) (Grows.drew _) ?_
  (refine plan_plain rfl rfl ?_ ?_ ?_; rotate_left; focus (intro w9; go_simp <;> with_reducible rfl)); (simp only [Act.put, List.setIfInBounds_toArray, List.set_cons_zero, List.set_cons_succ])
  (refine plan_plain rfl rfl ?_ ?_ ?_; rotate_left; focus (intro w9; go_simp <;> with_reducible rfl)); (simp only [Act.put, List.setIfInBounds_toArray, List.set_cons_zero, List.set_cons_succ])
  (refine plan_load rfl rfl (⟨w.heap.size + 1, 0, none⟩) (by kernel_rfl) (.slice (some ⟨b0, o0, none⟩) n c0) (load_cell aslc (Yc 0)) ?_; simp only [Act.put, List.setIfInBounds_toArray, List.set_cons_zero, List.set_cons_succ])
  (refine plan_plain rfl rfl ?_ ?_ ?_; rotate_left; focus (intro w9; go_simp <;> with_reducible rfl)); (simp only [Act.put, List.setIfInBounds_toArray, List.set_cons_zero, List.set_cons_succ])
  (refine plan_plain rfl rfl ?_ ?_ ?_; rotate_left; focus (intro w9; go_simp <;> with_reducible rfl)); (simp only [Act.put, List.setIfInBounds_toArray, List.set_cons_zero, List.set_cons_succ])
  (refine plan_load rfl rfl (⟨w.heap.size + 1, 1, none⟩) (by kernel_rfl) (.slice (some ⟨b1, o1, none⟩) n c1) (load_cell aslc (Yc 1)) ?_; simp only [Act.put, List.setIfInBounds_toArray, List.set_cons_zero, List.set_cons_succ])
  (refine plan_plain rfl rfl ?_ ?_ ?_; rotate_left; focus (intro w9; go_simp <;> with_reducible rfl)); (simp only [Act.put, List.setIfInBounds_toArray, List.set_cons_zero, List.set_cons_succ])
  (refine plan_plain rfl rfl ?_ ?_ ?_; rotate_left; focus (intro w9; go_simp <;> with_reducible rfl)); (simp only [Act.put, List.setIfInBounds_toArray, List.set_cons_zero, List.set_cons_succ])
  (refine plan_load rfl rfl (⟨w.heap.size + 1, 2, none⟩) (by kernel_rfl) (.slice (some ⟨b2, o2, none⟩) n c2) (load_cell aslc (Yc 2)) ?_; simp only [Act.put, List.setIfInBounds_toArray, List.set_cons_zero, List.set_cons_succ])
  have v0_ := Grows.drew u5
  generalize u5.drew = v0 at *
  have ee0 := h0.later (HBU.trans (Below.mono v0_ zu))
  refine plan_call rfl rfl 96 #[] #[.pointer (some ⟨gh0, 0, none⟩), .pointer (some ⟨w.heap.size + 1 + 1, 0, none⟩)] (by kernel_rfl) _ Try.func96 (by kernel_rfl) (by kernel_rfl) [.slice (some ⟨b0, o0, none⟩) n c0] (by kernel_rfl) #[.slice (some ⟨b0, o0, none⟩) n c0, .pointer (some ⟨gh0, 0, none⟩), .pointer (some ⟨w.heap.size + 1 + 1, 0, none⟩)] (by simp) _ (implCleared wd hi wb rx ry rw rh gh0 (w.heap.size + 1 + 1) b0 o0 c0 n e v0 (H.later v0_) (Q.later v0_) ee0 q0 L0.out s1 s2 n0 n256 r1 r2 r3 r4 r5 r6) ?_
  rintro e v1 ⟨g0, k0, N0, rfl, oo0, hL0, hI0, bb0⟩
  refine ⟨_, rfl, v0_.next bb0, ?_⟩
  simp only [Act.put, List.setIfInBounds_toArray, List.set_cons_zero, List.set_cons_succ]
  have v1_ := v0_.next bb0
  have ee1 := h1.later (HBU.trans (Below.mono v1_ zu))
  refine plan_call rfl rfl 96 #[] #[.pointer (some ⟨gh0, 0, none⟩), .pointer (some ⟨w.heap.size + 1 + 1, 0, none⟩)] (by kernel_rfl) _ Try.func96 (by kernel_rfl) (by kernel_rfl) [.slice (some ⟨b1, o1, none⟩) n c1] (by kernel_rfl) #[.slice (some ⟨b1, o1, none⟩) n c1, .pointer (some ⟨gh0, 0, none⟩), .pointer (some ⟨w.heap.size + 1 + 1, 0, none⟩)] (by simp) _ (implCleared wd hi wb rx ry rw rh gh0 (w.heap.size + 1 + 1) b1 o1 c1 n x v1 (H.later v1_) (Q.later v1_) ee1 q1 L1.out s1 s2 n0 n256 r1 r2 r3 r4 r5 r6) ?_
  rintro e v2 ⟨g1, k1, N1, rfl, oo1, hL1, hI1, bb1⟩
  refine ⟨_, rfl, v1_.next bb1, ?_⟩
  simp only [Act.put, List.setIfInBounds_toArray, List.set_cons_zero, List.set_cons_succ]
  have v2_ := v1_.next bb1
  have ee2 := h2.later (HBU.trans (Below.mono v2_ zu))
  refine plan_call rfl rfl 96 #[] #[.pointer (some ⟨gh0, 0, none⟩), .pointer (some ⟨w.heap.size + 1 + 1, 0, none⟩)] (by kernel_rfl) _ Try.func96 (by kernel_rfl) (by kernel_rfl) [.slice (some ⟨b2, o2, none⟩) n c2] (by kernel_rfl) #[.slice (some ⟨b2, o2, none⟩) n c2, .pointer (some ⟨gh0, 0, none⟩), .pointer (some ⟨w.heap.size + 1 + 1, 0, none⟩)] (by simp) _ (implCleared wd hi wb rx ry rw rh gh0 (w.heap.size + 1 + 1) b2 o2 c2 n y v2 (H.later v2_) (Q.later v2_) ee2 q2 L2.out s1 s2 n0 n256 r1 r2 r3 r4 r5 r6) ?_
  rintro e v3 ⟨g2, k2, N2, rfl, oo2, hL2, hI2, bb2⟩
  refine ⟨_, rfl, v2_.next bb2, ?_⟩
  simp only [Act.put, List.setIfInBounds_toArray, List.set_cons_zero, List.set_cons_succ]
  have v3_ := v2_.next bb2
  (refine plan_build rfl rfl #[.slice (some ⟨g0, 0, none⟩) n k0, .slice (some ⟨g1, 0, none⟩) n k1, .slice (some ⟨g2, 0, none⟩) n k2] (by kernel_rfl) ?_; simp only [Act.put, List.setIfInBounds_toArray, List.set_cons_zero, List.set_cons_succ])
  change wpList _ _ _ _ _ _
  simp only [List.drop_succ_cons, List.drop_zero]
  have sz1 : u5.heap.size ≤ v0.heap.size := Below.size v0_; have sz2 : u5.heap.size ≤ v1.heap.size := Below.size v1_; have sz3 : u5.heap.size ≤ v2.heap.size := Below.size v2_; have sz12 := bb0.size; have sz23 := bb1.size; have sz34 := bb2.size
  have y0 := oo0.bound g0 rfl; have y1 := oo1.bound g1 rfl; have y2 := oo2.bound g2 rfl
  have z0 := (oo0.span _ rfl).2; have z1 := (oo1.span _ rfl).2; dsimp only at z0 z1
  have ne01 : g0 ≠ g1 := by omega
  have ne02 : g0 ≠ g2 := by omega
  have ne12 : g1 ≠ g2 := by omega
  have O0 := Lib.hid (((oo0.later bb1).later bb2).lower (show w.heap.size ≤ v0.heap.size by omega)); have O1 := Lib.hid ((oo1.later bb2).lower (show w.heap.size ≤ v1.heap.size by omega)); have O2 := Lib.hid (oo2.lower (show w.heap.size ≤ v2.heap.size by omega)); clear oo0 oo1 oo2
  have HB4 := Lib.hid (HBU.trans (Below.mono v3_ zu))
  have R4 := R.later v3_
  have HI0 := Lib.hid hI0; have HL0 := Lib.hid hL0; clear hI0 hL0
  have HI1 := Lib.hid hI1; have HL1 := Lib.hid hL1; clear hI1 hL1
  have HI2 := Lib.hid hI2; have HL2 := Lib.hid hL2; clear hI2 hL2
  clear ee0 ee1 ee2 bb0 bb1 bb2 v0_ v1_ v2_ v3_ Yc Yf X R Y Q H HB
  obtain ⟨Rc, Rf⟩ := R4.open
  go_wp2_with fail
  refine NoPanic.normal ?_
  go_wp2
  refine bodyPost_ret (v := .tuple #[.agg #[.slice (some ⟨g0, 0, none⟩) n k0, .slice (some ⟨g1, 0, none⟩) n k1, .slice (some ⟨g2, 0, none⟩) n k2], .bool true]) (by simp [results, Try.results42, go_sem, Rc]) rfl (gaveO_yes HBT.out HL0.out HL1.out HL2.out ⟨(((O0.out.set (p := ⟨w.heap.size + 1 + 1 + 1, 0, none⟩) (ne_block (h := w.heap.size + 1 + 1 + 1) (by omega)) _).set (p := ⟨w.heap.size + 1 + 1 + 1, 1, none⟩) (ne_block (h := w.heap.size + 1 + 1 + 1) (by omega)) _).set (p := ⟨w.heap.size + 1 + 1 + 1, 2, none⟩) (ne_block (h := w.heap.size + 1 + 1 + 1) (by omega)) _), (((O1.out.set (p := ⟨w.heap.size + 1 + 1 + 1, 0, none⟩) (ne_block (h := w.heap.size + 1 + 1 + 1) (by omega)) _).set (p := ⟨w.heap.size + 1 + 1 + 1, 1, none⟩) (ne_block (h := w.heap.size + 1 + 1 + 1) (by omega)) _).set (p := ⟨w.heap.size + 1 + 1 + 1, 2, none⟩) (ne_block (h := w.heap.size + 1 + 1 + 1) (by omega)) _), (((O2.out.set (p := ⟨w.heap.size + 1 + 1 + 1, 0, none⟩) (ne_block (h := w.heap.size + 1 + 1 + 1) (by omega)) _).set (p := ⟨w.heap.size + 1 + 1 + 1, 1, none⟩) (ne_block (h := w.heap.size + 1 + 1 + 1) (by omega)) _).set (p := ⟨w.heap.size + 1 + 1 + 1, 2, none⟩) (ne_block (h := w.heap.size + 1 + 1 + 1) (by omega)) _), apart_ne ne01, apart_ne ne02, apart_ne ne12, HI0.out, HI1.out, HI2.out, (((HB4.out.setCell (p := ⟨w.heap.size + 1 + 1 + 1, 0, none⟩) (by first | omega | (simp <;> omega)) _).setCell (p := ⟨w.heap.size + 1 + 1 + 1, 1, none⟩) (by first | omega | (simp <;> omega)) _).setCell (p := ⟨w.heap.size + 1 + 1 + 1, 2, none⟩) (by first | omega | (simp <;> omega)) _)⟩)

set_option maxHeartbeats 8000000 in
set_option maxRecDepth 100000 in
theorem specClearRectL (wd hi : Int) (wb : Bool) (a b : Option Addr) (ca cb : Nat) (xs ys : List Nat) (a0 a1 a2 : Option Addr) (c0 c1 c2 : Nat) (e x y : List Nat) (rx ry rw rh : Int) (w : World) (ha : RowV w a (fvals xs)) (hb : RowV w b (fvals ys)) (qa : ∀ z ∈ xs, z < 2 ^ 32) (qb : ∀ z ∈ ys, z < 2 ^ 32) (hx : xs.length ≤ maxLen) (hy : ys.length ≤ maxLen) (h0 : RowV w a0 (fvals e)) (h1 : RowV w a1 (fvals x)) (h2 : RowV w a2 (fvals y)) (q0 : ∀ z ∈ e, z < 2 ^ 32) (q1 : ∀ z ∈ x, z < 2 ^ 32) (q2 : ∀ z ∈ y, z < 2 ^ 32) (m0 : e.length ≤ maxLen) (m1 : x.length ≤ maxLen) (m2 : y.length ≤ maxLen) :
    Calls Try.prog 41 #[.agg #[.int .i64 wd, .int .i64 hi, .bool wb, .slice a xs.length ca, .slice b ys.length cb], .agg #[.slice a0 e.length c0, .slice a1 x.length c1, .slice a2 y.length c2], .agg #[.int .i64 rx, .int .i64 ry, .int .i64 rw, .int .i64 rh]] w (OwnO w (clearB wd hi wb xs ys e x y rx ry rw rh) (chgC (inP wd rx ry rw rh) (fun _ => canon .f32 0) e) (chgC (inP wd rx ry rw rh) (fun _ => canon .f32 0) x) (chgC (inP wd rx ry rw rh) (fun _ => canon .f32 0) y)) := by
  rcases hfv : fieldB wd hi wb xs ys e x y with _ | _
  · skip
    refine Calls.mono ?_ (fun e w9 h9 => ownO_no (by unfold clearB; rw [hfv]; rfl) h9)
    have H_fb := Lib.hid hfv; clear hfv
    have X := Blk.new w #[.int .i64 wd, .int .i64 hi, .bool wb, .slice a xs.length ca, .slice b ys.length cb] 29
    have Y := Blk.new1 w (.cells #[.int .i64 wd, .int .i64 hi, .bool wb, .slice a xs.length ca, .slice b ys.length cb] 29) #[.slice a0 e.length c0, .slice a1 x.length c1, .slice a2 y.length c2] 52
    replace X := X.alloc (.cells #[.slice a0 e.length c0, .slice a1 x.length c1, .slice a2 y.length c2] 52)
    have Q := Blk.new2 w (.cells #[.int .i64 wd, .int .i64 hi, .bool wb, .slice a xs.length ca, .slice b ys.length cb] 29) (.cells #[.slice a0 e.length c0, .slice a1 x.length c1, .slice a2 y.length c2] 52) #[.int .i64 rx, .int .i64 ry, .int .i64 rw, .int .i64 rh] 39
    replace X := X.alloc (.cells #[.int .i64 rx, .int .i64 ry, .int .i64 rw, .int .i64 rh] 39)
    replace Y := Y.alloc (.cells #[.int .i64 rx, .int .i64 ry, .int .i64 rw, .int .i64 rh] 39)
    have R := Blk.new3 w (.cells #[.int .i64 wd, .int .i64 hi, .bool wb, .slice a xs.length ca, .slice b ys.length cb] 29) (.cells #[.slice a0 e.length c0, .slice a1 x.length c1, .slice a2 y.length c2] 52) (.cells #[.int .i64 rx, .int .i64 ry, .int .i64 rw, .int .i64 rh] 39) #[.slice none 0 0, .slice none 0 0, .slice none 0 0] 52
    replace X := X.alloc (.cells #[.slice none 0 0, .slice none 0 0, .slice none 0 0] 52)
    replace Y := Y.alloc (.cells #[.slice none 0 0, .slice none 0 0, .slice none 0 0] 52)
    replace Q := Q.alloc (.cells #[.slice none 0 0, .slice none 0 0, .slice none 0 0] 52)
    have HB : Hid (Below w.heap.size w ((((w.alloc (.cells #[.int .i64 wd, .int .i64 hi, .bool wb, .slice a xs.length ca, .slice b ys.length cb] 29)).alloc (.cells #[.slice a0 e.length c0, .slice a1 x.length c1, .slice a2 y.length c2] 52)).alloc (.cells #[.int .i64 rx, .int .i64 ry, .int .i64 rw, .int .i64 rh] 39)).alloc (.cells #[.slice none 0 0, .slice none 0 0, .slice none 0 0] 52))) := Lib.hid (((((Below.refl w.heap.size w).alloc (by simp <;> omega) _).alloc (by simp <;> omega) _).alloc (by simp <;> omega) _).alloc (by simp <;> omega) _)
    go_enter Try.func41, Try.ntmps41
    go_wp2_with fail
    generalize ((((w.alloc (.cells #[.int .i64 wd, .int .i64 hi, .bool wb, .slice a xs.length ca, .slice b ys.length cb] 29)).alloc (.cells #[.slice a0 e.length c0, .slice a1 x.length c1, .slice a2 y.length c2] 52)).alloc (.cells #[.int .i64 rx, .int .i64 ry, .int .i64 rw, .int .i64 rh] 39)).alloc (.cells #[.slice none 0 0, .slice none 0 0, .slice none 0 0] 52)) = u1 at *
    refine (specBoth _ _ _ _ _ _ _ _ _ _ _ _ _ _ _ _ _ _ _ _ _ X Y (ha.later HB.out) (hb.later HB.out) hx hy (h0.later HB.out) (h1.later HB.out) (h2.later HB.out) m0 m1 m2).mono ?_
    rintro r u2 ⟨rfl, nq, hw⟩
    have q : Below u1.heap.size u1 u2 := by rw [hw]; exact below_drewN (Below.refl _ _) _
    clear hw
    replace X := X.later q
    replace Y := Y.later q
    replace Q := Q.later q
    replace R := R.later q
    replace HB := Lib.hid (HB.out.trans (q.mono HB.out.size))
    clear q
    rw [H_fb.out]
    obtain ⟨Rc, Rf⟩ := R.open
    go_wp2
    refine bodyPost_ret (v := .tuple #[.agg #[.slice none 0 0, .slice none 0 0, .slice none 0 0], .bool false]) (by simp [results, Try.results41, go_sem, Rc]) rfl ⟨none, none, none, 0, 0, 0, [], [], [], rfl, OwnField.none (((HB.out.setCell (p := ⟨w.heap.size + 1 + 1 + 1, 0, none⟩) (by first | omega | (simp <;> omega)) _).setCell (p := ⟨w.heap.size + 1 + 1 + 1, 1, none⟩) (by first | omega | (simp <;> omega)) _).setCell (p := ⟨w.heap.size + 1 + 1 + 1, 2, none⟩) (by first | omega | (simp <;> omega)) _)⟩
  obtain ⟨p1, _, l0, l1, l2⟩ := field_parts hfv
  obtain ⟨s1, s2, s3, s4, hm2, lx, ly⟩ := valid_parts p1
  obtain ⟨t1, t2⟩ := (sides_mul (valid_sides p1)).2.2.2.2
  obtain ⟨n, hn⟩ := Int.eq_ofNat_of_zero_le (show 0 ≤ wd * hi by omega)
  have E0 : e.length = n := by omega
  have E1 : x.length = n := by omega
  have E2 : y.length = n := by omega
  have n256 : n ≤ 256 := by omega
  have n0 : 0 < n := by omega
  obtain ⟨b0, o0, rfl, hz0⟩ := h0 0 _ (fvals_get (show 0 < e.length by omega)); clear hz0
  obtain ⟨b1, o1, rfl, hz1⟩ := h1 0 _ (fvals_get (show 0 < x.length by omega)); clear hz1
  obtain ⟨b2, o2, rfl, hz2⟩ := h2 0 _ (fvals_get (show 0 < y.length by omega)); clear hz2
  have CV : ∀ u, Below w.heap.size w u → Blk u w.heap.size #[.int .i64 wd, .int .i64 hi, .bool wb, .slice a xs.length ca, .slice b ys.length cb] 29 → Blk u (w.heap.size + 1) #[.slice (some ⟨b0, o0, none⟩) n c0, .slice (some ⟨b1, o1, none⟩) n c1, .slice (some ⟨b2, o2, none⟩) n c2] 52 → Calls Try.prog 87 #[.pointer (some ⟨w.heap.size, 0, none⟩), .pointer (some ⟨w.heap.size + 1, 0, none⟩)] u fun e w' => e = .returned (.bool true) ∧ Below u.heap.size u w' := fun u hu X Y => by
    have := specBoth w.heap.size (w.heap.size + 1) wd hi wb a b ca cb xs ys (some ⟨b0, o0, none⟩) (some ⟨b1, o1, none⟩) (some ⟨b2, o2, none⟩) c0 c1 c2 e x y u X (by rw [E0, E1, E2]; exact Y) (ha.later hu) (hb.later hu) hx hy (h0.later hu) (h1.later hu) (h2.later hu) m0 m1 m2
    rw [hfv] at this
    exact this.mono fun e w' ⟨h, nq, hw⟩ => ⟨h, by rw [hw]; exact below_drewN (Below.refl _ _) _⟩
  have HCV := Lib.hid CV; clear CV
  rw [E0, E1, E2]
  have HN := Lib.hid hn; have L0 := Lib.hid E0; have L1 := Lib.hid E1; have L2 := Lib.hid E2; clear hn E0 E1 E2 l0 l1 l2 lx ly t1 t2
  have HB0 : Hid (clearB wd hi wb xs ys e x y rx ry rw rh = rectB wd hi rx ry rw rh) := Lib.hid (by unfold clearB isRectB; rw [hfv, p1]; rfl)
  clear p1 hfv
  rcases hrr : rectB wd hi rx ry rw rh with _ | _
  · skip
    refine Calls.mono ?_ (fun e w9 h9 => ownO_no (by rw [HB0.out]; exact hrr) h9)
    have HRB := Lib.hid hrr; clear hrr
    have X := Blk.new w #[.int .i64 wd, .int .i64 hi, .bool wb, .slice a xs.length ca, .slice b ys.length cb] 29
    have Y := Blk.new1 w (.cells #[.int .i64 wd, .int .i64 hi, .bool wb, .slice a xs.length ca, .slice b ys.length cb] 29) #[.slice (some ⟨b0, o0, none⟩) n c0, .slice (some ⟨b1, o1, none⟩) n c1, .slice (some ⟨b2, o2, none⟩) n c2] 52
    replace X := X.alloc (.cells #[.slice (some ⟨b0, o0, none⟩) n c0, .slice (some ⟨b1, o1, none⟩) n c1, .slice (some ⟨b2, o2, none⟩) n c2] 52)
    have Q := Blk.new2 w (.cells #[.int .i64 wd, .int .i64 hi, .bool wb, .slice a xs.length ca, .slice b ys.length cb] 29) (.cells #[.slice (some ⟨b0, o0, none⟩) n c0, .slice (some ⟨b1, o1, none⟩) n c1, .slice (some ⟨b2, o2, none⟩) n c2] 52) #[.int .i64 rx, .int .i64 ry, .int .i64 rw, .int .i64 rh] 39
    replace X := X.alloc (.cells #[.int .i64 rx, .int .i64 ry, .int .i64 rw, .int .i64 rh] 39)
    replace Y := Y.alloc (.cells #[.int .i64 rx, .int .i64 ry, .int .i64 rw, .int .i64 rh] 39)
    have R := Blk.new3 w (.cells #[.int .i64 wd, .int .i64 hi, .bool wb, .slice a xs.length ca, .slice b ys.length cb] 29) (.cells #[.slice (some ⟨b0, o0, none⟩) n c0, .slice (some ⟨b1, o1, none⟩) n c1, .slice (some ⟨b2, o2, none⟩) n c2] 52) (.cells #[.int .i64 rx, .int .i64 ry, .int .i64 rw, .int .i64 rh] 39) #[.slice none 0 0, .slice none 0 0, .slice none 0 0] 52
    replace X := X.alloc (.cells #[.slice none 0 0, .slice none 0 0, .slice none 0 0] 52)
    replace Y := Y.alloc (.cells #[.slice none 0 0, .slice none 0 0, .slice none 0 0] 52)
    replace Q := Q.alloc (.cells #[.slice none 0 0, .slice none 0 0, .slice none 0 0] 52)
    have HB : Hid (Below w.heap.size w ((((w.alloc (.cells #[.int .i64 wd, .int .i64 hi, .bool wb, .slice a xs.length ca, .slice b ys.length cb] 29)).alloc (.cells #[.slice (some ⟨b0, o0, none⟩) n c0, .slice (some ⟨b1, o1, none⟩) n c1, .slice (some ⟨b2, o2, none⟩) n c2] 52)).alloc (.cells #[.int .i64 rx, .int .i64 ry, .int .i64 rw, .int .i64 rh] 39)).alloc (.cells #[.slice none 0 0, .slice none 0 0, .slice none 0 0] 52))) := Lib.hid (((((Below.refl w.heap.size w).alloc (by simp <;> omega) _).alloc (by simp <;> omega) _).alloc (by simp <;> omega) _).alloc (by simp <;> omega) _)
    go_enter Try.func41, Try.ntmps41
    go_wp2_with fail
    generalize ((((w.alloc (.cells #[.int .i64 wd, .int .i64 hi, .bool wb, .slice a xs.length ca, .slice b ys.length cb] 29)).alloc (.cells #[.slice (some ⟨b0, o0, none⟩) n c0, .slice (some ⟨b1, o1, none⟩) n c1, .slice (some ⟨b2, o2, none⟩) n c2] 52)).alloc (.cells #[.int .i64 rx, .int .i64 ry, .int .i64 rw, .int .i64 rh] 39)).alloc (.cells #[.slice none 0 0, .slice none 0 0, .slice none 0 0] 52)) = u1 at *
    refine (HCV.out _ HB.out X Y).mono ?_
    rintro r u2 ⟨rfl, q⟩
    replace X := X.later q
    replace Y := Y.later q
    replace Q := Q.later q
    replace R := R.later q
    replace HB := Lib.hid (HB.out.trans (q.mono HB.out.size))
    clear q
    go_wp2_with fail
    refine (specRect _ _ wd hi wb _ _ rx ry rw rh _ X Q s1 s2 s3 s4).mono ?_
    rintro r u3 ⟨rfl, q⟩
    replace X := X.later q
    replace Y := Y.later q
    replace Q := Q.later q
    replace R := R.later q
    replace HB := Lib.hid (HB.out.trans (q.mono HB.out.size))
    clear q
    rw [HRB.out]
    obtain ⟨Rc, Rf⟩ := R.open
    go_wp2
    refine bodyPost_ret (v := .tuple #[.agg #[.slice none 0 0, .slice none 0 0, .slice none 0 0], .bool false]) (by simp [results, Try.results41, go_sem, Rc]) rfl ⟨none, none, none, 0, 0, 0, [], [], [], rfl, OwnField.none (((HB.out.setCell (p := ⟨w.heap.size + 1 + 1 + 1, 0, none⟩) (by first | omega | (simp <;> omega)) _).setCell (p := ⟨w.heap.size + 1 + 1 + 1, 1, none⟩) (by first | omega | (simp <;> omega)) _).setCell (p := ⟨w.heap.size + 1 + 1 + 1, 2, none⟩) (by first | omega | (simp <;> omega)) _)⟩
  have HBT : Hid (clearB wd hi wb xs ys e x y rx ry rw rh = true) := Lib.hid (by rw [HB0.out]; exact hrr)
  obtain ⟨r1, r2, r3, r4, r5, r6⟩ := rect_sum s2 s4 hrr
  have HRB := Lib.hid hrr; clear hrr
  have HT0 : Hid (∀ L, ChgTo (inP wd rx ry rw rh) (fun _ => canon .f32 0) e n L → Is L (chgC (inP wd rx ry rw rh) (fun _ => canon .f32 0) e)) := Lib.hid (fun L h => h.all (by rw [L0.out]; exact Nat.le_refl _) (by rw [L0.out]; exact n256))
  have HST0 := Lib.hid (ChgTo.start (p := inP wd rx ry rw rh) (G := fun _ => canon .f32 0) q0)
  have HT1 : Hid (∀ L, ChgTo (inP wd rx ry rw rh) (fun _ => canon .f32 0) x n L → Is L (chgC (inP wd rx ry rw rh) (fun _ => canon .f32 0) x)) := Lib.hid (fun L h => h.all (by rw [L1.out]; exact Nat.le_refl _) (by rw [L1.out]; exact n256))
  have HST1 := Lib.hid (ChgTo.start (p := inP wd rx ry rw rh) (G := fun _ => canon .f32 0) q1)
  have HT2 : Hid (∀ L, ChgTo (inP wd rx ry rw rh) (fun _ => canon .f32 0) y n L → Is L (chgC (inP wd rx ry rw rh) (fun _ => canon .f32 0) y)) := Lib.hid (fun L h => h.all (by rw [L2.out]; exact Nat.le_refl _) (by rw [L2.out]; exact n256))
  have HST2 := Lib.hid (ChgTo.start (p := inP wd rx ry rw rh) (G := fun _ => canon .f32 0) q2)
  have X := Blk.new w #[.int .i64 wd, .int .i64 hi, .bool wb, .slice a xs.length ca, .slice b ys.length cb] 29
  have Y := Blk.new1 w (.cells #[.int .i64 wd, .int .i64 hi, .bool wb, .slice a xs.length ca, .slice b ys.length cb] 29) #[.slice (some ⟨b0, o0, none⟩) n c0, .slice (some ⟨b1, o1, none⟩) n c1, .slice (some ⟨b2, o2, none⟩) n c2] 52
  replace X := X.alloc (.cells #[.slice (some ⟨b0, o0, none⟩) n c0, .slice (some ⟨b1, o1, none⟩) n c1, .slice (some ⟨b2, o2, none⟩) n c2] 52)
  have Q := Blk.new2 w (.cells #[.int .i64 wd, .int .i64 hi, .bool wb, .slice a xs.length ca, .slice b ys.length cb] 29) (.cells #[.slice (some ⟨b0, o0, none⟩) n c0, .slice (some ⟨b1, o1, none⟩) n c1, .slice (some ⟨b2, o2, none⟩) n c2] 52) #[.int .i64 rx, .int .i64 ry, .int .i64 rw, .int .i64 rh] 39
  replace X := X.alloc (.cells #[.int .i64 rx, .int .i64 ry, .int .i64 rw, .int .i64 rh] 39)
  replace Y := Y.alloc (.cells #[.int .i64 rx, .int .i64 ry, .int .i64 rw, .int .i64 rh] 39)
  have R := Blk.new3 w (.cells #[.int .i64 wd, .int .i64 hi, .bool wb, .slice a xs.length ca, .slice b ys.length cb] 29) (.cells #[.slice (some ⟨b0, o0, none⟩) n c0, .slice (some ⟨b1, o1, none⟩) n c1, .slice (some ⟨b2, o2, none⟩) n c2] 52) (.cells #[.int .i64 rx, .int .i64 ry, .int .i64 rw, .int .i64 rh] 39) #[.slice none 0 0, .slice none 0 0, .slice none 0 0] 52
  replace X := X.alloc (.cells #[.slice none 0 0, .slice none 0 0, .slice none 0 0] 52)
  replace Y := Y.alloc (.cells #[.slice none 0 0, .slice none 0 0, .slice none 0 0] 52)
  replace Q := Q.alloc (.cells #[.slice none 0 0, .slice none 0 0, .slice none 0 0] 52)
  have HB : Hid (Below w.heap.size w ((((w.alloc (.cells #[.int .i64 wd, .int .i64 hi, .bool wb, .slice a xs.length ca, .slice b ys.length cb] 29)).alloc (.cells #[.slice (some ⟨b0, o0, none⟩) n c0, .slice (some ⟨b1, o1, none⟩) n c1, .slice (some ⟨b2, o2, none⟩) n c2] 52)).alloc (.cells #[.int .i64 rx, .int .i64 ry, .int .i64 rw, .int .i64 rh] 39)).alloc (.cells #[.slice none 0 0, .slice none 0 0, .slice none 0 0] 52))) := Lib.hid (((((Below.refl w.heap.size w).alloc (by simp <;> omega) _).alloc (by simp <;> omega) _).alloc (by simp <;> omega) _).alloc (by simp <;> omega) _)
  go_enter Try.func41, Try.ntmps41
  go_wp2_with fail
  generalize ((((w.alloc (.cells #[.int .i64 wd, .int .i64 hi, .bool wb, .slice a xs.length ca, .slice b ys.length cb] 29)).alloc (.cells #[.slice (some ⟨b0, o0, none⟩) n c0, .slice (some ⟨b1, o1, none⟩) n c1, .slice (some ⟨b2, o2, none⟩) n c2] 52)).alloc (.cells #[.int .i64 rx, .int .i64 ry, .int .i64 rw, .int .i64 rh] 39)).alloc (.cells #[.slice none 0 0, .slice none 0 0, .slice none 0 0] 52)) = u1 at *
  refine (HCV.out _ HB.out X Y).mono ?_
  rintro r u2 ⟨rfl, q⟩
  replace X := X.later q
  replace Y := Y.later q
  replace Q := Q.later q
  replace R := R.later q
  replace HB := Lib.hid (HB.out.trans (q.mono HB.out.size))
  clear q
  go_wp2_with fail
  refine (specRect _ _ wd hi wb _ _ rx ry rw rh _ X Q s1 s2 s3 s4).mono ?_
  rintro r u3 ⟨rfl, q⟩
  replace X := X.later q
  replace Y := Y.later q
  replace Q := Q.later q
  replace R := R.later q
  replace HB := Lib.hid (HB.out.trans (q.mono HB.out.size))
  clear q
  rw [HRB.out]
  obtain ⟨Yc, Yf⟩ := Y.open
  go_wp2_with fail
  have szr := R.lt; have szo := HB.out.size
  refine (specOwn _ _ _ _ _ _ _ _ _ _ n e x y _ (by rw [L0.out, L1.out, L2.out]; exact Y) (h0.later HB.out) (h1.later HB.out) (h2.later HB.out) L0.out L1.out L2.out n0 n256).mono ?_
  rintro r u4 ⟨g0, g1, g2, k0, k1, k2, rfl, oo0, oo1, oo2, g01, g12, q⟩
  have y0 := oo0.bound g0 rfl; have z2 := (oo2.span _ rfl).2; dsimp only at z2
  clear Yc Yf
  replace X := X.later q
  replace Y := Y.later q
  replace Q := Q.later q
  replace R := R.later q
  replace HB := Lib.hid (HB.out.trans (q.mono HB.out.size))
  clear q
  have W0 := Lib.hid (oo0.lower (show w.heap.size ≤ _ by omega)); have W1 := Lib.hid (oo1.lower (show w.heap.size ≤ _ by omega)); have W2 := Lib.hid (oo2.lower (show w.heap.size ≤ _ by omega)); clear oo0 oo1 oo2
  have O := Blk.new u4 #[.slice (some ⟨g0, 0, none⟩) n k0, .slice (some ⟨g1, 0, none⟩) n k1, .slice (some ⟨g2, 0, none⟩) n k2] 52
  have q := below_new u4 (.cells #[.slice (some ⟨g0, 0, none⟩) n k0, .slice (some ⟨g1, 0, none⟩) n k1, .slice (some ⟨g2, 0, none⟩) n k2] 52)
  replace X := X.later q
  replace Y := Y.later q
  replace Q := Q.later q
  replace R := R.later q
  replace W0 := Lib.hid (W0.out.later q)
  replace W1 := Lib.hid (W1.out.later q)
  replace W2 := Lib.hid (W2.out.later q)
  replace HB := Lib.hid (HB.out.trans (q.mono HB.out.size))
  clear q
  go_upto_region 4 with (fail)
  obtain ⟨gx, hgx⟩ : ∃ gx, gx = u4.heap.size := ⟨_, rfl⟩
  rw [← hgx] at O
  (try simp only [← hgx])
  generalize u4.alloc (.cells #[.slice (some ⟨g0, 0, none⟩) n k0, .slice (some ⟨g1, 0, none⟩) n k1, .slice (some ⟨g2, 0, none⟩) n k2] 52) = u5 at *
  have nx0 : w.heap.size ≠ g0 := by omega
  have nq0 : w.heap.size + 1 + 1 ≠ g0 := by omega
  have nr0 : w.heap.size + 1 + 1 + 1 ≠ g0 := by omega
  have no0 : gx ≠ g0 := by omega
  have nl0 : w.heap.size ≤ g0 := by omega
  have nx1 : w.heap.size ≠ g1 := by omega
  have nq1 : w.heap.size + 1 + 1 ≠ g1 := by omega
  have nr1 : w.heap.size + 1 + 1 + 1 ≠ g1 := by omega
  have no1 : gx ≠ g1 := by omega
  have nl1 : w.heap.size ≤ g1 := by omega
  have nx2 : w.heap.size ≠ g2 := by omega
  have nq2 : w.heap.size + 1 + 1 ≠ g2 := by omega
  have nr2 : w.heap.size + 1 + 1 + 1 ≠ g2 := by omega
  have no2 : gx ≠ g2 := by omega
  have nl2 : w.heap.size ≤ g2 := by omega
  have d01 : g0 ≠ g1 := by omega
  have d02 : g0 ≠ g2 := by omega
  have d12 : g1 ≠ g2 := by omega
  clear y0 z2 szo szr hgx g01 g12
  obtain ⟨Oc, Of⟩ := O.open
  go_wp2
  go_loopw [21] (fun iv wr => ∃ (k : Nat) (N0 N1 N2 : List Nat), k ≤ n ∧ iv = .int .i64 k ∧ ChgTo (inP wd rx ry rw rh) (fun _ => canon .f32 0) e k N0 ∧ ChgTo (inP wd rx ry rw rh) (fun _ => canon .f32 0) x k N1 ∧ ChgTo (inP wd rx ry rw rh) (fun _ => canon .f32 0) y k N2 ∧ OwnV wr w.heap.size (some ⟨g0, 0, none⟩) (fvals N0) ∧ OwnV wr w.heap.size (some ⟨g1, 0, none⟩) (fvals N1) ∧ OwnV wr w.heap.size (some ⟨g2, 0, none⟩) (fvals N2) ∧ Blk wr w.heap.size #[.int .i64 wd, .int .i64 hi, .bool wb, .slice a xs.length ca, .slice b ys.length cb] 29 ∧ Blk wr (w.heap.size + 1 + 1) #[.int .i64 rx, .int .i64 ry, .int .i64 rw, .int .i64 rh] 39 ∧ Blk wr (w.heap.size + 1 + 1 + 1) #[.slice none 0 0, .slice none 0 0, .slice none 0 0] 52 ∧ Blk wr gx #[.slice (some ⟨g0, 0, none⟩) n k0, .slice (some ⟨g1, 0, none⟩) n k1, .slice (some ⟨g2, 0, none⟩) n k2] 52 ∧ Below w.heap.size w wr) (fun iv _ => n - (intOf iv).toNat)
  case atStart => exact ⟨0, e, x, y, Nat.zero_le _, rfl, HST0.out, HST1.out, HST2.out, W0.out, W1.out, W2.out, X, Q, R, O, HB.out⟩
  case round =>
    obtain ⟨k, N0, N1, N2, hk, rfl, hM0, hM1, hM2, h5, h6, h7, X, Q, R, O, hb5⟩ := hrel
    replace W0 := Lib.hid h5; replace W1 := Lib.hid h6; replace W2 := Lib.hid h7; replace HB := Lib.hid hb5; have HM0 := Lib.hid hM0; have HM1 := Lib.hid hM1; have HM2 := Lib.hid hM2; clear h5 h6 h7 hb5 hM0 hM1 hM2 HST0 HST1 HST2
    clear Oc Of Y
    by_cases hlt : k < n
    · skip
      have kx0 : k < e.length := by rw [L0.out]; exact hlt
      have kN0 : k < N0.length := by rw [HM0.out.len]; exact kx0
      have kx1 : k < x.length := by rw [L1.out]; exact hlt
      have kN1 : k < N1.length := by rw [HM1.out.len]; exact kx1
      have kx2 : k < y.length := by rw [L2.out]; exact hlt
      have kN2 : k < N2.length := by rw [HM2.out.len]; exact kx2
      have hki : (k : Int) < (n : Int) := by omega
      have hrm : (k : Int).tmod wd = (k : Int) % wd := Int.tmod_eq_emod_of_nonneg (by omega)
      have hq : (k : Int).tdiv wd = (k : Int) / wd := Int.tdiv_eq_ediv_of_nonneg (by omega)
      have hne : (wd == 0) = false := by simp; omega
      have hz : wd ≠ 0 := by omega
      have h7 : 0 ≤ (k : Int) / wd := Int.ediv_nonneg (by omega) (by omega)
      have h8 : (k : Int) / wd ≤ (k : Int) := Int.ediv_le_self _ (by omega)
      have hw : IntKind.i64.wrap ((k : Int) / wd) = (k : Int) / wd := IntWalk.i64_in _ (by omega)
      have hq2 : IntKind.i64.wrap ((k : Int).tdiv wd) = (k : Int) / wd := by rw [hq]; exact hw
      rcases hf : inP wd rx ry rw rh k with _ | _
      · skip
        have HN0 := Lib.hid (HM0.out.no hf)
        have HN1 := Lib.hid (HM1.out.no hf)
        have HN2 := Lib.hid (HM2.out.no hf)
        have H_f : Hid (hasR rx ry rw rh ((k : Int) % wd) ((k : Int) / wd) = false) := Lib.hid hf; clear hf
        obtain ⟨Xc, Xf⟩ := X.open
        go_wp2_with fail
        go_quiet ((go_at_call 92; (try simp only [hrm, hq2, hq, hw]); exact quietRI _ rx ry rw rh _ _ _ _ _ H_f.out Q r1 r2 r3 r4 r5 r6))
        go_wp2
        go_roundw
        case rel => exact ⟨k + 1, N0, N1, N2, by omega, by go_num, HN0.out, HN1.out, HN2.out, W0.out.drewN _, W1.out.drewN _, W2.out.drewN _, X.drewN _, Q.drewN _, R.drewN _, O.drewN _, below_drewN HB.out _⟩
        case measure => simp [intOf]; omega
      · skip
        have HN0 := Lib.hid (HM0.out.yes (v := 0) kx0 hf (by decide) rfl)
        have HN1 := Lib.hid (HM1.out.yes (v := 0) kx1 hf (by decide) rfl)
        have HN2 := Lib.hid (HM2.out.yes (v := 0) kx2 hf (by decide) rfl)
        have H_f : Hid (hasR rx ry rw rh ((k : Int) % wd) ((k : Int) / wd) = true) := Lib.hid hf; clear hf
        obtain ⟨Xc, Xf⟩ := X.open
        go_wp2_with fail
        go_quiet ((go_at_call 92; (try simp only [hrm, hq2, hq, hw]); exact quietRI _ rx ry rw rh _ _ _ _ _ H_f.out Q r1 r2 r3 r4 r5 r6))
        go_upto_region 8 with (fail)
        have q9 : Below wr.heap.size wr (wr.drewN nq) := below_drewN (Below.refl _ _) _
        generalize wr.drewN nq = v7 at *
        replace X := X.later q9; replace Q := Q.later q9; replace R := R.later q9; replace O := O.later q9; replace W0 := Lib.hid (W0.out.later q9); replace W1 := Lib.hid (W1.out.later q9); replace W2 := Lib.hid (W2.out.later q9); replace HB := Lib.hid (HB.out.trans (q9.mono HB.out.size)); clear q9 Xc Xf
        obtain ⟨cs, tt9, _, hblk, hvv⟩ := own_some W0.out; obtain ⟨gcc, gcf⟩ := hblk.open; have f0 : v7.cell? ⟨g0, k, none⟩ = some _ := (gcc _).trans (hvv k _ (fvals_get kN0)); have GF := gcf k; clear gcc gcf hvv hblk
        have hp := own_put W0.out k (.float .f32 0) (by rw [fvals_length]; exact kN0)
        rw [fvals_set] at hp
        have HP2 := Lib.hid hp; clear hp
        obtain ⟨Oc, Of⟩ := O.open
        go_upto_region 9 with (fail)
        clear f0 GF Oc Of
        replace W0 := HP2
        replace W1 := Lib.hid (W1.out.set (p := ⟨g0, k, none⟩) (fun x hx => by cases hx; exact fun h => d01 h.symm) (.float .f32 0))
        replace W2 := Lib.hid (W2.out.set (p := ⟨g0, k, none⟩) (fun x hx => by cases hx; exact fun h => d02 h.symm) (.float .f32 0))
        replace X := X.setOther (p := ⟨g0, k, none⟩) nx0 (.float .f32 0)
        replace Q := Q.setOther (p := ⟨g0, k, none⟩) nq0 (.float .f32 0)
        replace R := R.setOther (p := ⟨g0, k, none⟩) nr0 (.float .f32 0)
        replace O := O.setOther (p := ⟨g0, k, none⟩) no0 (.float .f32 0)
        replace HB := Lib.hid (HB.out.setCell (p := ⟨g0, k, none⟩) nl0 (.float .f32 0)); clear HP2
        generalize v7.setCell ⟨g0, k, none⟩ (.float .f32 0) = v8 at *
        obtain ⟨cs, tt9, _, hblk, hvv⟩ := own_some W1.out; obtain ⟨gcc, gcf⟩ := hblk.open; have f0 : v8.cell? ⟨g1, k, none⟩ = some _ := (gcc _).trans (hvv k _ (fvals_get kN1)); have GF := gcf k; clear gcc gcf hvv hblk
        have hp := own_put W1.out k (.float .f32 0) (by rw [fvals_length]; exact kN1)
        rw [fvals_set] at hp
        have HP2 := Lib.hid hp; clear hp
        obtain ⟨Oc, Of⟩ := O.open
        go_upto_region 10 with (fail)
        clear f0 GF Oc Of
        replace W1 := HP2
        replace W0 := Lib.hid (W0.out.set (p := ⟨g1, k, none⟩) (fun x hx => by cases hx; exact d01) (.float .f32 0))
        replace W2 := Lib.hid (W2.out.set (p := ⟨g1, k, none⟩) (fun x hx => by cases hx; exact fun h => d12 h.symm) (.float .f32 0))
        replace X := X.setOther (p := ⟨g1, k, none⟩) nx1 (.float .f32 0)
        replace Q := Q.setOther (p := ⟨g1, k, none⟩) nq1 (.float .f32 0)
        replace R := R.setOther (p := ⟨g1, k, none⟩) nr1 (.float .f32 0)
        replace O := O.setOther (p := ⟨g1, k, none⟩) no1 (.float .f32 0)
        replace HB := Lib.hid (HB.out.setCell (p := ⟨g1, k, none⟩) nl1 (.float .f32 0)); clear HP2
        generalize v8.setCell ⟨g1, k, none⟩ (.float .f32 0) = v9 at *
        obtain ⟨cs, tt9, _, hblk, hvv⟩ := own_some W2.out; obtain ⟨gcc, gcf⟩ := hblk.open; have f0 : v9.cell? ⟨g2, k, none⟩ = some _ := (gcc _).trans (hvv k _ (fvals_get kN2)); have GF := gcf k; clear gcc gcf hvv hblk
        have hp := own_put W2.out k (.float .f32 0) (by rw [fvals_length]; exact kN2)
        rw [fvals_set] at hp
        have HP2 := Lib.hid hp; clear hp
        obtain ⟨Oc, Of⟩ := O.open
        go_wp2
        go_roundw
        case rel => exact ⟨k + 1, _, _, _, by omega, by go_num, HN0.out, HN1.out, HN2.out, W0.out.set (p := ⟨g2, k, none⟩) (fun x hx => by cases hx; exact d02) _, W1.out.set (p := ⟨g2, k, none⟩) (fun x hx => by cases hx; exact d12) _, HP2.out, X.setOther nx2 _, Q.setOther nq2 _, R.setOther nr2 _, O.setOther no2 _, HB.out.setCell (p := ⟨g2, k, none⟩) nl2 _⟩
        case measure => simp [intOf]; omega
    · skip
      obtain rfl : k = n := by omega
      obtain ⟨Oc, Of⟩ := O.open
      obtain ⟨Rc, Rf⟩ := R.open
      go_wp2
      refine bodyPost_ret (v := .tuple #[.agg #[.slice (some ⟨g0, 0, none⟩) k k0, .slice (some ⟨g1, 0, none⟩) k k1, .slice (some ⟨g2, 0, none⟩) k k2], .bool true]) (by simp [results, Try.results41, go_sem, Rc]) rfl (ownO_yes HBT.out (by rw [HM0.out.len, L0.out]) (by rw [HM1.out.len, L1.out]) (by rw [HM2.out.len, L2.out]) ⟨(((W0.out.set (p := ⟨w.heap.size + 1 + 1 + 1, 0, none⟩) (ne_block (h := w.heap.size + 1 + 1 + 1) (by omega)) _).set (p := ⟨w.heap.size + 1 + 1 + 1, 1, none⟩) (ne_block (h := w.heap.size + 1 + 1 + 1) (by omega)) _).set (p := ⟨w.heap.size + 1 + 1 + 1, 2, none⟩) (ne_block (h := w.heap.size + 1 + 1 + 1) (by omega)) _), (((W1.out.set (p := ⟨w.heap.size + 1 + 1 + 1, 0, none⟩) (ne_block (h := w.heap.size + 1 + 1 + 1) (by omega)) _).set (p := ⟨w.heap.size + 1 + 1 + 1, 1, none⟩) (ne_block (h := w.heap.size + 1 + 1 + 1) (by omega)) _).set (p := ⟨w.heap.size + 1 + 1 + 1, 2, none⟩) (ne_block (h := w.heap.size + 1 + 1 + 1) (by omega)) _), (((W2.out.set (p := ⟨w.heap.size + 1 + 1 + 1, 0, none⟩) (ne_block (h := w.heap.size + 1 + 1 + 1) (by omega)) _).set (p := ⟨w.heap.size + 1 + 1 + 1, 1, none⟩) (ne_block (h := w.heap.size + 1 + 1 + 1) (by omega)) _).set (p := ⟨w.heap.size + 1 + 1 + 1, 2, none⟩) (ne_block (h := w.heap.size + 1 + 1 + 1) (by omega)) _), HT0.out N0 HM0.out, HT1.out N1 HM1.out, HT2.out N2 HM2.out, (((HB.out.setCell (p := ⟨w.heap.size + 1 + 1 + 1, 0, none⟩) (by first | omega | (simp <;> omega)) _).setCell (p := ⟨w.heap.size + 1 + 1 + 1, 1, none⟩) (by first | omega | (simp <;> omega)) _).setCell (p := ⟨w.heap.size + 1 + 1 + 1, 2, none⟩) (by first | omega | (simp <;> omega)) _)⟩)
end Go.Proofs.Ythlkndjllhdppaa
