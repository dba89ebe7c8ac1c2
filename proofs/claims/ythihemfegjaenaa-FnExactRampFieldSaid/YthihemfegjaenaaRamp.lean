/- Fields that become less towards the edges: the program's answer and the model's. Conditions: none beyond those of each theorem. -/
import Derived.Test.YthihemfegjaenaaNear
import Derived.Test.YthihemfegjaenaaStilled
import Derived.Test.YthihemfegjaenaaBu14
import Derived.Test.YthihemfegjaenaaFlz
namespace Go.Proofs.Ythihemfegjaenaa
open Go Ieee Go.RowKit
set_option linter.unusedVariables false
set_option linter.unusedSimpArgs false

def widthB (wi : Int) : Bool := decide (1 ≤ wi ∧ wi ≤ 16)
def rampB (wd hi : Int) (wb : Bool) (xs ys e x y : List Nat) (wi : Int) : Bool := fieldB wd hi wb xs ys e x y && widthB wi
def nearP (wd hi wi : Int) (i : Nat) : Bool := decide (depI wd hi ((i : Int) % wd) ((i : Int) / wd) < wi)
def rampG (wd hi wi : Int) (e : List Nat) (i : Nat) : Option Nat := fop .mul .f32 (canon .f32 (e.getD i 0)) (partC wi (depI wd hi ((i : Int) % wd) ((i : Int) / wd)))

theorem implWidth (wi : Int) (w : World) : Calls Try.prog 66 #[.int .i64 wi] w fun e w' => e = .returned (.bool (widthB wi)) ∧ w = w' := by
  by_cases h1 : 1 ≤ wi
  · have d1 : decide (1 ≤ wi) = true := decide_eq_true h1
    rw [show widthB wi = decide (wi ≤ 16) by unfold widthB; rw [decide_eq_decide]; omega]
    go_enter Try.func66, Try.ntmps66
    go_wp2
    go_ret
    exact ⟨rfl, rfl⟩
  · have d1 : decide (1 ≤ wi) = false := decide_eq_false h1
    rw [show widthB wi = false by unfold widthB; rw [decide_eq_false]; omega]
    go_enter Try.func66, Try.ntmps66
    go_wp2
    go_ret
    exact ⟨rfl, rfl⟩

theorem rampO_no {w : World} {b : Bool} {m0 m1 m2 : List (Option Nat)} {r : Ending} {w' : World} (hb : b = false) (h : GaveO w false m0 m1 m2 r w') : GaveO w b m0 m1 m2 r w' := by subst hb; exact h
theorem ownO_no {w : World} {b : Bool} {m0 m1 m2 : List (Option Nat)} {r : Ending} {w' : World} (hb : b = false) (h : OwnO w false m0 m1 m2 r w') : OwnO w b m0 m1 m2 r w' := by subst hb; exact h
theorem gaveO_yes {w : World} {b : Bool} {m0 m1 m2 : List (Option Nat)} {a0 a1 a2 : Option Addr} {c0 c1 c2 n : Nat} {y0 y1 y2 : List Nat} {w' : World} (hb : b = true) (h0 : y0.length = n) (h1 : y1.length = n) (h2 : y2.length = n) (h : GotField w.heap.size w w' m0 m1 m2 a0 a1 a2 y0 y1 y2) :
    GaveO w b m0 m1 m2 (.returned (.tuple #[.agg #[.slice a0 n c0, .slice a1 n c1, .slice a2 n c2], .bool true])) w' := by
  subst hb; exact ⟨a0, a1, a2, c0, c1, c2, y0, y1, y2, by rw [h0, h1, h2], h⟩
theorem ownO_yes {w : World} {b : Bool} {m0 m1 m2 : List (Option Nat)} {a0 a1 a2 : Option Addr} {c0 c1 c2 n : Nat} {y0 y1 y2 : List Nat} {w' : World} (hb : b = true) (h0 : y0.length = n) (h1 : y1.length = n) (h2 : y2.length = n) (h : OwnField w w' m0 m1 m2 a0 a1 a2 y0 y1 y2) :
    OwnO w b m0 m1 m2 (.returned (.tuple #[.agg #[.slice a0 n c0, .slice a1 n c1, .slice a2 n c2], .bool true])) w' := by
  subst hb; exact ⟨a0, a1, a2, c0, c1, c2, y0, y1, y2, by rw [h0, h1, h2], h⟩

set_option maxHeartbeats 8000000 in
set_option maxRecDepth 100000 in
theorem implRampFieldL (wd hi : Int) (wb : Bool) (a b : Option Addr) (ca cb : Nat) (xs ys : List Nat) (a0 a1 a2 : Option Addr) (c0 c1 c2 : Nat) (e x y : List Nat) (wi : Int) (w : World) (ha : RowV w a (fvals xs)) (hb : RowV w b (fvals ys)) (qa : ∀ z ∈ xs, z < 2 ^ 32) (qb : ∀ z ∈ ys, z < 2 ^ 32) (hx : xs.length ≤ maxLen) (hy : ys.length ≤ maxLen) (h0 : RowV w a0 (fvals e)) (h1 : RowV w a1 (fvals x)) (h2 : RowV w a2 (fvals y)) (q0 : ∀ z ∈ e, z < 2 ^ 32) (q1 : ∀ z ∈ x, z < 2 ^ 32) (q2 : ∀ z ∈ y, z < 2 ^ 32) (m0 : e.length ≤ maxLen) (m1 : x.length ≤ maxLen) (m2 : y.length ≤ maxLen) (w1 : (Lit.int .i64 wi).wf = true) :
    Calls Try.prog 26 #[.agg #[.int .i64 wd, .int .i64 hi, .bool wb, .slice a xs.length ca, .slice b ys.length cb], .agg #[.slice a0 e.length c0, .slice a1 x.length c1, .slice a2 y.length c2], .int .i64 wi] w (GaveO w (rampB wd hi wb xs ys e x y wi) (chgC (nearP wd hi wi) (rampG wd hi wi e) e) (cl x) (cl y)) := by
  rcases hfv : fieldB wd hi wb xs ys e x y with _ | _
  · skip
    refine Calls.mono ?_ (fun e w9 h9 => rampO_no (by unfold rampB; rw [hfv]; rfl) h9)
    have H_fb := Lib.hid hfv; clear hfv
    have X := Blk.new w #[.int .i64 wd, .int .i64 hi, .bool wb, .slice a xs.length ca, .slice b ys.length cb] 29
    have Y := Blk.new1 w (.cells #[.int .i64 wd, .int .i64 hi, .bool wb, .slice a xs.length ca, .slice b ys.length cb] 29) #[.slice a0 e.length c0, .slice a1 x.length c1, .slice a2 y.length c2] 43
    replace X := X.alloc (.cells #[.slice a0 e.length c0, .slice a1 x.length c1, .slice a2 y.length c2] 43)
    have V := Blk.new2 w (.cells #[.int .i64 wd, .int .i64 hi, .bool wb, .slice a xs.length ca, .slice b ys.length cb] 29) (.cells #[.slice a0 e.length c0, .slice a1 x.length c1, .slice a2 y.length c2] 43) #[.int .i64 wi] 2
    replace X := X.alloc (.cells #[.int .i64 wi] 2)
    replace Y := Y.alloc (.cells #[.int .i64 wi] 2)
    have R := Blk.new3 w (.cells #[.int .i64 wd, .int .i64 hi, .bool wb, .slice a xs.length ca, .slice b ys.length cb] 29) (.cells #[.slice a0 e.length c0, .slice a1 x.length c1, .slice a2 y.length c2] 43) (.cells #[.int .i64 wi] 2) #[.slice none 0 0, .slice none 0 0, .slice none 0 0] 43
    replace X := X.alloc (.cells #[.slice none 0 0, .slice none 0 0, .slice none 0 0] 43)
    replace Y := Y.alloc (.cells #[.slice none 0 0, .slice none 0 0, .slice none 0 0] 43)
    replace V := V.alloc (.cells #[.slice none 0 0, .slice none 0 0, .slice none 0 0] 43)
    have HB : Hid (Below w.heap.size w ((((w.alloc (.cells #[.int .i64 wd, .int .i64 hi, .bool wb, .slice a xs.length ca, .slice b ys.length cb] 29)).alloc (.cells #[.slice a0 e.length c0, .slice a1 x.length c1, .slice a2 y.length c2] 43)).alloc (.cells #[.int .i64 wi] 2)).alloc (.cells #[.slice none 0 0, .slice none 0 0, .slice none 0 0] 43))) := Lib.hid (((((Below.refl w.heap.size w).alloc (by simp <;> omega) _).alloc (by simp <;> omega) _).alloc (by simp <;> omega) _).alloc (by simp <;> omega) _)
    go_enter Try.func26, Try.ntmps26
    go_wp2_with fail
    generalize ((((w.alloc (.cells #[.int .i64 wd, .int .i64 hi, .bool wb, .slice a xs.length ca, .slice b ys.length cb] 29)).alloc (.cells #[.slice a0 e.length c0, .slice a1 x.length c1, .slice a2 y.length c2] 43)).alloc (.cells #[.int .i64 wi] 2)).alloc (.cells #[.slice none 0 0, .slice none 0 0, .slice none 0 0] 43)) = u1 at *
    refine (implIsField _ _ _ _ _ _ _ _ _ _ _ _ _ _ _ _ _ _ _ (ha.later HB.out) (hb.later HB.out) hx hy (h0.later HB.out) (h1.later HB.out) (h2.later HB.out) m0 m1 m2).mono ?_
    rintro r u2 ⟨rfl, q⟩
    replace X := X.later q
    replace Y := Y.later q
    replace V := V.later q
    replace R := R.later q
    replace HB := Lib.hid (HB.out.trans (q.mono HB.out.size))
    clear q
    rw [H_fb.out]
    obtain ⟨Rc, Rf⟩ := R.open
    go_wp2
    refine bodyPost_ret (v := .tuple #[.agg #[.slice none 0 0, .slice none 0 0, .slice none 0 0], .bool false]) (by simp [results, Try.results26, go_sem, Rc]) rfl ⟨none, none, none, 0, 0, 0, [], [], [], rfl, GotField.none (((HB.out.setCell (p := ⟨w.heap.size + 1 + 1 + 1, 0, none⟩) (by first | omega | (simp <;> omega)) _).setCell (p := ⟨w.heap.size + 1 + 1 + 1, 1, none⟩) (by first | omega | (simp <;> omega)) _).setCell (p := ⟨w.heap.size + 1 + 1 + 1, 2, none⟩) (by first | omega | (simp <;> omega)) _)⟩
  have HB0 : Hid (rampB wd hi wb xs ys e x y wi = widthB wi) := Lib.hid (by unfold rampB; rw [hfv]; rfl)
  obtain ⟨p1, _, l0, l1, l2⟩ := field_parts hfv
  obtain ⟨s1, s2, s3, s4, hm2, lx, ly⟩ := valid_parts p1
  obtain ⟨t1, t2⟩ := (sides_mul (valid_sides p1)).2.2.2.2
  obtain ⟨n, hn⟩ := Int.eq_ofNat_of_zero_le (show 0 ≤ wd * hi by omega)
  have E0 : e.length = n := by omega
  have E1 : x.length = n := by omega
  have E2 : y.length = n := by omega
  have n256 : n ≤ 256 := by omega
  have n0 : 0 < n := by omega
  obtain ⟨b0, o0, rfl, hz0⟩ := h0 0 _ (fvals_get (show 0 < e.length by omega)); clear hz0
  obtain ⟨b1, o1, rfl, hz1⟩ := h1 0 _ (fvals_get (show 0 < x.length by omega)); clear hz1
  obtain ⟨b2, o2, rfl, hz2⟩ := h2 0 _ (fvals_get (show 0 < y.length by omega)); clear hz2
  have CV : ∀ u, Below w.heap.size w u → Calls Try.prog 78 #[.agg #[.int .i64 wd, .int .i64 hi, .bool wb, .slice a xs.length ca, .slice b ys.length cb], .agg #[.slice (some ⟨b0, o0, none⟩) n c0, .slice (some ⟨b1, o1, none⟩) n c1, .slice (some ⟨b2, o2, none⟩) n c2]] u fun e w' => e = .returned (.bool true) ∧ Below u.heap.size u w' := fun u hu => by
    have := implIsField wd hi wb a b ca cb xs ys (some ⟨b0, o0, none⟩) (some ⟨b1, o1, none⟩) (some ⟨b2, o2, none⟩) c0 c1 c2 e x y u (ha.later hu) (hb.later hu) hx hy (h0.later hu) (h1.later hu) (h2.later hu) m0 m1 m2
    rw [E0, E1, E2, hfv] at this; exact this
  have HCV := Lib.hid CV; clear CV
  rw [E0, E1, E2]
  have HN := Lib.hid hn; have L0 := Lib.hid E0; have L1 := Lib.hid E1; have L2 := Lib.hid E2; clear hn E0 E1 E2 l0 l1 l2 lx ly t1 t2
  clear p1 hfv
  rcases hwi : widthB wi with _ | _
  · skip
    refine Calls.mono ?_ (fun e w9 h9 => rampO_no (by rw [HB0.out, hwi]) h9)
    have HW := Lib.hid hwi; clear hwi
    have X := Blk.new w #[.int .i64 wd, .int .i64 hi, .bool wb, .slice a xs.length ca, .slice b ys.length cb] 29
    have Y := Blk.new1 w (.cells #[.int .i64 wd, .int .i64 hi, .bool wb, .slice a xs.length ca, .slice b ys.length cb] 29) #[.slice (some ⟨b0, o0, none⟩) n c0, .slice (some ⟨b1, o1, none⟩) n c1, .slice (some ⟨b2, o2, none⟩) n c2] 43
    replace X := X.alloc (.cells #[.slice (some ⟨b0, o0, none⟩) n c0, .slice (some ⟨b1, o1, none⟩) n c1, .slice (some ⟨b2, o2, none⟩) n c2] 43)
    have V := Blk.new2 w (.cells #[.int .i64 wd, .int .i64 hi, .bool wb, .slice a xs.length ca, .slice b ys.length cb] 29) (.cells #[.slice (some ⟨b0, o0, none⟩) n c0, .slice (some ⟨b1, o1, none⟩) n c1, .slice (some ⟨b2, o2, none⟩) n c2] 43) #[.int .i64 wi] 2
    replace X := X.alloc (.cells #[.int .i64 wi] 2)
    replace Y := Y.alloc (.cells #[.int .i64 wi] 2)
    have R := Blk.new3 w (.cells #[.int .i64 wd, .int .i64 hi, .bool wb, .slice a xs.length ca, .slice b ys.length cb] 29) (.cells #[.slice (some ⟨b0, o0, none⟩) n c0, .slice (some ⟨b1, o1, none⟩) n c1, .slice (some ⟨b2, o2, none⟩) n c2] 43) (.cells #[.int .i64 wi] 2) #[.slice none 0 0, .slice none 0 0, .slice none 0 0] 43
    replace X := X.alloc (.cells #[.slice none 0 0, .slice none 0 0, .slice none 0 0] 43)
    replace Y := Y.alloc (.cells #[.slice none 0 0, .slice none 0 0, .slice none 0 0] 43)
    replace V := V.alloc (.cells #[.slice none 0 0, .slice none 0 0, .slice none 0 0] 43)
    have HB : Hid (Below w.heap.size w ((((w.alloc (.cells #[.int .i64 wd, .int .i64 hi, .bool wb, .slice a xs.length ca, .slice b ys.length cb] 29)).alloc (.cells #[.slice (some ⟨b0, o0, none⟩) n c0, .slice (some ⟨b1, o1, none⟩) n c1, .slice (some ⟨b2, o2, none⟩) n c2] 43)).alloc (.cells #[.int .i64 wi] 2)).alloc (.cells #[.slice none 0 0, .slice none 0 0, .slice none 0 0] 43))) := Lib.hid (((((Below.refl w.heap.size w).alloc (by simp <;> omega) _).alloc (by simp <;> omega) _).alloc (by simp <;> omega) _).alloc (by simp <;> omega) _)
    go_enter Try.func26, Try.ntmps26
    go_wp2_with fail
    generalize ((((w.alloc (.cells #[.int .i64 wd, .int .i64 hi, .bool wb, .slice a xs.length ca, .slice b ys.length cb] 29)).alloc (.cells #[.slice (some ⟨b0, o0, none⟩) n c0, .slice (some ⟨b1, o1, none⟩) n c1, .slice (some ⟨b2, o2, none⟩) n c2] 43)).alloc (.cells #[.int .i64 wi] 2)).alloc (.cells #[.slice none 0 0, .slice none 0 0, .slice none 0 0] 43)) = u1 at *
    refine (HCV.out _ HB.out).mono ?_
    rintro r u2 ⟨rfl, q⟩
    replace X := X.later q
    replace Y := Y.later q
    replace V := V.later q
    replace R := R.later q
    replace HB := Lib.hid (HB.out.trans (q.mono HB.out.size))
    clear q
    obtain ⟨Vc, Vf⟩ := V.open
    go_wp2_with fail
    refine (implWidth _ _).mono ?_
    rintro r w9 ⟨rfl, rfl⟩
    rw [HW.out]
    clear Vc Vf
    obtain ⟨Rc, Rf⟩ := R.open
    go_wp2
    refine bodyPost_ret (v := .tuple #[.agg #[.slice none 0 0, .slice none 0 0, .slice none 0 0], .bool false]) (by simp [results, Try.results26, go_sem, Rc]) rfl ⟨none, none, none, 0, 0, 0, [], [], [], rfl, GotField.none (((HB.out.setCell (p := ⟨w.heap.size + 1 + 1 + 1, 0, none⟩) (by first | omega | (simp <;> omega)) _).setCell (p := ⟨w.heap.size + 1 + 1 + 1, 1, none⟩) (by first | omega | (simp <;> omega)) _).setCell (p := ⟨w.heap.size + 1 + 1 + 1, 2, none⟩) (by first | omega | (simp <;> omega)) _)⟩
  have HBT : Hid (rampB wd hi wb xs ys e x y wi = true) := Lib.hid (by rw [HB0.out, hwi])
  obtain ⟨wi1, wi2⟩ : 1 ≤ wi ∧ wi ≤ 16 := of_decide_eq_true hwi
  have HW := Lib.hid hwi; clear hwi
  have X := Blk.new w #[.int .i64 wd, .int .i64 hi, .bool wb, .slice a xs.length ca, .slice b ys.length cb] 29
  have Y := Blk.new1 w (.cells #[.int .i64 wd, .int .i64 hi, .bool wb, .slice a xs.length ca, .slice b ys.length cb] 29) #[.slice (some ⟨b0, o0, none⟩) n c0, .slice (some ⟨b1, o1, none⟩) n c1, .slice (some ⟨b2, o2, none⟩) n c2] 43
  replace X := X.alloc (.cells #[.slice (some ⟨b0, o0, none⟩) n c0, .slice (some ⟨b1, o1, none⟩) n c1, .slice (some ⟨b2, o2, none⟩) n c2] 43)
  have V := Blk.new2 w (.cells #[.int .i64 wd, .int .i64 hi, .bool wb, .slice a xs.length ca, .slice b ys.length cb] 29) (.cells #[.slice (some ⟨b0, o0, none⟩) n c0, .slice (some ⟨b1, o1, none⟩) n c1, .slice (some ⟨b2, o2, none⟩) n c2] 43) #[.int .i64 wi] 2
  replace X := X.alloc (.cells #[.int .i64 wi] 2)
  replace Y := Y.alloc (.cells #[.int .i64 wi] 2)
  have R := Blk.new3 w (.cells #[.int .i64 wd, .int .i64 hi, .bool wb, .slice a xs.length ca, .slice b ys.length cb] 29) (.cells #[.slice (some ⟨b0, o0, none⟩) n c0, .slice (some ⟨b1, o1, none⟩) n c1, .slice (some ⟨b2, o2, none⟩) n c2] 43) (.cells #[.int .i64 wi] 2) #[.slice none 0 0, .slice none 0 0, .slice none 0 0] 43
  replace X := X.alloc (.cells #[.slice none 0 0, .slice none 0 0, .slice none 0 0] 43)
  replace Y := Y.alloc (.cells #[.slice none 0 0, .slice none 0 0, .slice none 0 0] 43)
  replace V := V.alloc (.cells #[.slice none 0 0, .slice none 0 0, .slice none 0 0] 43)
  have HB : Hid (Below w.heap.size w ((((w.alloc (.cells #[.int .i64 wd, .int .i64 hi, .bool wb, .slice a xs.length ca, .slice b ys.length cb] 29)).alloc (.cells #[.slice (some ⟨b0, o0, none⟩) n c0, .slice (some ⟨b1, o1, none⟩) n c1, .slice (some ⟨b2, o2, none⟩) n c2] 43)).alloc (.cells #[.int .i64 wi] 2)).alloc (.cells #[.slice none 0 0, .slice none 0 0, .slice none 0 0] 43))) := Lib.hid (((((Below.refl w.heap.size w).alloc (by simp <;> omega) _).alloc (by simp <;> omega) _).alloc (by simp <;> omega) _).alloc (by simp <;> omega) _)
  go_enter Try.func26, Try.ntmps26
  go_wp2_with fail
  generalize ((((w.alloc (.cells #[.int .i64 wd, .int .i64 hi, .bool wb, .slice a xs.length ca, .slice b ys.length cb] 29)).alloc (.cells #[.slice (some ⟨b0, o0, none⟩) n c0, .slice (some ⟨b1, o1, none⟩) n c1, .slice (some ⟨b2, o2, none⟩) n c2] 43)).alloc (.cells #[.int .i64 wi] 2)).alloc (.cells #[.slice none 0 0, .slice none 0 0, .slice none 0 0] 43)) = u1 at *
  refine (HCV.out _ HB.out).mono ?_
  rintro r u2 ⟨rfl, q⟩
  replace X := X.later q
  replace Y := Y.later q
  replace V := V.later q
  replace R := R.later q
  replace HB := Lib.hid (HB.out.trans (q.mono HB.out.size))
  clear q
  obtain ⟨Vc, Vf⟩ := V.open
  go_wp2_with fail
  refine (implWidth _ _).mono ?_
  rintro r w9 ⟨rfl, rfl⟩
  rw [HW.out]
  clear Vc Vf
  obtain ⟨Xc, Xf⟩ := X.open
  go_wp2_with fail
  refine (implShapeOf _ _ _ _ _ _ _ _ _ _).mono ?_
  rintro r u3 ⟨rfl, q⟩
  clear Xc Xf
  replace X := X.later q
  replace Y := Y.later q
  replace V := V.later q
  replace R := R.later q
  replace HB := Lib.hid (HB.out.trans (q.mono HB.out.size))
  clear q
  have H := Blk.new u3 #[.int .i64 wd, .int .i64 hi, .bool wb] 78
  have q := below_new u3 (.cells #[.int .i64 wd, .int .i64 hi, .bool wb] 78)
  replace X := X.later q
  replace Y := Y.later q
  replace V := V.later q
  replace R := R.later q
  replace HB := Lib.hid (HB.out.trans (q.mono HB.out.size))
  clear q
  go_wp2_with fail
  generalize (u3.alloc (.cells #[.int .i64 wd, .int .i64 hi, .bool wb] 78)) = u4 at *
  have hgh : u3.heap.size = u3.heap.size := rfl
  obtain ⟨gh0, hgh0⟩ : ∃ gh0, gh0 = u3.heap.size := ⟨_, rfl⟩
  rw [← hgh0] at H
  (try simp only [← hgh0])
  clear hgh hgh0
  have HBU := HB.out; have zr := R.lt; have zu := HBU.size
  have aslc : ∀ w, (isAgg 22).run Try.prog w = .ok false w := fun w => by kernel_rfl
  have ai64 : ∀ w, (isAgg 2).run Try.prog w = .ok false w := fun w => by kernel_rfl
  obtain ⟨Yc, Yf⟩ := Y.open; obtain ⟨Vc, Vf⟩ := V.open
  refine wp_region_noPanic ?_
  refine wp_region_plan (Grows u4) 15 [(0, true), (1, true), (2, true), (3, true), (4, true), (6, true), (8, true), (9, true), (11, true), (12, true), (5, false), (7, false), (10, false), (13, false), (14, true)] (by kernel_rfl) (by kernel_rfl) (fun _ _ _ _ _ h => h) (Grows.drew _) ?_
  (refine plan_load rfl rfl (⟨gh0, 0, none⟩) (by kernel_rfl) (.agg #[.int .i64 wd, .int .i64 hi, .bool wb]) (fun w' hw' => run_loadVar_row w' _ _ _ _ _ _ (H.later hw') Try.underlying78 rfl (by kernel_rfl)) ?_; simp only [Act.put, List.setIfInBounds_toArray, List.set_cons_zero, List.set_cons_succ])
  (refine plan_plain rfl rfl ?_ ?_ ?_; rotate_left; focus (intro w9; go_simp <;> with_reducible rfl)); (simp only [Act.put, List.setIfInBounds_toArray, List.set_cons_zero, List.set_cons_succ])
  (refine plan_load rfl rfl (⟨w.heap.size + 1, 0, none⟩) (by kernel_rfl) (.slice (some ⟨b0, o0, none⟩) n c0) (load_cell aslc (Yc 0)) ?_; simp only [Act.put, List.setIfInBounds_toArray, List.set_cons_zero, List.set_cons_succ])
  (refine plan_load rfl rfl (⟨gh0, 0, none⟩) (by kernel_rfl) (.agg #[.int .i64 wd, .int .i64 hi, .bool wb]) (fun w' hw' => run_loadVar_row w' _ _ _ _ _ _ (H.later hw') Try.underlying78 rfl (by kernel_rfl)) ?_; simp only [Act.put, List.setIfInBounds_toArray, List.set_cons_zero, List.set_cons_succ])
  (refine plan_load rfl rfl (⟨w.heap.size + 1 + 1, 0, none⟩) (by kernel_rfl) (.int .i64 wi) (load_cell ai64 (Vc 0)) ?_; simp only [Act.put, List.setIfInBounds_toArray, List.set_cons_zero, List.set_cons_succ])
  (refine plan_plain rfl rfl ?_ ?_ ?_; rotate_left; focus (intro w9; go_simp <;> with_reducible rfl)); (simp only [Act.put, List.setIfInBounds_toArray, List.set_cons_zero, List.set_cons_succ])
  (refine plan_plain rfl rfl ?_ ?_ ?_; rotate_left; focus (intro w9; go_simp <;> with_reducible rfl)); (simp only [Act.put, List.setIfInBounds_toArray, List.set_cons_zero, List.set_cons_succ])
  (refine plan_load rfl rfl (⟨w.heap.size + 1, 1, none⟩) (by kernel_rfl) (.slice (some ⟨b1, o1, none⟩) n c1) (load_cell aslc (Yc 1)) ?_; simp only [Act.put, List.setIfInBounds_toArray, List.set_cons_zero, List.set_cons_succ])
  (refine plan_plain rfl rfl ?_ ?_ ?_; rotate_left; focus (intro w9; go_simp <;> with_reducible rfl)); (simp only [Act.put, List.setIfInBounds_toArray, List.set_cons_zero, List.set_cons_succ])
  (refine plan_load rfl rfl (⟨w.heap.size + 1, 2, none⟩) (by kernel_rfl) (.slice (some ⟨b2, o2, none⟩) n c2) (load_cell aslc (Yc 2)) ?_; simp only [Act.put, List.setIfInBounds_toArray, List.set_cons_zero, List.set_cons_succ])
  have v0_ := Grows.drew u4
  generalize u4.drew = v0 at *
  refine plan_call rfl rfl 74 #[] #[] rfl _ Try.func74 (by kernel_rfl) (by kernel_rfl) [.agg #[.int .i64 wd, .int .i64 hi, .bool wb], .int .i64 wi] (by kernel_rfl) #[.agg #[.int .i64 wd, .int .i64 hi, .bool wb], .int .i64 wi] (by simp) _ (implNear wd hi wi wb v0) ?_
  rintro e v1 ⟨gh, gw, rfl, BH, BW, _, _, b⟩
  refine ⟨_, rfl, v0_.next b, ?_⟩
  simp only [Act.put, List.setIfInBounds_toArray, List.set_cons_zero, List.set_cons_succ]
  have v1_ := v0_.next b; clear b
  have e1 := h0.later (HBU.trans (Below.mono v1_ zu))
  have HCH := implChanged wd hi wb b0 o0 c0 n e 115 79 #[] #[.pointer (some ⟨gh, 0, none⟩), .pointer (some ⟨gw, 0, none⟩)] #[] #[.pointer (some ⟨w.heap.size + 1 + 1, 0, none⟩), .pointer (some ⟨gh0, 0, none⟩)] (nearP wd hi wi) (rampG wd hi wi e) v1 e1 q0 L0.out s1 s2 n0 n256 (by exact ⟨_, rfl, by kernel_rfl, by kernel_rfl⟩) (by exact ⟨_, rfl, by kernel_rfl, by kernel_rfl⟩) (fun i hlt w' hw' => by obtain ⟨x0, x1, y0, y1⟩ := split_in s1 HN.out hlt; exact implNear1 gh gw wd hi wi _ _ wb w' (BH.later hw') (BW.later hw') s1 s2 s3 s4 x0 x1 y0 y1) (fun i hlt _ w' hw' => by obtain ⟨x0, x1, y0, y1⟩ := split_in s1 HN.out hlt; exact implRamp1 (w.heap.size + 1 + 1) gh0 (e.getD i 0) wd hi wi _ _ wb w' ((H.later v1_).later hw') ((V.later v1_).later hw') s1 s2 s3 s4 x0 x1 y0 y1)
  refine plan_call rfl rfl 73 #[] #[] rfl _ Try.func73 (by kernel_rfl) (by kernel_rfl) [.agg #[.int .i64 wd, .int .i64 hi, .bool wb], .slice (some ⟨b0, o0, none⟩) n c0, .func (.func 115) #[] #[.pointer (some ⟨gh, 0, none⟩), .pointer (some ⟨gw, 0, none⟩)], .func (.func 79) #[] #[.pointer (some ⟨w.heap.size + 1 + 1, 0, none⟩), .pointer (some ⟨gh0, 0, none⟩)]] (by kernel_rfl) #[.agg #[.int .i64 wd, .int .i64 hi, .bool wb], .slice (some ⟨b0, o0, none⟩) n c0, .func (.func 115) #[] #[.pointer (some ⟨gh, 0, none⟩), .pointer (some ⟨gw, 0, none⟩)], .func (.func 79) #[] #[.pointer (some ⟨w.heap.size + 1 + 1, 0, none⟩), .pointer (some ⟨gh0, 0, none⟩)]] (by simp) _ (HCH) ?_
  rintro e v2 ⟨g0, k0, L, rfl, oo0, hL, hI, bb2⟩
  refine ⟨_, rfl, v1_.next bb2, ?_⟩
  simp only [Act.put, List.setIfInBounds_toArray, List.set_cons_zero, List.set_cons_succ]
  have v2_ := v1_.next bb2; clear HCH
  have e2 := h1.later (HBU.trans (Below.mono v2_ zu))
  refine plan_call rfl rfl 72 #[] #[] rfl _ Try.func72 (by kernel_rfl) (by kernel_rfl) [.slice (some ⟨b1, o1, none⟩) n c1] (by kernel_rfl) #[.slice (some ⟨b1, o1, none⟩) n c1] (by simp) _ (cloneN b1 o1 c1 n x v2 e2 L1.out n0 n256) ?_
  rintro e v3 ⟨g1, k1, rfl, oo1, bb3⟩
  refine ⟨_, rfl, v2_.next bb3, ?_⟩
  simp only [Act.put, List.setIfInBounds_toArray, List.set_cons_zero, List.set_cons_succ]
  have v3_ := v2_.next bb3
  have e3 := h2.later (HBU.trans (Below.mono v3_ zu))
  refine plan_call rfl rfl 72 #[] #[] rfl _ Try.func72 (by kernel_rfl) (by kernel_rfl) [.slice (some ⟨b2, o2, none⟩) n c2] (by kernel_rfl) #[.slice (some ⟨b2, o2, none⟩) n c2] (by simp) _ (cloneN b2 o2 c2 n y v3 e3 L2.out n0 n256) ?_
  rintro e v4 ⟨g2, k2, rfl, oo2, bb4⟩
  refine ⟨_, rfl, v3_.next bb4, ?_⟩
  simp only [Act.put, List.setIfInBounds_toArray, List.set_cons_zero, List.set_cons_succ]
  have v4_ := v3_.next bb4
  (refine plan_build rfl rfl #[.slice (some ⟨g0, 0, none⟩) n k0, .slice (some ⟨g1, 0, none⟩) n k1, .slice (some ⟨g2, 0, none⟩) n k2] (by kernel_rfl) ?_; simp only [Act.put, List.setIfInBounds_toArray, List.set_cons_zero, List.set_cons_succ])
  change wpList _ _ _ _ _ _
  simp only [List.drop_succ_cons, List.drop_zero]
  have sz1 : u4.heap.size ≤ v1.heap.size := Below.size v1_; have sz2 : u4.heap.size ≤ v2.heap.size := Below.size v2_; have sz3 : u4.heap.size ≤ v3.heap.size := Below.size v3_; have sz12 := bb2.size; have sz23 := bb3.size; have sz34 := bb4.size
  have y0 := oo0.bound g0 rfl; have y1 := oo1.bound g1 rfl; have y2 := oo2.bound g2 rfl
  have z0 := (oo0.span _ rfl).2; have z1 := (oo1.span _ rfl).2; dsimp only at z0 z1
  have ne01 : g0 ≠ g1 := by omega
  have ne02 : g0 ≠ g2 := by omega
  have ne12 : g1 ≠ g2 := by omega
  have O0 := Lib.hid (((oo0.later bb3).later bb4).lower (show w.heap.size ≤ v1.heap.size by omega)); have O1 := Lib.hid ((oo1.later bb4).lower (show w.heap.size ≤ v2.heap.size by omega)); have O2 := Lib.hid (oo2.lower (show w.heap.size ≤ v3.heap.size by omega)); clear oo0 oo1 oo2
  have HB4 := Lib.hid (HBU.trans (Below.mono v4_ zu))
  have R4 := R.later v4_
  have HI := Lib.hid hI; have HL := Lib.hid hL; clear hI hL e1 e2 e3 BH BW bb2 bb3 bb4 v0_ v1_ v2_ v3_ v4_ Yc Yf Vc Vf X R Y V H HB
  obtain ⟨Rc, Rf⟩ := R4.open
  go_wp2_with fail
  refine NoPanic.normal ?_
  go_wp2
  refine bodyPost_ret (v := .tuple #[.agg #[.slice (some ⟨g0, 0, none⟩) n k0, .slice (some ⟨g1, 0, none⟩) n k1, .slice (some ⟨g2, 0, none⟩) n k2], .bool true]) (by simp [results, Try.results26, go_sem, Rc]) rfl (gaveO_yes HBT.out HL.out L1.out L2.out ⟨(((O0.out.set (p := ⟨w.heap.size + 1 + 1 + 1, 0, none⟩) (ne_block (h := w.heap.size + 1 + 1 + 1) (by omega)) _).set (p := ⟨w.heap.size + 1 + 1 + 1, 1, none⟩) (ne_block (h := w.heap.size + 1 + 1 + 1) (by omega)) _).set (p := ⟨w.heap.size + 1 + 1 + 1, 2, none⟩) (ne_block (h := w.heap.size + 1 + 1 + 1) (by omega)) _), (((O1.out.set (p := ⟨w.heap.size + 1 + 1 + 1, 0, none⟩) (ne_block (h := w.heap.size + 1 + 1 + 1) (by omega)) _).set (p := ⟨w.heap.size + 1 + 1 + 1, 1, none⟩) (ne_block (h := w.heap.size + 1 + 1 + 1) (by omega)) _).set (p := ⟨w.heap.size + 1 + 1 + 1, 2, none⟩) (ne_block (h := w.heap.size + 1 + 1 + 1) (by omega)) _), (((O2.out.set (p := ⟨w.heap.size + 1 + 1 + 1, 0, none⟩) (ne_block (h := w.heap.size + 1 + 1 + 1) (by omega)) _).set (p := ⟨w.heap.size + 1 + 1 + 1, 1, none⟩) (ne_block (h := w.heap.size + 1 + 1 + 1) (by omega)) _).set (p := ⟨w.heap.size + 1 + 1 + 1, 2, none⟩) (ne_block (h := w.heap.size + 1 + 1 + 1) (by omega)) _), apart_ne ne01, apart_ne ne02, apart_ne ne12, HI.out, Is.refl q1 (by rw [L1.out]; exact n256), Is.refl q2 (by rw [L2.out]; exact n256), (((HB4.out.setCell (p := ⟨w.heap.size + 1 + 1 + 1, 0, none⟩) (by first | omega | (simp <;> omega)) _).setCell (p := ⟨w.heap.size + 1 + 1 + 1, 1, none⟩) (by first | omega | (simp <;> omega)) _).setCell (p := ⟨w.heap.size + 1 + 1 + 1, 2, none⟩) (by first | omega | (simp <;> omega)) _)⟩)

theorem zin_le {p : Int → Int → Bool} {wd : Int} {xs L : List Nat} (hl : L.length = xs.length) (h : ∀ i, i < xs.length → nzB (xs.getD i 0) = false → nzB (L.getD i 0) = false) (hz : zin p wd xs = true) : zin p wd L = true := by
  refine zin_true fun i hi => ?_
  unfold zin at hz
  have h1 := List.all_eq_true.1 hz i (List.mem_range.2 (by omega))
  simp only [Bool.not_eq_true', Bool.and_eq_false_iff] at h1 ⊢
  rcases h1 with h1 | h1
  · exact .inl (h i (by omega) h1)
  · exact .inr h1

theorem canon_zero' : canon .f32 0 = some 0 ∧ canon .f32 2147483648 = some 2147483648 := by decide +kernel

theorem ramp_fits {wd hi wi : Int} {wb : Bool} {e x y L : List Nat} {n : Nat} (s1 : 3 ≤ wd) (hn : wd * hi = n) (w1 : 1 ≤ wi) (w2 : wi ≤ 16) (he : e.length = n) (q0 : ∀ z ∈ e, z < 2 ^ 32) (hf : fitsB wd hi wb e x y = true) (h : ChgTo (nearP wd hi wi) (rampG wd hi wi e) e n L) : fitsB wd hi wb L x y = true := by
  unfold fitsB at hf ⊢
  simp only [Bool.and_eq_true, decide_eq_true_eq] at hf ⊢
  obtain ⟨⟨l0, l1, l2⟩, z0, z1, z2⟩ := hf
  refine ⟨⟨by rw [h.len]; exact l0, l1, l2⟩, zin_le h.len (fun i hi' hz => ?_) z0, z1, z2⟩
  have hie : e.getD i 0 < 2 ^ 32 := by rw [getD_get hi']; exact q0 _ (List.getElem_mem hi')
  have hc := h.num i hi' (by omega)
  have hz2 := nz_zero hie hz
  have hL : canon .f32 (L.getD i 0) = some (e.getD i 0) := by
    rw [hc]
    split
    · rename_i hp
      have hd : depI wd hi ((i : Int) % wd) ((i : Int) / wd) < wi := of_decide_eq_true hp
      have hd0 := (dep_in (split_in s1 hn (show i < n by omega))).1
      unfold rampG
      obtain ⟨a, ha⟩ := Int.eq_ofNat_of_zero_le (show 0 ≤ wi by omega)
      obtain ⟨b, hb⟩ := Int.eq_ofNat_of_zero_le hd0
      rw [hb, ha]
      have pz := part_zeros a (List.mem_range.2 (by omega)) b (List.mem_range.2 (by omega)) (by omega) (by omega)
      rcases hz2 with h2 | h2 <;> rw [h2]
      · rw [canon_zero'.1]; exact pz.1
      · rw [canon_zero'.2]; exact pz.2
    · rcases hz2 with h2 | h2 <;> rw [h2]
      · exact canon_zero'.1
      · exact canon_zero'.2
  have hb := (canon_some hL).1
  rcases hz2 with h2 | h2
  · rw [h2] at hb; rw [← hb]; decide +kernel
  · rw [h2] at hb; rw [← hb]; decide +kernel

set_option maxHeartbeats 8000000 in
set_option maxRecDepth 100000 in
theorem specRampFieldL (wd hi : Int) (wb : Bool) (a b : Option Addr) (ca cb : Nat) (xs ys : List Nat) (a0 a1 a2 : Option Addr) (c0 c1 c2 : Nat) (e x y : List Nat) (wi : Int) (w : World) (ha : RowV w a (fvals xs)) (hb : RowV w b (fvals ys)) (qa : ∀ z ∈ xs, z < 2 ^ 32) (qb : ∀ z ∈ ys, z < 2 ^ 32) (hx : xs.length ≤ maxLen) (hy : ys.length ≤ maxLen) (h0 : RowV w a0 (fvals e)) (h1 : RowV w a1 (fvals x)) (h2 : RowV w a2 (fvals y)) (q0 : ∀ z ∈ e, z < 2 ^ 32) (q1 : ∀ z ∈ x, z < 2 ^ 32) (q2 : ∀ z ∈ y, z < 2 ^ 32) (m0 : e.length ≤ maxLen) (m1 : x.length ≤ maxLen) (m2 : y.length ≤ maxLen) (w1 : (Lit.int .i64 wi).wf = true) :
    Calls Try.prog 24 #[.agg #[.int .i64 wd, .int .i64 hi, .bool wb, .slice a xs.length ca, .slice b ys.length cb], .agg #[.slice a0 e.length c0, .slice a1 x.length c1, .slice a2 y.length c2], .int .i64 wi] w (OwnO w (rampB wd hi wb xs ys e x y wi) (chgC (nearP wd hi wi) (rampG wd hi wi e) e) (cl x) (cl y)) := by
  rcases hfv : fieldB wd hi wb xs ys e x y with _ | _
  · skip
    refine Calls.mono ?_ (fun e w9 h9 => ownO_no (by unfold rampB; rw [hfv]; rfl) h9)
    have H_fb := Lib.hid hfv; clear hfv
    have X := Blk.new w #[.int .i64 wd, .int .i64 hi, .bool wb, .slice a xs.length ca, .slice b ys.length cb] 29
    have Y := Blk.new1 w (.cells #[.int .i64 wd, .int .i64 hi, .bool wb, .slice a xs.length ca, .slice b ys.length cb] 29) #[.slice a0 e.length c0, .slice a1 x.length c1, .slice a2 y.length c2] 43
    replace X := X.alloc (.cells #[.slice a0 e.length c0, .slice a1 x.length c1, .slice a2 y.length c2] 43)
    have R := Blk.new2 w (.cells #[.int .i64 wd, .int .i64 hi, .bool wb, .slice a xs.length ca, .slice b ys.length cb] 29) (.cells #[.slice a0 e.length c0, .slice a1 x.length c1, .slice a2 y.length c2] 43) #[.slice none 0 0, .slice none 0 0, .slice none 0 0] 43
    replace X := X.alloc (.cells #[.slice none 0 0, .slice none 0 0, .slice none 0 0] 43)
    replace Y := Y.alloc (.cells #[.slice none 0 0, .slice none 0 0, .slice none 0 0] 43)
    have HB : Hid (Below w.heap.size w (((w.alloc (.cells #[.int .i64 wd, .int .i64 hi, .bool wb, .slice a xs.length ca, .slice b ys.length cb] 29)).alloc (.cells #[.slice a0 e.length c0, .slice a1 x.length c1, .slice a2 y.length c2] 43)).alloc (.cells #[.slice none 0 0, .slice none 0 0, .slice none 0 0] 43))) := Lib.hid ((((Below.refl w.heap.size w).alloc (by simp <;> omega) _).alloc (by simp <;> omega) _).alloc (by simp <;> omega) _)
    go_enter Try.func24, Try.ntmps24
    go_wp2_with fail
    generalize (((w.alloc (.cells #[.int .i64 wd, .int .i64 hi, .bool wb, .slice a xs.length ca, .slice b ys.length cb] 29)).alloc (.cells #[.slice a0 e.length c0, .slice a1 x.length c1, .slice a2 y.length c2] 43)).alloc (.cells #[.slice none 0 0, .slice none 0 0, .slice none 0 0] 43)) = u1 at *
    refine (specBoth _ _ _ _ _ _ _ _ _ _ _ _ _ _ _ _ _ _ _ _ _ X Y (ha.later HB.out) (hb.later HB.out) hx hy (h0.later HB.out) (h1.later HB.out) (h2.later HB.out) m0 m1 m2).mono ?_
    rintro r u2 ⟨rfl, nq, hw⟩
    have q : Below u1.heap.size u1 u2 := by rw [hw]; exact below_drewN (Below.refl _ _) _
    clear hw
    replace X := X.later q
    replace Y := Y.later q
    replace R := R.later q
    replace HB := Lib.hid (HB.out.trans (q.mono HB.out.size))
    clear q
    rw [H_fb.out]
    obtain ⟨Rc, Rf⟩ := R.open
    go_wp2
    refine bodyPost_ret (v := .tuple #[.agg #[.slice none 0 0, .slice none 0 0, .slice none 0 0], .bool false]) (by simp [results, Try.results24, go_sem, Rc]) rfl ⟨none, none, none, 0, 0, 0, [], [], [], rfl, OwnField.none (((HB.out.setCell (p := ⟨w.heap.size + 1 + 1, 0, none⟩) (by first | omega | (simp <;> omega)) _).setCell (p := ⟨w.heap.size + 1 + 1, 1, none⟩) (by first | omega | (simp <;> omega)) _).setCell (p := ⟨w.heap.size + 1 + 1, 2, none⟩) (by first | omega | (simp <;> omega)) _)⟩
  have HB0 : Hid (rampB wd hi wb xs ys e x y wi = widthB wi) := Lib.hid (by unfold rampB; rw [hfv]; rfl)
  obtain ⟨p1, _, l0, l1, l2⟩ := field_parts hfv
  obtain ⟨s1, s2, s3, s4, hm2, lx, ly⟩ := valid_parts p1
  obtain ⟨t1, t2⟩ := (sides_mul (valid_sides p1)).2.2.2.2
  obtain ⟨n, hn⟩ := Int.eq_ofNat_of_zero_le (show 0 ≤ wd * hi by omega)
  have E0 : e.length = n := by omega
  have E1 : x.length = n := by omega
  have E2 : y.length = n := by omega
  have n256 : n ≤ 256 := by omega
  have n0 : 0 < n := by omega
  obtain ⟨b0, o0, rfl, hz0⟩ := h0 0 _ (fvals_get (show 0 < e.length by omega)); clear hz0
  obtain ⟨b1, o1, rfl, hz1⟩ := h1 0 _ (fvals_get (show 0 < x.length by omega)); clear hz1
  obtain ⟨b2, o2, rfl, hz2⟩ := h2 0 _ (fvals_get (show 0 < y.length by omega)); clear hz2
  have CV : ∀ u, Below w.heap.size w u → Blk u w.heap.size #[.int .i64 wd, .int .i64 hi, .bool wb, .slice a xs.length ca, .slice b ys.length cb] 29 → Blk u (w.heap.size + 1) #[.slice (some ⟨b0, o0, none⟩) n c0, .slice (some ⟨b1, o1, none⟩) n c1, .slice (some ⟨b2, o2, none⟩) n c2] 43 → Calls Try.prog 75 #[.pointer (some ⟨w.heap.size, 0, none⟩), .pointer (some ⟨w.heap.size + 1, 0, none⟩)] u fun e w' => e = .returned (.bool true) ∧ Below u.heap.size u w' := fun u hu X Y => by
    have := specBoth w.heap.size (w.heap.size + 1) wd hi wb a b ca cb xs ys (some ⟨b0, o0, none⟩) (some ⟨b1, o1, none⟩) (some ⟨b2, o2, none⟩) c0 c1 c2 e x y u X (by rw [E0, E1, E2]; exact Y) (ha.later hu) (hb.later hu) hx hy (h0.later hu) (h1.later hu) (h2.later hu) m0 m1 m2
    rw [hfv] at this
    exact this.mono fun e w' ⟨h, nq, hw⟩ => ⟨h, by rw [hw]; exact below_drewN (Below.refl _ _) _⟩
  have HCV := Lib.hid CV; clear CV
  rw [E0, E1, E2]
  have HN := Lib.hid hn; have L0 := Lib.hid E0; have L1 := Lib.hid E1; have L2 := Lib.hid E2; clear hn E0 E1 E2 l0 l1 l2 lx ly t1 t2
  have HFT : Hid (fitsB wd hi wb e x y = true) := Lib.hid (field_parts hfv).2.1; clear p1 hfv
  rcases hwi : decide (1 ≤ wi ∧ wi ≤ 16) with _ | _
  · skip
    refine Calls.mono ?_ (fun e w9 h9 => ownO_no (by rw [HB0.out]; exact hwi) h9)
    have HW := Lib.hid hwi; clear hwi
    have X := Blk.new w #[.int .i64 wd, .int .i64 hi, .bool wb, .slice a xs.length ca, .slice b ys.length cb] 29
    have Y := Blk.new1 w (.cells #[.int .i64 wd, .int .i64 hi, .bool wb, .slice a xs.length ca, .slice b ys.length cb] 29) #[.slice (some ⟨b0, o0, none⟩) n c0, .slice (some ⟨b1, o1, none⟩) n c1, .slice (some ⟨b2, o2, none⟩) n c2] 43
    replace X := X.alloc (.cells #[.slice (some ⟨b0, o0, none⟩) n c0, .slice (some ⟨b1, o1, none⟩) n c1, .slice (some ⟨b2, o2, none⟩) n c2] 43)
    have R := Blk.new2 w (.cells #[.int .i64 wd, .int .i64 hi, .bool wb, .slice a xs.length ca, .slice b ys.length cb] 29) (.cells #[.slice (some ⟨b0, o0, none⟩) n c0, .slice (some ⟨b1, o1, none⟩) n c1, .slice (some ⟨b2, o2, none⟩) n c2] 43) #[.slice none 0 0, .slice none 0 0, .slice none 0 0] 43
    replace X := X.alloc (.cells #[.slice none 0 0, .slice none 0 0, .slice none 0 0] 43)
    replace Y := Y.alloc (.cells #[.slice none 0 0, .slice none 0 0, .slice none 0 0] 43)
    have HB : Hid (Below w.heap.size w (((w.alloc (.cells #[.int .i64 wd, .int .i64 hi, .bool wb, .slice a xs.length ca, .slice b ys.length cb] 29)).alloc (.cells #[.slice (some ⟨b0, o0, none⟩) n c0, .slice (some ⟨b1, o1, none⟩) n c1, .slice (some ⟨b2, o2, none⟩) n c2] 43)).alloc (.cells #[.slice none 0 0, .slice none 0 0, .slice none 0 0] 43))) := Lib.hid ((((Below.refl w.heap.size w).alloc (by simp <;> omega) _).alloc (by simp <;> omega) _).alloc (by simp <;> omega) _)
    go_enter Try.func24, Try.ntmps24
    go_wp2_with fail
    generalize (((w.alloc (.cells #[.int .i64 wd, .int .i64 hi, .bool wb, .slice a xs.length ca, .slice b ys.length cb] 29)).alloc (.cells #[.slice (some ⟨b0, o0, none⟩) n c0, .slice (some ⟨b1, o1, none⟩) n c1, .slice (some ⟨b2, o2, none⟩) n c2] 43)).alloc (.cells #[.slice none 0 0, .slice none 0 0, .slice none 0 0] 43)) = u1 at *
    refine (HCV.out _ HB.out X Y).mono ?_
    rintro r u2 ⟨rfl, q⟩
    replace X := X.later q
    replace Y := Y.later q
    replace R := R.later q
    replace HB := Lib.hid (HB.out.trans (q.mono HB.out.size))
    clear q
    go_wp2_with fail
    refine (l00In_any _ _ _ _).mono ?_
    rintro r w9 ⟨rfl, rfl⟩
    rw [HW.out]
    obtain ⟨Rc, Rf⟩ := R.open
    go_wp2
    refine bodyPost_ret (v := .tuple #[.agg #[.slice none 0 0, .slice none 0 0, .slice none 0 0], .bool false]) (by simp [results, Try.results24, go_sem, Rc]) rfl ⟨none, none, none, 0, 0, 0, [], [], [], rfl, OwnField.none (((HB.out.setCell (p := ⟨w.heap.size + 1 + 1, 0, none⟩) (by first | omega | (simp <;> omega)) _).setCell (p := ⟨w.heap.size + 1 + 1, 1, none⟩) (by first | omega | (simp <;> omega)) _).setCell (p := ⟨w.heap.size + 1 + 1, 2, none⟩) (by first | omega | (simp <;> omega)) _)⟩
  have HBT : Hid (rampB wd hi wb xs ys e x y wi = true) := Lib.hid (by rw [HB0.out]; exact hwi)
  obtain ⟨wi1, wi2⟩ : 1 ≤ wi ∧ wi ≤ 16 := of_decide_eq_true hwi
  have HW := Lib.hid hwi; clear hwi
  have HT : Hid (∀ L, ChgTo (nearP wd hi wi) (rampG wd hi wi e) e n L → Is L (chgC (nearP wd hi wi) (rampG wd hi wi e) e) ∧ fitsB wd hi wb L x y = true) := Lib.hid (fun L h => ⟨h.all (by rw [L0.out]; exact Nat.le_refl _) (by rw [L0.out]; exact n256), ramp_fits s1 HN.out wi1 wi2 L0.out q0 HFT.out h⟩)
  have HST := Lib.hid (ChgTo.start (p := nearP wd hi wi) (G := rampG wd hi wi e) q0)
  have X := Blk.new w #[.int .i64 wd, .int .i64 hi, .bool wb, .slice a xs.length ca, .slice b ys.length cb] 29
  have Y := Blk.new1 w (.cells #[.int .i64 wd, .int .i64 hi, .bool wb, .slice a xs.length ca, .slice b ys.length cb] 29) #[.slice (some ⟨b0, o0, none⟩) n c0, .slice (some ⟨b1, o1, none⟩) n c1, .slice (some ⟨b2, o2, none⟩) n c2] 43
  replace X := X.alloc (.cells #[.slice (some ⟨b0, o0, none⟩) n c0, .slice (some ⟨b1, o1, none⟩) n c1, .slice (some ⟨b2, o2, none⟩) n c2] 43)
  have R := Blk.new2 w (.cells #[.int .i64 wd, .int .i64 hi, .bool wb, .slice a xs.length ca, .slice b ys.length cb] 29) (.cells #[.slice (some ⟨b0, o0, none⟩) n c0, .slice (some ⟨b1, o1, none⟩) n c1, .slice (some ⟨b2, o2, none⟩) n c2] 43) #[.slice none 0 0, .slice none 0 0, .slice none 0 0] 43
  replace X := X.alloc (.cells #[.slice none 0 0, .slice none 0 0, .slice none 0 0] 43)
  replace Y := Y.alloc (.cells #[.slice none 0 0, .slice none 0 0, .slice none 0 0] 43)
  have HB : Hid (Below w.heap.size w (((w.alloc (.cells #[.int .i64 wd, .int .i64 hi, .bool wb, .slice a xs.length ca, .slice b ys.length cb] 29)).alloc (.cells #[.slice (some ⟨b0, o0, none⟩) n c0, .slice (some ⟨b1, o1, none⟩) n c1, .slice (some ⟨b2, o2, none⟩) n c2] 43)).alloc (.cells #[.slice none 0 0, .slice none 0 0, .slice none 0 0] 43))) := Lib.hid ((((Below.refl w.heap.size w).alloc (by simp <;> omega) _).alloc (by simp <;> omega) _).alloc (by simp <;> omega) _)
  go_enter Try.func24, Try.ntmps24
  go_wp2_with fail
  generalize (((w.alloc (.cells #[.int .i64 wd, .int .i64 hi, .bool wb, .slice a xs.length ca, .slice b ys.length cb] 29)).alloc (.cells #[.slice (some ⟨b0, o0, none⟩) n c0, .slice (some ⟨b1, o1, none⟩) n c1, .slice (some ⟨b2, o2, none⟩) n c2] 43)).alloc (.cells #[.slice none 0 0, .slice none 0 0, .slice none 0 0] 43)) = u1 at *
  refine (HCV.out _ HB.out X Y).mono ?_
  rintro r u2 ⟨rfl, q⟩
  replace X := X.later q
  replace Y := Y.later q
  replace R := R.later q
  replace HB := Lib.hid (HB.out.trans (q.mono HB.out.size))
  clear q
  go_wp2_with fail
  refine (l00In_any _ _ _ _).mono ?_
  rintro r w9 ⟨rfl, rfl⟩
  rw [HW.out]
  obtain ⟨Yc, Yf⟩ := Y.open
  go_wp2_with fail
  have szr := R.lt; have szo := HB.out.size
  refine (specOwn _ _ _ _ _ _ _ _ _ _ n e x y _ (by rw [L0.out, L1.out, L2.out]; exact Y) (h0.later HB.out) (h1.later HB.out) (h2.later HB.out) L0.out L1.out L2.out n0 n256).mono ?_
  rintro r u3 ⟨g0, g1, g2, k0, k1, k2, rfl, oo0, oo1, oo2, g01, g12, q⟩
  have y0 := oo0.bound g0 rfl; have z2 := (oo2.span _ rfl).2; dsimp only at z2
  clear Yc Yf
  replace X := X.later q
  replace Y := Y.later q
  replace R := R.later q
  replace HB := Lib.hid (HB.out.trans (q.mono HB.out.size))
  clear q
  have W0 := Lib.hid (oo0.lower (show w.heap.size ≤ _ by omega)); have W1 := Lib.hid (oo1.lower (show w.heap.size ≤ _ by omega)); have W2 := Lib.hid (oo2.lower (show w.heap.size ≤ _ by omega)); clear oo0 oo1 oo2
  have O := Blk.new u3 #[.slice (some ⟨g0, 0, none⟩) n k0, .slice (some ⟨g1, 0, none⟩) n k1, .slice (some ⟨g2, 0, none⟩) n k2] 43
  have q := below_new u3 (.cells #[.slice (some ⟨g0, 0, none⟩) n k0, .slice (some ⟨g1, 0, none⟩) n k1, .slice (some ⟨g2, 0, none⟩) n k2] 43)
  replace X := X.later q
  replace Y := Y.later q
  replace R := R.later q
  replace W0 := Lib.hid (W0.out.later q)
  replace W1 := Lib.hid (W1.out.later q)
  replace W2 := Lib.hid (W2.out.later q)
  replace HB := Lib.hid (HB.out.trans (q.mono HB.out.size))
  clear q
  go_upto_region 4 with (fail)
  obtain ⟨gx, hgx⟩ : ∃ gx, gx = u3.heap.size := ⟨_, rfl⟩
  rw [← hgx] at O
  (try simp only [← hgx])
  generalize u3.alloc (.cells #[.slice (some ⟨g0, 0, none⟩) n k0, .slice (some ⟨g1, 0, none⟩) n k1, .slice (some ⟨g2, 0, none⟩) n k2] 43) = u4 at *
  have am1 : g0 ≠ gx := by omega
  have am2 : w.heap.size ≠ g0 := by omega
  have am3 : w.heap.size + 1 ≠ g0 := by omega
  have am4 : w.heap.size + 1 + 1 ≠ g0 := by omega
  have am5 : w.heap.size ≤ g0 := by omega
  have am6 : g0 ≠ g1 := by omega
  have am7 : g0 ≠ g2 := by omega
  have am8 : g1 ≠ g2 := by omega
  have am9 : w.heap.size + 1 + 1 ≠ g1 := by omega
  have am10 : w.heap.size + 1 + 1 ≠ g2 := by omega
  clear y0 z2 szo szr hgx g01 g12
  obtain ⟨Oc, Of⟩ := O.open
  go_wp2
  go_loopw [23] (fun iv wr => ∃ (k : Nat) (L : List Nat), k ≤ n ∧ iv = .int .i64 k ∧ ChgTo (nearP wd hi wi) (rampG wd hi wi e) e k L ∧ OwnV wr w.heap.size (some ⟨g0, 0, none⟩) (fvals L) ∧ OwnV wr w.heap.size (some ⟨g1, 0, none⟩) (fvals x) ∧ OwnV wr w.heap.size (some ⟨g2, 0, none⟩) (fvals y) ∧ Blk wr w.heap.size #[.int .i64 wd, .int .i64 hi, .bool wb, .slice a xs.length ca, .slice b ys.length cb] 29 ∧ Blk wr (w.heap.size + 1 + 1) #[.slice none 0 0, .slice none 0 0, .slice none 0 0] 43 ∧ Blk wr gx #[.slice (some ⟨g0, 0, none⟩) n k0, .slice (some ⟨g1, 0, none⟩) n k1, .slice (some ⟨g2, 0, none⟩) n k2] 43 ∧ Below w.heap.size w wr) (fun iv _ => n - (intOf iv).toNat)
  case atStart => exact ⟨0, e, Nat.zero_le _, rfl, HST.out, W0.out, W1.out, W2.out, X, R, O, HB.out⟩
  case round =>
    obtain ⟨k, L, hk, rfl, hM, h5, h6, h7, X, R, O, hb5⟩ := hrel
    replace W0 := Lib.hid h5; replace W1 := Lib.hid h6; replace W2 := Lib.hid h7; replace HB := Lib.hid hb5; have HM2 := Lib.hid hM; clear h5 h6 h7 hb5 hM HST
    clear Oc Of Y
    by_cases hlt : k < n
    · skip
      have kx : k < e.length := by rw [L0.out]; exact hlt
      have kL : k < L.length := by rw [HM2.out.len]; exact kx
      have hki : (k : Int) < (n : Int) := by omega
      have hL := HM2.out.at kx kL
      have HDP : Hid (∀ b, decide (depI wd hi ((k : Int) % wd) ((k : Int) / wd) < wi) = b → nearP wd hi wi k = b) := Lib.hid (fun b h => h)
      have HGK : Hid (rampG wd hi wi e k = fop .mul .f32 (canon .f32 L[k]) (partC wi (depI wd hi ((k : Int) % wd) ((k : Int) / wd)))) := Lib.hid (by unfold rampG; rw [hL, getD_get kx])
      have hd0 := dep_in (split_in s1 HN.out hlt)
      have HDS : Hid (∀ u, Blk u w.heap.size #[.int .i64 wd, .int .i64 hi, .bool wb, .slice a xs.length ca, .slice b ys.length cb] 29 → Calls Try.prog 65 #[.pointer (some ⟨w.heap.size, 0, none⟩), .int .i64 (k : Int)] u fun e w' => e = .returned (.int .i64 (depI wd hi ((k : Int) % wd) ((k : Int) / wd))) ∧ Below u.heap.size u w') := Lib.hid (fun u hX => specDepth w.heap.size wd hi (k : Int) wb _ _ u hX s1 s2 s3 s4 (by omega) (by rw [HN.out]; omega) (by rw [HN.out]; omega))
      have hd1 : depI wd hi ((k : Int) % wd) ((k : Int) / wd) ≤ 16 := by have h9 := split_in s1 HN.out hlt; omega
      generalize depI wd hi ((k : Int) % wd) ((k : Int) / wd) = d at *
      have hd2 := hd0.1; clear hd0 hL
      obtain ⟨cs, tt9, _, hblk, hvv⟩ := own_some W0.out; obtain ⟨gcc, gcf⟩ := hblk.open; have f0 : wr.cell? ⟨g0, k, none⟩ = some (.float .f32 L[k]) := (gcc _).trans (hvv k _ (fvals_get kL)); clear gcc gcf hvv hblk
      generalize hLk : L[k] = ev at *; clear hLk
      rcases hnear : decide (d < wi) with _ | _
      · skip
        have HN2 := Lib.hid (HM2.out.no (HDP.out _ hnear))
        obtain ⟨Xc, Xf⟩ := X.open
        go_wp2_with fail
        refine (HDS.out _ X).mono ?_
        rintro r v1 ⟨rfl, q⟩
        clear Xc Xf
        have f1 := cell_on f0 q; replace X := X.later q; replace R := R.later q; replace O := O.later q; replace W0 := Lib.hid (W0.out.later q); replace W1 := Lib.hid (W1.out.later q); replace W2 := Lib.hid (W2.out.later q); replace HB := Lib.hid (HB.out.trans (q.mono HB.out.size)); clear q f0
        go_wp2
        go_roundw
        case rel => exact ⟨k + 1, L, by omega, by go_num, HN2.out, W0.out, W1.out, W2.out, X, R, O, HB.out⟩
        case measure => simp [intOf]; omega
      · skip
        have HN2 := Lib.hid (fun v h1 h2 => HM2.out.yes (v := v) kx (HDP.out _ hnear) h1 h2)
        have dlt : d < wi := of_decide_eq_true hnear
        obtain ⟨Xc, Xf⟩ := X.open
        go_wp2_with fail
        refine (HDS.out _ X).mono ?_
        rintro r v1 ⟨rfl, q⟩
        clear Xc Xf
        have f1 := cell_on f0 q; replace X := X.later q; replace R := R.later q; replace O := O.later q; replace W0 := Lib.hid (W0.out.later q); replace W1 := Lib.hid (W1.out.later q); replace W2 := Lib.hid (W2.out.later q); replace HB := Lib.hid (HB.out.trans (q.mono HB.out.size)); clear q f0
        have aslc : ∀ w, (isAgg 22).run Try.prog w = .ok false w := fun w => by kernel_rfl
        have af32 : ∀ w, (isAgg 36).run Try.prog w = .ok false w := fun w => by kernel_rfl
        go_wp2_with fail
        obtain ⟨Oc, Of⟩ := O.open
        refine wp_region_rel_tail (Grows v1) (fun _ _ _ => True) 15 (by kernel_rfl) (by kernel_rfl) (Grows.drew _) ?_
        simp only [List.take_succ_cons, List.take_zero, List.drop_succ_cons, List.drop_zero]
        (refine wpRel_plain rfl rfl ?_; intro K hK; go_big_quiet_op; (first | go_big_quiet_on | (refine ⟨_, fun _ _ => rfl, ?_⟩; go_big_quiet_on)))
        (refine wpRel_load rfl (⟨gx, 0, none⟩) (by kernel_rfl) (.slice (some ⟨g0, 0, none⟩) n k0) (load_cell aslc (Oc 0)) ?_; simp only [Act.put, List.setIfInBounds_toArray, List.set_cons_zero, List.set_cons_succ])
        (refine wpRel_plain rfl rfl ?_; intro K hK; go_big_quiet_op; (first | go_big_quiet_on | (refine ⟨_, fun _ _ => rfl, ?_⟩; go_big_quiet_on)))
        (refine wpRel_plain rfl rfl ?_; intro K hK; go_big_quiet_op; (first | go_big_quiet_on | (refine ⟨_, fun _ _ => rfl, ?_⟩; go_big_quiet_on)))
        (refine wpRel_load rfl (⟨gx, 0, none⟩) (by kernel_rfl) (.slice (some ⟨g0, 0, none⟩) n k0) (load_cell aslc (Oc 0)) ?_; simp only [Act.put, List.setIfInBounds_toArray, List.set_cons_zero, List.set_cons_succ])
        (refine wpRel_plain rfl rfl ?_; intro K hK; go_big_quiet_op; (first | go_big_quiet_on | (refine ⟨_, fun _ _ => rfl, ?_⟩; go_big_quiet_on)))
        (refine wpRel_plain rfl rfl ?_; intro K hK; go_big_quiet_op; (first | go_big_quiet_on | (refine ⟨_, fun _ _ => rfl, ?_⟩; go_big_quiet_on)))
        (refine wpRel_load rfl (⟨g0, k, none⟩) (by kernel_rfl) (.float .f32 ev) (load_cell af32 f1) ?_; simp only [Act.put, List.setIfInBounds_toArray, List.set_cons_zero, List.set_cons_succ])
        (refine wpRel_plain rfl rfl ?_; intro K hK; go_big_quiet_op; (first | go_big_quiet_on | (refine ⟨_, fun _ _ => rfl, ?_⟩; go_big_quiet_on)))
        (refine wpRel_plain rfl rfl ?_; intro K hK; go_big_quiet_op; (first | go_big_quiet_on | (refine ⟨_, fun _ _ => rfl, ?_⟩; go_big_quiet_on)))
        (refine wpRel_plain rfl rfl ?_; intro K hK; go_big_quiet_op; (first | go_big_quiet_on | (refine ⟨_, fun _ _ => rfl, ?_⟩; go_big_quiet_on)))
        (refine wpRel_plain rfl rfl ?_; intro K hK; go_big_quiet_op; (first | go_big_quiet_on | (refine ⟨_, fun _ _ => rfl, ?_⟩; go_big_quiet_on)))
        (refine wpRel_arithC rfl rfl (fun _ n h => Grows.drewN n h) .f32 (floatOfInt .f32 d) (floatOfInt .f32 wi) (by kernel_rfl) (by kernel_rfl) ?_; intro v3 hc_v3 hb_v3; have H_v3 := Lib.hid hc_v3; clear hc_v3; replace hb_v3 : v3 < 2 ^ 32 := hb_v3; simp only [Act.put, List.setIfInBounds_toArray, List.set_cons_zero, List.set_cons_succ])
        (refine wpRel_arithC rfl rfl (fun _ n h => Grows.drewN n h) .f32 (ev) (v3) (by kernel_rfl) (by kernel_rfl) ?_; intro v4 hc_v4 hb_v4; have H_v4 := Lib.hid hc_v4; clear hc_v4; replace hb_v4 : v4 < 2 ^ 32 := hb_v4; simp only [Act.put, List.setIfInBounds_toArray, List.set_cons_zero, List.set_cons_succ])
        (refine wpRel_plain rfl rfl ?_; intro K hK; go_big_quiet_op; (first | go_big_quiet_on | (refine ⟨_, fun _ _ => rfl, ?_⟩; go_big_quiet_on)))
        refine wpRel_nil ?_
        intro v7 b7
        replace b7 : Below v1.heap.size v1 v7 := b7
        replace X := X.later b7; replace R := R.later b7; replace O := O.later b7; replace W0 := Lib.hid (W0.out.later b7); replace W1 := Lib.hid (W1.out.later b7); replace W2 := Lib.hid (W2.out.later b7); replace HB := Lib.hid (HB.out.trans (b7.mono HB.out.size)); clear b7 f1 Oc Of
        have HV : Hid (canon .f32 v4 = rampG wd hi wi e k) := Lib.hid (by rw [HGK.out, H_v4.out, H_v3.out]; rfl)
        have HN3 := Lib.hid (HN2.out v4 hb_v4 HV.out)
        obtain ⟨cs, tt9, _, hblk, hvv⟩ := own_some W0.out; obtain ⟨gcc, gcf⟩ := hblk.open; have f0 : v7.cell? ⟨g0, k, none⟩ = some _ := (gcc _).trans (hvv k _ (fvals_get kL)); have GF := gcf k; clear gcc gcf hvv hblk
        have hp := own_put W0.out k (.float .f32 v4) (by rw [fvals_length]; exact kL)
        rw [fvals_set] at hp
        have HP2 := Lib.hid hp; clear hp
        go_wp2
        go_roundw
        case rel => exact ⟨k + 1, _, by omega, by go_num, HN3.out, HP2.out, W1.out.set (fun x hx => by cases hx; exact fun h => am6 h.symm) _, W2.out.set (fun x hx => by cases hx; exact fun h => am7 h.symm) _, X.setOther am2 _, R.setOther am4 _, O.setOther (fun h => am1 h.symm) _, HB.out.setCell (p := ⟨g0, k, none⟩) am5 _⟩
        case measure => simp [intOf]; omega
    · skip
      obtain rfl : k = n := by omega
      have hfl := (HT.out L HM2.out).2
      have HLL : Hid (L.length = k) := Lib.hid (by rw [HM2.out.len, L0.out])
      obtain ⟨Xc, Xf⟩ := X.open
      obtain ⟨Oc, Of⟩ := O.open
      go_wp2_with fail
      have FCV : ∀ u, Blk u w.heap.size #[.int .i64 wd, .int .i64 hi, .bool wb, .slice a xs.length ca, .slice b ys.length cb] 29 → Blk u gx #[.slice (some ⟨g0, 0, none⟩) k k0, .slice (some ⟨g1, 0, none⟩) k k1, .slice (some ⟨g2, 0, none⟩) k k2] 43 → OwnV u w.heap.size (some ⟨g0, 0, none⟩) (fvals L) → OwnV u w.heap.size (some ⟨g1, 0, none⟩) (fvals x) → OwnV u w.heap.size (some ⟨g2, 0, none⟩) (fvals y) → Calls Try.prog 77 #[.pointer (some ⟨w.heap.size, 0, none⟩), .pointer (some ⟨gx, 0, none⟩)] u fun e w' => e = .returned (.bool true) ∧ Below u.heap.size u w' := fun u X O h5 h6 h7 => by
        have := specFits w.heap.size gx wd hi wb _ _ ca cb xs ys (some ⟨g0, 0, none⟩) (some ⟨g1, 0, none⟩) (some ⟨g2, 0, none⟩) k0 k1 k2 L x y u X (by rw [HLL.out, L1.out, L2.out]; exact O) s1 s2 s3 s4 h5.row h6.row h7.row (by unfold maxLen; have := HLL.out; omega) m1 m2
        rw [hfl] at this
        exact this.mono fun e w' ⟨h, nq, hw⟩ => ⟨h, by rw [hw]; exact below_drewN (Below.refl _ _) _⟩
      refine (FCV _ X O W0.out W1.out W2.out).mono ?_
      rintro r u5 ⟨rfl, q⟩
      clear Xc Xf
      clear Oc Of
      replace X := X.later q
      replace R := R.later q
      replace O := O.later q
      replace W0 := Lib.hid (W0.out.later q)
      replace W1 := Lib.hid (W1.out.later q)
      replace W2 := Lib.hid (W2.out.later q)
      replace HB := Lib.hid (HB.out.trans (q.mono HB.out.size))
      clear q
      obtain ⟨Oc, Of⟩ := O.open
      obtain ⟨Rc, Rf⟩ := R.open
      clear FCV
      go_wp2
      refine bodyPost_ret (v := .tuple #[.agg #[.slice (some ⟨g0, 0, none⟩) k k0, .slice (some ⟨g1, 0, none⟩) k k1, .slice (some ⟨g2, 0, none⟩) k k2], .bool true]) (by simp [results, Try.results24, go_sem, Rc]) rfl (ownO_yes HBT.out HLL.out L1.out L2.out ⟨(((W0.out.set (p := ⟨w.heap.size + 1 + 1, 0, none⟩) (ne_block (h := w.heap.size + 1 + 1) (by omega)) _).set (p := ⟨w.heap.size + 1 + 1, 1, none⟩) (ne_block (h := w.heap.size + 1 + 1) (by omega)) _).set (p := ⟨w.heap.size + 1 + 1, 2, none⟩) (ne_block (h := w.heap.size + 1 + 1) (by omega)) _), (((W1.out.set (p := ⟨w.heap.size + 1 + 1, 0, none⟩) (ne_block (h := w.heap.size + 1 + 1) (by omega)) _).set (p := ⟨w.heap.size + 1 + 1, 1, none⟩) (ne_block (h := w.heap.size + 1 + 1) (by omega)) _).set (p := ⟨w.heap.size + 1 + 1, 2, none⟩) (ne_block (h := w.heap.size + 1 + 1) (by omega)) _), (((W2.out.set (p := ⟨w.heap.size + 1 + 1, 0, none⟩) (ne_block (h := w.heap.size + 1 + 1) (by omega)) _).set (p := ⟨w.heap.size + 1 + 1, 1, none⟩) (ne_block (h := w.heap.size + 1 + 1) (by omega)) _).set (p := ⟨w.heap.size + 1 + 1, 2, none⟩) (ne_block (h := w.heap.size + 1 + 1) (by omega)) _), (HT.out L HM2.out).1, Is.refl q1 (by rw [L1.out]; exact n256), Is.refl q2 (by rw [L2.out]; exact n256), (((HB.out.setCell (p := ⟨w.heap.size + 1 + 1, 0, none⟩) (by first | omega | (simp <;> omega)) _).setCell (p := ⟨w.heap.size + 1 + 1, 1, none⟩) (by first | omega | (simp <;> omega)) _).setCell (p := ⟨w.heap.size + 1 + 1, 2, none⟩) (by first | omega | (simp <;> omega)) _)⟩)

end Go.Proofs.Ythihemfegjaenaa
