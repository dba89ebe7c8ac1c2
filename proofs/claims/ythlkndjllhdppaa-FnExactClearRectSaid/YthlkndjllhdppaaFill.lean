/- Sheets with a rect that is filled: the program's answer and the model's. Conditions: none beyond those of each theorem. -/
import Derived.Test.YthlkndjllhdppaaBu2
import Derived.Test.YthlkndjllhdppaaRect2
import Derived.Test.YthlkndjllhdppaaRect3
import Derived.Test.YthlkndjllhdppaaGrade
namespace Go.Proofs.Ythlkndjllhdppaa
open Go Ieee Go.RowKit
set_option linter.unusedVariables false
set_option linter.unusedSimpArgs false

def HadSh (w : World) (b : Bool) (wd hi : Int) (wb : Bool) (m0 m1 : List (Option Nat)) (r : Ending) (w' : World) : Prop :=
  ∃ (a0 a1 : Option Addr) (c0 c1 : Nat) (y0 y1 : List Nat), r = .returned (.tuple #[.agg #[.int .i64 (ifI b wd), .int .i64 (ifI b hi), .bool (ifB b wb), .slice a0 y0.length c0, .slice a1 y1.length c1], .bool b]) ∧ OwnSheet w w' (ifO b m0) (ifO b m1) a0 a1 y0 y1
theorem had_no {w : World} {b : Bool} {wd hi : Int} {wb : Bool} {m0 m1 : List (Option Nat)} {r : Ending} {w' : World} (hb : b = false) (h : HadSh w false wd hi wb m0 m1 r w') : HadSh w b wd hi wb m0 m1 r w' := by subst hb; exact h
theorem had_yes {w : World} {b : Bool} {wd hi : Int} {wb : Bool} {m0 m1 : List (Option Nat)} {a0 a1 : Option Addr} {c0 c1 n : Nat} {y0 y1 : List Nat} {w' : World} (hb : b = true) (h0 : y0.length = n) (h1 : y1.length = n) (h : GotSheet w.heap.size w w' m0 m1 a0 a1 y0 y1) :
    HadSh w b wd hi wb m0 m1 (.returned (.tuple #[.agg #[.int .i64 wd, .int .i64 hi, .bool wb, .slice a0 n c0, .slice a1 n c1], .bool true])) w' := by
  subst hb; subst h0; exact ⟨a0, a1, c0, c1, y0, y1, by rw [h1]; rfl, h.own⟩

def fillB (wd hi : Int) (xs ys : List Nat) (rx ry rw rh : Int) (sp lo : Nat) : Bool := isRectB wd hi xs ys rx ry rw rh && (inB 1056964608 sp && inB 1065353216 lo)
def inP (wd rx ry rw rh : Int) (i : Nat) : Bool := hasR rx ry rw rh ((i : Int) % wd) ((i : Int) / wd)

theorem rect_sum {wd hi rx ry rw rh : Int} (s2 : wd ≤ 16) (s4 : hi ≤ 16) (h : rectB wd hi rx ry rw rh = true) : rx + rw ≤ 1000000 ∧ ry + rh ≤ 1000000 ∧ 0 ≤ rx ∧ 0 ≤ ry ∧ 1 ≤ rw ∧ 1 ≤ rh := by
  have := rect_in h; omega

set_option maxHeartbeats 8000000 in
set_option maxRecDepth 100000 in
theorem implFillRectL (wd hi : Int) (wb : Bool) (a b : Option Addr) (ca cb : Nat) (xs ys : List Nat) (rx ry rw rh : Int) (sp lo : Nat) (w : World) (ha : RowV w a (fvals xs)) (hb : RowV w b (fvals ys)) (qa : ∀ z ∈ xs, z < 2 ^ 32) (qb : ∀ z ∈ ys, z < 2 ^ 32) (hx : xs.length ≤ maxLen) (hy : ys.length ≤ maxLen) (wp : sp < 2 ^ 32) (wl : lo < 2 ^ 32) :
    Calls Try.prog 40 #[.agg #[.int .i64 wd, .int .i64 hi, .bool wb, .slice a xs.length ca, .slice b ys.length cb], .agg #[.int .i64 rx, .int .i64 ry, .int .i64 rw, .int .i64 rh], .float .f32 sp, .float .f32 lo] w (GaveSh w (fillB wd hi xs ys rx ry rw rh sp lo) wd hi wb (chgC (inP wd rx ry rw rh) (fun _ => canon .f32 sp) xs) (chgC (inP wd rx ry rw rh) (fun _ => canon .f32 lo) ys)) := by
  rcases hr : isRectB wd hi xs ys rx ry rw rh with _ | _
  · skip
    refine Calls.mono ?_ (fun e w9 h9 => gave_no (by unfold fillB; rw [hr]; rfl) h9)
    have H_r := Lib.hid hr; clear hr
    have X := Blk.new w #[.int .i64 wd, .int .i64 hi, .bool wb, .slice a xs.length ca, .slice b ys.length cb] 29
    have Q := Blk.new1 w (.cells #[.int .i64 wd, .int .i64 hi, .bool wb, .slice a xs.length ca, .slice b ys.length cb] 29) #[.int .i64 rx, .int .i64 ry, .int .i64 rw, .int .i64 rh] 39
    replace X := X.alloc (.cells #[.int .i64 rx, .int .i64 ry, .int .i64 rw, .int .i64 rh] 39)
    have R := Blk.new2 w (.cells #[.int .i64 wd, .int .i64 hi, .bool wb, .slice a xs.length ca, .slice b ys.length cb] 29) (.cells #[.int .i64 rx, .int .i64 ry, .int .i64 rw, .int .i64 rh] 39) #[.int .i64 0, .int .i64 0, .bool false, .slice none 0 0, .slice none 0 0] 29
    replace X := X.alloc (.cells #[.int .i64 0, .int .i64 0, .bool false, .slice none 0 0, .slice none 0 0] 29)
    replace Q := Q.alloc (.cells #[.int .i64 0, .int .i64 0, .bool false, .slice none 0 0, .slice none 0 0] 29)
    have HB : Hid (Below w.heap.size w (((w.alloc (.cells #[.int .i64 wd, .int .i64 hi, .bool wb, .slice a xs.length ca, .slice b ys.length cb] 29)).alloc (.cells #[.int .i64 rx, .int .i64 ry, .int .i64 rw, .int .i64 rh] 39)).alloc (.cells #[.int .i64 0, .int .i64 0, .bool false, .slice none 0 0, .slice none 0 0] 29))) := Lib.hid ((((Below.refl w.heap.size w).alloc (by simp <;> omega) _).alloc (by simp <;> omega) _).alloc (by simp <;> omega) _)
    go_enter Try.func40, Try.ntmps40
    go_wp2_with fail
    generalize (((w.alloc (.cells #[.int .i64 wd, .int .i64 hi, .bool wb, .slice a xs.length ca, .slice b ys.length cb] 29)).alloc (.cells #[.int .i64 rx, .int .i64 ry, .int .i64 rw, .int .i64 rh] 39)).alloc (.cells #[.int .i64 0, .int .i64 0, .bool false, .slice none 0 0, .slice none 0 0] 29)) = u1 at *
    refine (implIsRect _ _ _ _ _ _ _ _ _ _ _ _ _ _ (ha.later HB.out) (hb.later HB.out) hx hy).mono ?_
    rintro r u2 ⟨rfl, q⟩
    replace X := X.later q
    replace Q := Q.later q
    replace R := R.later q
    replace HB := Lib.hid (HB.out.trans (q.mono HB.out.size))
    clear q
    rw [H_r.out]
    obtain ⟨Rc, Rf⟩ := R.open
    go_wp2
    refine bodyPost_ret (v := .tuple #[.agg #[.int .i64 0, .int .i64 0, .bool false, .slice none 0 0, .slice none 0 0], .bool false]) (by simp [results, Try.results40, go_sem, Rc]) rfl ⟨none, none, 0, 0, [], [], rfl, GotSheet.none (((((HB.out.setCell (p := ⟨w.heap.size + 1 + 1, 0, none⟩) (by first | omega | (simp <;> omega)) _).setCell (p := ⟨w.heap.size + 1 + 1, 1, none⟩) (by first | omega | (simp <;> omega)) _).setCell (p := ⟨w.heap.size + 1 + 1, 2, none⟩) (by first | omega | (simp <;> omega)) _).setCell (p := ⟨w.heap.size + 1 + 1, 3, none⟩) (by first | omega | (simp <;> omega)) _).setCell (p := ⟨w.heap.size + 1 + 1, 4, none⟩) (by first | omega | (simp <;> omega)) _)⟩
  have HB0 : Hid (fillB wd hi xs ys rx ry rw rh sp lo = (inB 1056964608 sp && inB 1065353216 lo)) := Lib.hid (by unfold fillB; rw [hr]; rfl)
  obtain ⟨hv, hrr⟩ : validB wd hi xs ys = true ∧ rectB wd hi rx ry rw rh = true := by unfold isRectB at hr; simpa using hr
  obtain ⟨s1_, s2_, s3_, s4_, _, _, _⟩ := valid_parts hv
  obtain ⟨q1, q2, q3, q4, q5, q6⟩ := rect_sum s2_ s4_ hrr
  have HVV := Lib.hid hv; have HRR := Lib.hid hrr
  obtain ⟨s1, s2, s3, s4, hm2, lx, ly⟩ := valid_parts hv
  obtain ⟨t1, t2⟩ := (sides_mul (valid_sides hv)).2.2.2.2
  obtain ⟨n, hn⟩ := Int.eq_ofNat_of_zero_le (show 0 ≤ wd * hi by omega)
  have hxn : xs.length = n := by omega
  have hyn : ys.length = n := by omega
  have n256 : n ≤ 256 := by omega
  have n0 : 0 < n := by omega
  obtain ⟨ba, oa, rfl, hz0⟩ := ha 0 _ (fvals_get (show 0 < xs.length by omega)); clear hz0
  obtain ⟨bb, ob, rfl, hz1⟩ := hb 0 _ (fvals_get (show 0 < ys.length by omega)); clear hz1
  have CV : ∀ u, Below w.heap.size w u → Calls Try.prog 62 #[.agg #[.int .i64 wd, .int .i64 hi, .bool wb, .slice (some ⟨ba, oa, none⟩) n ca, .slice (some ⟨bb, ob, none⟩) n cb]] u fun e w' => e = .returned (.bool true) ∧ Below u.heap.size u w' := fun u hu => by
    have := implValidSheet wd hi wb _ _ ca cb xs ys u (ha.later hu) (hb.later hu) hx hy
    rw [hxn, hyn, hv] at this; exact this
  have HCV := Lib.hid CV; clear CV
  rw [hxn, hyn]
  have HN := Lib.hid hn; have HX := Lib.hid hxn; have HY := Lib.hid hyn; clear hn hxn hyn hv lx ly t1 t2
  have HCR : Hid (∀ u, Below w.heap.size w u → Calls Try.prog 26 #[.agg #[.int .i64 wd, .int .i64 hi, .bool wb, .slice (some ⟨ba, oa, none⟩) n ca, .slice (some ⟨bb, ob, none⟩) n cb], .agg #[.int .i64 rx, .int .i64 ry, .int .i64 rw, .int .i64 rh]] u fun e w' => e = .returned (.bool true) ∧ Below u.heap.size u w') := Lib.hid (fun u hu => by have h9 := implIsRect wd hi wb _ _ ca cb xs ys rx ry rw rh u (ha.later hu) (hb.later hu) hx hy; rw [HX.out, HY.out, hr] at h9; exact h9)
  clear s1_ s2_ s3_ s4_ hrr hr
  rcases h0 : inB 1056964608 sp with _ | _
  · skip
    refine Calls.mono ?_ (fun e w9 h9 => gave_no (by rw [HB0.out, h0]; rfl) h9)
    have HW := Lib.hid h0; clear h0
    have X := Blk.new w #[.int .i64 wd, .int .i64 hi, .bool wb, .slice (some ⟨ba, oa, none⟩) n ca, .slice (some ⟨bb, ob, none⟩) n cb] 29
    have Q := Blk.new1 w (.cells #[.int .i64 wd, .int .i64 hi, .bool wb, .slice (some ⟨ba, oa, none⟩) n ca, .slice (some ⟨bb, ob, none⟩) n cb] 29) #[.int .i64 rx, .int .i64 ry, .int .i64 rw, .int .i64 rh] 39
    replace X := X.alloc (.cells #[.int .i64 rx, .int .i64 ry, .int .i64 rw, .int .i64 rh] 39)
    have R := Blk.new2 w (.cells #[.int .i64 wd, .int .i64 hi, .bool wb, .slice (some ⟨ba, oa, none⟩) n ca, .slice (some ⟨bb, ob, none⟩) n cb] 29) (.cells #[.int .i64 rx, .int .i64 ry, .int .i64 rw, .int .i64 rh] 39) #[.int .i64 0, .int .i64 0, .bool false, .slice none 0 0, .slice none 0 0] 29
    replace X := X.alloc (.cells #[.int .i64 0, .int .i64 0, .bool false, .slice none 0 0, .slice none 0 0] 29)
    replace Q := Q.alloc (.cells #[.int .i64 0, .int .i64 0, .bool false, .slice none 0 0, .slice none 0 0] 29)
    have HB : Hid (Below w.heap.size w (((w.alloc (.cells #[.int .i64 wd, .int .i64 hi, .bool wb, .slice (some ⟨ba, oa, none⟩) n ca, .slice (some ⟨bb, ob, none⟩) n cb] 29)).alloc (.cells #[.int .i64 rx, .int .i64 ry, .int .i64 rw, .int .i64 rh] 39)).alloc (.cells #[.int .i64 0, .int .i64 0, .bool false, .slice none 0 0, .slice none 0 0] 29))) := Lib.hid ((((Below.refl w.heap.size w).alloc (by simp <;> omega) _).alloc (by simp <;> omega) _).alloc (by simp <;> omega) _)
    go_enter Try.func40, Try.ntmps40
    go_wp2_with fail
    generalize (((w.alloc (.cells #[.int .i64 wd, .int .i64 hi, .bool wb, .slice (some ⟨ba, oa, none⟩) n ca, .slice (some ⟨bb, ob, none⟩) n cb] 29)).alloc (.cells #[.int .i64 rx, .int .i64 ry, .int .i64 rw, .int .i64 rh] 39)).alloc (.cells #[.int .i64 0, .int .i64 0, .bool false, .slice none 0 0, .slice none 0 0] 29)) = u1 at *
    refine (HCR.out _ HB.out).mono ?_
    rintro r u2 ⟨rfl, q⟩
    replace X := X.later q
    replace Q := Q.later q
    replace R := R.later q
    replace HB := Lib.hid (HB.out.trans (q.mono HB.out.size))
    clear q
    go_wp2_with fail
    refine (impl_isSpeed _ _).mono ?_
    rintro r w9 ⟨rfl, rfl⟩
    rw [HW.out]
    obtain ⟨Rc, Rf⟩ := R.open
    go_wp2
    refine bodyPost_ret (v := .tuple #[.agg #[.int .i64 0, .int .i64 0, .bool false, .slice none 0 0, .slice none 0 0], .bool false]) (by simp [results, Try.results40, go_sem, Rc]) rfl ⟨none, none, 0, 0, [], [], rfl, GotSheet.none (((((HB.out.setCell (p := ⟨w.heap.size + 1 + 1, 0, none⟩) (by first | omega | (simp <;> omega)) _).setCell (p := ⟨w.heap.size + 1 + 1, 1, none⟩) (by first | omega | (simp <;> omega)) _).setCell (p := ⟨w.heap.size + 1 + 1, 2, none⟩) (by first | omega | (simp <;> omega)) _).setCell (p := ⟨w.heap.size + 1 + 1, 3, none⟩) (by first | omega | (simp <;> omega)) _).setCell (p := ⟨w.heap.size + 1 + 1, 4, none⟩) (by first | omega | (simp <;> omega)) _)⟩
  rcases h1 : inB 1065353216 lo with _ | _
  · skip
    refine Calls.mono ?_ (fun e w9 h9 => gave_no (by rw [HB0.out, h0, h1]; rfl) h9)
    have HW := Lib.hid h0; clear h0; have HL := Lib.hid h1; clear h1
    have X := Blk.new w #[.int .i64 wd, .int .i64 hi, .bool wb, .slice (some ⟨ba, oa, none⟩) n ca, .slice (some ⟨bb, ob, none⟩) n cb] 29
    have Q := Blk.new1 w (.cells #[.int .i64 wd, .int .i64 hi, .bool wb, .slice (some ⟨ba, oa, none⟩) n ca, .slice (some ⟨bb, ob, none⟩) n cb] 29) #[.int .i64 rx, .int .i64 ry, .int .i64 rw, .int .i64 rh] 39
    replace X := X.alloc (.cells #[.int .i64 rx, .int .i64 ry, .int .i64 rw, .int .i64 rh] 39)
    have R := Blk.new2 w (.cells #[.int .i64 wd, .int .i64 hi, .bool wb, .slice (some ⟨ba, oa, none⟩) n ca, .slice (some ⟨bb, ob, none⟩) n cb] 29) (.cells #[.int .i64 rx, .int .i64 ry, .int .i64 rw, .int .i64 rh] 39) #[.int .i64 0, .int .i64 0, .bool false, .slice none 0 0, .slice none 0 0] 29
    replace X := X.alloc (.cells #[.int .i64 0, .int .i64 0, .bool false, .slice none 0 0, .slice none 0 0] 29)
    replace Q := Q.alloc (.cells #[.int .i64 0, .int .i64 0, .bool false, .slice none 0 0, .slice none 0 0] 29)
    have HB : Hid (Below w.heap.size w (((w.alloc (.cells #[.int .i64 wd, .int .i64 hi, .bool wb, .slice (some ⟨ba, oa, none⟩) n ca, .slice (some ⟨bb, ob, none⟩) n cb] 29)).alloc (.cells #[.int .i64 rx, .int .i64 ry, .int .i64 rw, .int .i64 rh] 39)).alloc (.cells #[.int .i64 0, .int .i64 0, .bool false, .slice none 0 0, .slice none 0 0] 29))) := Lib.hid ((((Below.refl w.heap.size w).alloc (by simp <;> omega) _).alloc (by simp <;> omega) _).alloc (by simp <;> omega) _)
    go_enter Try.func40, Try.ntmps40
    go_wp2_with fail
    generalize (((w.alloc (.cells #[.int .i64 wd, .int .i64 hi, .bool wb, .slice (some ⟨ba, oa, none⟩) n ca, .slice (some ⟨bb, ob, none⟩) n cb] 29)).alloc (.cells #[.int .i64 rx, .int .i64 ry, .int .i64 rw, .int .i64 rh] 39)).alloc (.cells #[.int .i64 0, .int .i64 0, .bool false, .slice none 0 0, .slice none 0 0] 29)) = u1 at *
    refine (HCR.out _ HB.out).mono ?_
    rintro r u2 ⟨rfl, q⟩
    replace X := X.later q
    replace Q := Q.later q
    replace R := R.later q
    replace HB := Lib.hid (HB.out.trans (q.mono HB.out.size))
    clear q
    go_wp2_with fail
    refine (impl_isSpeed _ _).mono ?_
    rintro r w9 ⟨rfl, rfl⟩
    rw [HW.out]
    go_wp2_with fail
    refine (impl_isLoss _ _).mono ?_
    rintro r w9 ⟨rfl, rfl⟩
    rw [HL.out]
    obtain ⟨Rc, Rf⟩ := R.open
    go_wp2
    refine bodyPost_ret (v := .tuple #[.agg #[.int .i64 0, .int .i64 0, .bool false, .slice none 0 0, .slice none 0 0], .bool false]) (by simp [results, Try.results40, go_sem, Rc]) rfl ⟨none, none, 0, 0, [], [], rfl, GotSheet.none (((((HB.out.setCell (p := ⟨w.heap.size + 1 + 1, 0, none⟩) (by first | omega | (simp <;> omega)) _).setCell (p := ⟨w.heap.size + 1 + 1, 1, none⟩) (by first | omega | (simp <;> omega)) _).setCell (p := ⟨w.heap.size + 1 + 1, 2, none⟩) (by first | omega | (simp <;> omega)) _).setCell (p := ⟨w.heap.size + 1 + 1, 3, none⟩) (by first | omega | (simp <;> omega)) _).setCell (p := ⟨w.heap.size + 1 + 1, 4, none⟩) (by first | omega | (simp <;> omega)) _)⟩
  have HBT : Hid (fillB wd hi xs ys rx ry rw rh sp lo = true) := Lib.hid (by rw [HB0.out, h0, h1]; rfl)
  have HW := Lib.hid h0; clear h0; have HL := Lib.hid h1; clear h1
  have X := Blk.new w #[.int .i64 wd, .int .i64 hi, .bool wb, .slice (some ⟨ba, oa, none⟩) n ca, .slice (some ⟨bb, ob, none⟩) n cb] 29
  have Q := Blk.new1 w (.cells #[.int .i64 wd, .int .i64 hi, .bool wb, .slice (some ⟨ba, oa, none⟩) n ca, .slice (some ⟨bb, ob, none⟩) n cb] 29) #[.int .i64 rx, .int .i64 ry, .int .i64 rw, .int .i64 rh] 39
  replace X := X.alloc (.cells #[.int .i64 rx, .int .i64 ry, .int .i64 rw, .int .i64 rh] 39)
  have R := Blk.new2 w (.cells #[.int .i64 wd, .int .i64 hi, .bool wb, .slice (some ⟨ba, oa, none⟩) n ca, .slice (some ⟨bb, ob, none⟩) n cb] 29) (.cells #[.int .i64 rx, .int .i64 ry, .int .i64 rw, .int .i64 rh] 39) #[.int .i64 0, .int .i64 0, .bool false, .slice none 0 0, .slice none 0 0] 29
  replace X := X.alloc (.cells #[.int .i64 0, .int .i64 0, .bool false, .slice none 0 0, .slice none 0 0] 29)
  replace Q := Q.alloc (.cells #[.int .i64 0, .int .i64 0, .bool false, .slice none 0 0, .slice none 0 0] 29)
  have HB : Hid (Below w.heap.size w (((w.alloc (.cells #[.int .i64 wd, .int .i64 hi, .bool wb, .slice (some ⟨ba, oa, none⟩) n ca, .slice (some ⟨bb, ob, none⟩) n cb] 29)).alloc (.cells #[.int .i64 rx, .int .i64 ry, .int .i64 rw, .int .i64 rh] 39)).alloc (.cells #[.int .i64 0, .int .i64 0, .bool false, .slice none 0 0, .slice none 0 0] 29))) := Lib.hid ((((Below.refl w.heap.size w).alloc (by simp <;> omega) _).alloc (by simp <;> omega) _).alloc (by simp <;> omega) _)
  go_enter Try.func40, Try.ntmps40
  go_wp2_with fail
  generalize (((w.alloc (.cells #[.int .i64 wd, .int .i64 hi, .bool wb, .slice (some ⟨ba, oa, none⟩) n ca, .slice (some ⟨bb, ob, none⟩) n cb] 29)).alloc (.cells #[.int .i64 rx, .int .i64 ry, .int .i64 rw, .int .i64 rh] 39)).alloc (.cells #[.int .i64 0, .int .i64 0, .bool false, .slice none 0 0, .slice none 0 0] 29)) = u1 at *
  refine (HCR.out _ HB.out).mono ?_
  rintro r u2 ⟨rfl, q⟩
  replace X := X.later q
  replace Q := Q.later q
  replace R := R.later q
  replace HB := Lib.hid (HB.out.trans (q.mono HB.out.size))
  clear q
  go_wp2_with fail
  refine (impl_isSpeed _ _).mono ?_
  rintro r w9 ⟨rfl, rfl⟩
  rw [HW.out]
  go_wp2_with fail
  refine (impl_isLoss _ _).mono ?_
  rintro r w9 ⟨rfl, rfl⟩
  rw [HL.out]
  obtain ⟨Xc, Xf⟩ := X.open
  go_wp2_with fail
  refine (implShapeOf _ _ _ _ _ _ _ _ _ _).mono ?_
  rintro r u3 ⟨rfl, q⟩
  clear Xc Xf
  replace X := X.later q
  replace Q := Q.later q
  replace R := R.later q
  replace HB := Lib.hid (HB.out.trans (q.mono HB.out.size))
  clear q
  have H := Blk.new u3 #[.int .i64 wd, .int .i64 hi, .bool wb] 82
  have q := below_new u3 (.cells #[.int .i64 wd, .int .i64 hi, .bool wb] 82)
  replace X := X.later q
  replace Q := Q.later q
  replace R := R.later q
  replace HB := Lib.hid (HB.out.trans (q.mono HB.out.size))
  clear q
  go_wp2_with fail
  generalize (u3.alloc (.cells #[.int .i64 wd, .int .i64 hi, .bool wb] 82)) = u4 at *
  obtain ⟨gh0, hgh0⟩ : ∃ gh0, gh0 = u3.heap.size := ⟨_, rfl⟩
  rw [← hgh0] at H
  (try simp only [← hgh0])
  clear hgh0
  have HBU := HB.out; have zr := R.lt; have zu := HBU.size
  have aslc : ∀ w, (isAgg 22).run Try.prog w = .ok false w := fun w => by kernel_rfl
  obtain ⟨Xc, Xf⟩ := X.open
  refine wp_region_noPanic ?_
  refine wp_region_plan (Grows u4) 17 [(0, true), (1, true), (2, true), (3, true), (4, true), (5, true), (8, true), (9, true), (10, true), (11, true), (12, true), (13, true), (6, false), (7, false), (16, true), (14, false), (15, false)] (by kernel_rfl) (by kernel_rfl) (fun _ _ _ _ _ h => h) (Grows.drew _) ?_
  (refine plan_load rfl rfl (⟨gh0, 0, none⟩) (by kernel_rfl) (.agg #[.int .i64 wd, .int .i64 hi, .bool wb]) (fun w' hw' => run_loadVar_row w' _ _ _ _ _ _ (H.later hw') Try.underlying82 rfl (by kernel_rfl)) ?_; simp only [Act.put, List.setIfInBounds_toArray, List.set_cons_zero, List.set_cons_succ])
  (refine plan_plain rfl rfl ?_ ?_ ?_; rotate_left; focus (intro w9; go_simp <;> with_reducible rfl)); (simp only [Act.put, List.setIfInBounds_toArray, List.set_cons_zero, List.set_cons_succ])
  (refine plan_load rfl rfl (⟨w.heap.size, 3, none⟩) (by kernel_rfl) (.slice (some ⟨ba, oa, none⟩) n ca) (load_cell aslc (Xc 3)) ?_; simp only [Act.put, List.setIfInBounds_toArray, List.set_cons_zero, List.set_cons_succ])
  (refine plan_load rfl rfl (⟨w.heap.size + 1, 0, none⟩) (by kernel_rfl) (.agg #[.int .i64 rx, .int .i64 ry, .int .i64 rw, .int .i64 rh]) (fun w' hw' => run_loadVar_row w' _ _ _ _ _ _ (Q.later hw') Try.underlying39 rfl (by kernel_rfl)) ?_; simp only [Act.put, List.setIfInBounds_toArray, List.set_cons_zero, List.set_cons_succ])
  (refine plan_plain rfl rfl ?_ ?_ ?_; rotate_left; focus (intro w9; go_simp <;> with_reducible rfl)); (simp only [Act.put, List.setIfInBounds_toArray, List.set_cons_zero, List.set_cons_succ])
  (refine plan_plain rfl rfl ?_ ?_ ?_; rotate_left; focus (intro w9; go_simp <;> with_reducible rfl)); (simp only [Act.put, List.setIfInBounds_toArray, List.set_cons_zero, List.set_cons_succ])
  (refine plan_load rfl rfl (⟨gh0, 0, none⟩) (by kernel_rfl) (.agg #[.int .i64 wd, .int .i64 hi, .bool wb]) (fun w' hw' => run_loadVar_row w' _ _ _ _ _ _ (H.later hw') Try.underlying82 rfl (by kernel_rfl)) ?_; simp only [Act.put, List.setIfInBounds_toArray, List.set_cons_zero, List.set_cons_succ])
  (refine plan_plain rfl rfl ?_ ?_ ?_; rotate_left; focus (intro w9; go_simp <;> with_reducible rfl)); (simp only [Act.put, List.setIfInBounds_toArray, List.set_cons_zero, List.set_cons_succ])
  (refine plan_load rfl rfl (⟨w.heap.size, 4, none⟩) (by kernel_rfl) (.slice (some ⟨bb, ob, none⟩) n cb) (load_cell aslc (Xc 4)) ?_; simp only [Act.put, List.setIfInBounds_toArray, List.set_cons_zero, List.set_cons_succ])
  (refine plan_load rfl rfl (⟨w.heap.size + 1, 0, none⟩) (by kernel_rfl) (.agg #[.int .i64 rx, .int .i64 ry, .int .i64 rw, .int .i64 rh]) (fun w' hw' => run_loadVar_row w' _ _ _ _ _ _ (Q.later hw') Try.underlying39 rfl (by kernel_rfl)) ?_; simp only [Act.put, List.setIfInBounds_toArray, List.set_cons_zero, List.set_cons_succ])
  (refine plan_plain rfl rfl ?_ ?_ ?_; rotate_left; focus (intro w9; go_simp <;> with_reducible rfl)); (simp only [Act.put, List.setIfInBounds_toArray, List.set_cons_zero, List.set_cons_succ])
  (refine plan_plain rfl rfl ?_ ?_ ?_; rotate_left; focus (intro w9; go_simp <;> with_reducible rfl)); (simp only [Act.put, List.setIfInBounds_toArray, List.set_cons_zero, List.set_cons_succ])
  have v0_ := Grows.drew u4
  generalize u4.drew = v0 at *
  refine plan_call rfl rfl 95 #[] #[] rfl _ Try.func95 (by kernel_rfl) (by kernel_rfl) [.float .f32 sp] (by kernel_rfl) #[.float .f32 sp] (by simp) _ (implAlways sp v0) ?_
  rintro e pa ⟨gb0, rfl, BA0, _, bb0a⟩
  refine ⟨_, rfl, v0_.next bb0a, ?_⟩
  simp only [Act.put, List.setIfInBounds_toArray, List.set_cons_zero, List.set_cons_succ]
  have pa_ := v0_.next bb0a
  have ee0 := ha.later (HBU.trans (Below.mono pa_ zu))
  have HCH := implChanged wd hi wb ba oa ca n xs 94 126 #[.agg #[.int .i64 rx, .int .i64 ry, .int .i64 rw, .int .i64 rh]] #[] #[] #[.pointer (some ⟨gb0, 0, none⟩)] (inP wd rx ry rw rh) (fun _ => canon .f32 sp) pa ee0 qa HX.out s1 s2 n0 n256 (by exact ⟨_, rfl, by kernel_rfl, by kernel_rfl⟩) (by exact ⟨_, rfl, by kernel_rfl, by kernel_rfl⟩) (fun i hlt w' hw' => by have hc := split_in s1 HN.out hlt; exact implRHas rx ry rw rh ((i : Int) % wd) ((i : Int) / wd) w' q1 q2 q3 q4 q5 q6) (always_zero (p := inP wd rx ry rw rh) (n := n) (wd := wd) (xs := xs) gb0 sp pa BA0 wp)
  refine plan_call rfl rfl 84 #[] #[] rfl _ Try.func84 (by kernel_rfl) (by kernel_rfl) [.agg #[.int .i64 wd, .int .i64 hi, .bool wb], .slice (some ⟨ba, oa, none⟩) n ca, .func (.func 94) #[.agg #[.int .i64 rx, .int .i64 ry, .int .i64 rw, .int .i64 rh]] #[], .func (.func 126) #[] #[.pointer (some ⟨gb0, 0, none⟩)]] (by kernel_rfl) #[.agg #[.int .i64 wd, .int .i64 hi, .bool wb], .slice (some ⟨ba, oa, none⟩) n ca, .func (.func 94) #[.agg #[.int .i64 rx, .int .i64 ry, .int .i64 rw, .int .i64 rh]] #[], .func (.func 126) #[] #[.pointer (some ⟨gb0, 0, none⟩)]] (by simp) _ (HCH) ?_
  rintro e pb ⟨g0, k0, L0, rfl, oo0, hL0, hI0, bb0b⟩
  refine ⟨_, rfl, pa_.next bb0b, ?_⟩
  simp only [Act.put, List.setIfInBounds_toArray, List.set_cons_zero, List.set_cons_succ]
  have pb_ := pa_.next bb0b; clear HCH
  (refine plan_plain rfl rfl ?_ ?_ ?_; rotate_left; focus (intro w9; go_simp <;> with_reducible rfl)); (simp only [Act.put, List.setIfInBounds_toArray, List.set_cons_zero, List.set_cons_succ])
  refine plan_call rfl rfl 95 #[] #[] rfl _ Try.func95 (by kernel_rfl) (by kernel_rfl) [.float .f32 lo] (by kernel_rfl) #[.float .f32 lo] (by simp) _ (implAlways lo pb) ?_
  rintro e ra ⟨gb1, rfl, BA1, _, bb1a⟩
  refine ⟨_, rfl, pb_.next bb1a, ?_⟩
  simp only [Act.put, List.setIfInBounds_toArray, List.set_cons_zero, List.set_cons_succ]
  have ra_ := pb_.next bb1a
  have ee1 := hb.later (HBU.trans (Below.mono ra_ zu))
  have HCH := implChanged wd hi wb bb ob cb n ys 94 126 #[.agg #[.int .i64 rx, .int .i64 ry, .int .i64 rw, .int .i64 rh]] #[] #[] #[.pointer (some ⟨gb1, 0, none⟩)] (inP wd rx ry rw rh) (fun _ => canon .f32 lo) ra ee1 qb HY.out s1 s2 n0 n256 (by exact ⟨_, rfl, by kernel_rfl, by kernel_rfl⟩) (by exact ⟨_, rfl, by kernel_rfl, by kernel_rfl⟩) (fun i hlt w' hw' => by have hc := split_in s1 HN.out hlt; exact implRHas rx ry rw rh ((i : Int) % wd) ((i : Int) / wd) w' q1 q2 q3 q4 q5 q6) (always_zero (p := inP wd rx ry rw rh) (n := n) (wd := wd) (xs := ys) gb1 lo ra BA1 wl)
  refine plan_call rfl rfl 84 #[] #[] rfl _ Try.func84 (by kernel_rfl) (by kernel_rfl) [.agg #[.int .i64 wd, .int .i64 hi, .bool wb], .slice (some ⟨bb, ob, none⟩) n cb, .func (.func 94) #[.agg #[.int .i64 rx, .int .i64 ry, .int .i64 rw, .int .i64 rh]] #[], .func (.func 126) #[] #[.pointer (some ⟨gb1, 0, none⟩)]] (by kernel_rfl) #[.agg #[.int .i64 wd, .int .i64 hi, .bool wb], .slice (some ⟨bb, ob, none⟩) n cb, .func (.func 94) #[.agg #[.int .i64 rx, .int .i64 ry, .int .i64 rw, .int .i64 rh]] #[], .func (.func 126) #[] #[.pointer (some ⟨gb1, 0, none⟩)]] (by simp) _ (HCH) ?_
  rintro e rb ⟨g1, k1, L1, rfl, oo1, hL1, hI1, bb1b⟩
  refine ⟨_, rfl, ra_.next bb1b, ?_⟩
  simp only [Act.put, List.setIfInBounds_toArray, List.set_cons_zero, List.set_cons_succ]
  have rb_ := ra_.next bb1b; clear HCH
  change wpList _ _ _ _ _ _
  simp only [List.drop_succ_cons, List.drop_zero]
  have sz0 : u4.heap.size ≤ pa.heap.size := Below.size pa_; have sz1 := bb0b.size; have sz2 := bb1a.size; have sz3 := bb1b.size; have sz4 : u4.heap.size ≤ ra.heap.size := Below.size ra_
  have y0 := oo0.bound g0 rfl; have y1 := oo1.bound g1 rfl
  have z0 := (oo0.span _ rfl).2; dsimp only at z0
  have ne01 : g0 ≠ g1 := by omega
  have O0 := Lib.hid (((oo0.later bb1a).later bb1b).lower (show w.heap.size ≤ pa.heap.size by omega)); have O1 := Lib.hid (oo1.lower (show w.heap.size ≤ ra.heap.size by omega)); clear oo0 oo1
  have HB4 := Lib.hid (HBU.trans (Below.mono rb_ zu))
  have X4 := X.later rb_; have R4 := R.later rb_
  have HI0 := Lib.hid hI0; have HI1 := Lib.hid hI1; have HL0 := Lib.hid hL0; have HL1 := Lib.hid hL1; clear hI0 hI1 hL0 hL1 ee0 ee1 BA0 BA1 bb0a bb0b bb1a bb1b v0_ pa_ pb_ ra_ rb_ Xc Xf X R Q H HB
  obtain ⟨Xc, Xf⟩ := X4.open; obtain ⟨Rc, Rf⟩ := R4.open
  go_wp2_with fail
  refine NoPanic.normal ?_
  go_wp2
  refine bodyPost_ret (v := .tuple #[.agg #[.int .i64 wd, .int .i64 hi, .bool wb, .slice (some ⟨g0, 0, none⟩) n k0, .slice (some ⟨g1, 0, none⟩) n k1], .bool true]) (by simp [results, Try.results40, go_sem, Rc]) rfl (gave_yes HBT.out HL0.out HL1.out ⟨(((((((O0.out.set (p := ⟨w.heap.size, 3, none⟩) (ne_block (h := w.heap.size) (by omega)) _).set (p := ⟨w.heap.size, 4, none⟩) (ne_block (h := w.heap.size) (by omega)) _).set (p := ⟨w.heap.size + 1 + 1, 0, none⟩) (ne_block (h := w.heap.size + 1 + 1) (by omega)) _).set (p := ⟨w.heap.size + 1 + 1, 1, none⟩) (ne_block (h := w.heap.size + 1 + 1) (by omega)) _).set (p := ⟨w.heap.size + 1 + 1, 2, none⟩) (ne_block (h := w.heap.size + 1 + 1) (by omega)) _).set (p := ⟨w.heap.size + 1 + 1, 3, none⟩) (ne_block (h := w.heap.size + 1 + 1) (by omega)) _).set (p := ⟨w.heap.size + 1 + 1, 4, none⟩) (ne_block (h := w.heap.size + 1 + 1) (by omega)) _), (((((((O1.out.set (p := ⟨w.heap.size, 3, none⟩) (ne_block (h := w.heap.size) (by omega)) _).set (p := ⟨w.heap.size, 4, none⟩) (ne_block (h := w.heap.size) (by omega)) _).set (p := ⟨w.heap.size + 1 + 1, 0, none⟩) (ne_block (h := w.heap.size + 1 + 1) (by omega)) _).set (p := ⟨w.heap.size + 1 + 1, 1, none⟩) (ne_block (h := w.heap.size + 1 + 1) (by omega)) _).set (p := ⟨w.heap.size + 1 + 1, 2, none⟩) (ne_block (h := w.heap.size + 1 + 1) (by omega)) _).set (p := ⟨w.heap.size + 1 + 1, 3, none⟩) (ne_block (h := w.heap.size + 1 + 1) (by omega)) _).set (p := ⟨w.heap.size + 1 + 1, 4, none⟩) (ne_block (h := w.heap.size + 1 + 1) (by omega)) _), apart_ne ne01, HI0.out, HI1.out, (((((((HB4.out.setCell (p := ⟨w.heap.size, 3, none⟩) (by first | omega | (simp <;> omega)) _).setCell (p := ⟨w.heap.size, 4, none⟩) (by first | omega | (simp <;> omega)) _).setCell (p := ⟨w.heap.size + 1 + 1, 0, none⟩) (by first | omega | (simp <;> omega)) _).setCell (p := ⟨w.heap.size + 1 + 1, 1, none⟩) (by first | omega | (simp <;> omega)) _).setCell (p := ⟨w.heap.size + 1 + 1, 2, none⟩) (by first | omega | (simp <;> omega)) _).setCell (p := ⟨w.heap.size + 1 + 1, 3, none⟩) (by first | omega | (simp <;> omega)) _).setCell (p := ⟨w.heap.size + 1 + 1, 4, none⟩) (by first | omega | (simp <;> omega)) _)⟩)

theorem specShareH (x : Nat) (w : World) : Calls Try.prog 76 #[.float .f32 x, .float .f32 1056964608] w fun e w' => e = .returned (.bool (inB 1056964608 x)) ∧ w = w' := by
  have hi : inB 1056964608 x = (geB x 0 && leB x 1056964608) := by
    rw [← inB_eq 1056964608 x (by decide +kernel), leB_swap 0 x]
  rw [hi]; clear hi
  rcases h1 : geB x 0 with _ | _
  · unfold geB at h1
    go_enter Try.func76, Try.ntmps76
    go_wp2
    go_ret
    exact ⟨rfl, rfl⟩
  · unfold geB at h1
    have hl : leB x 1056964608 = (FloatKind.f32.format.order x 1056964608 == some .lt || FloatKind.f32.format.order x 1056964608 == some .eq) := rfl
    rw [hl]; clear hl
    go_enter Try.func76, Try.ntmps76
    go_wp2
    go_ret
    exact ⟨rfl, rfl⟩
theorem quietRI (gr : Nat) (rx ry rw rh x y : Int) (c : Bool) (w : World) (n : Nat) (hc : hasR rx ry rw rh x y = c) (Q : Blk w gr #[.int .i64 rx, .int .i64 ry, .int .i64 rw, .int .i64 rh] 39) (b1 : rx + rw ≤ 1000000) (b2 : ry + rh ≤ 1000000) (b3 : 0 ≤ rx) (b4 : 0 ≤ ry) (b5 : 1 ≤ rw) (b6 : 1 ≤ rh) :
    Calls Try.prog 92 #[.pointer (some ⟨gr, 0, none⟩), .int .i64 x, .int .i64 y] (w.drewN n) fun e w'' => e = .returned (.bool c) ∧ ∃ m, w'' = w.drewN m := by
  subst hc
  exact (specIn gr rx ry rw rh x y _ (Q.drewN _) b1 b2 b3 b4 b5 b6).mono fun e w'' ⟨h1, m, h2⟩ => ⟨h1, _, h2.trans (World.drewN_drewN ..)⟩

set_option maxHeartbeats 8000000 in
set_option maxRecDepth 100000 in
theorem specFillRectL (wd hi : Int) (wb : Bool) (a b : Option Addr) (ca cb : Nat) (xs ys : List Nat) (rx ry rw rh : Int) (sp lo : Nat) (w : World) (ha : RowV w a (fvals xs)) (hb : RowV w b (fvals ys)) (qa : ∀ z ∈ xs, z < 2 ^ 32) (qb : ∀ z ∈ ys, z < 2 ^ 32) (hx : xs.length ≤ maxLen) (hy : ys.length ≤ maxLen) (wp : sp < 2 ^ 32) (wl : lo < 2 ^ 32) :
    Calls Try.prog 39 #[.agg #[.int .i64 wd, .int .i64 hi, .bool wb, .slice a xs.length ca, .slice b ys.length cb], .agg #[.int .i64 rx, .int .i64 ry, .int .i64 rw, .int .i64 rh], .float .f32 sp, .float .f32 lo] w (HadSh w (fillB wd hi xs ys rx ry rw rh sp lo) wd hi wb (chgC (inP wd rx ry rw rh) (fun _ => canon .f32 sp) xs) (chgC (inP wd rx ry rw rh) (fun _ => canon .f32 lo) ys)) := by
  rcases hv : validB wd hi xs ys with _ | _
  · skip
    refine Calls.mono ?_ (fun e w9 h9 => had_no (by unfold fillB isRectB; rw [hv]; rfl) h9)
    have H_v := Lib.hid hv; clear hv
    have X := Blk.new w #[.int .i64 wd, .int .i64 hi, .bool wb, .slice a xs.length ca, .slice b ys.length cb] 29
    have Q := Blk.new1 w (.cells #[.int .i64 wd, .int .i64 hi, .bool wb, .slice a xs.length ca, .slice b ys.length cb] 29) #[.int .i64 rx, .int .i64 ry, .int .i64 rw, .int .i64 rh] 39
    replace X := X.alloc (.cells #[.int .i64 rx, .int .i64 ry, .int .i64 rw, .int .i64 rh] 39)
    have R := Blk.new2 w (.cells #[.int .i64 wd, .int .i64 hi, .bool wb, .slice a xs.length ca, .slice b ys.length cb] 29) (.cells #[.int .i64 rx, .int .i64 ry, .int .i64 rw, .int .i64 rh] 39) #[.int .i64 0, .int .i64 0, .bool false, .slice none 0 0, .slice none 0 0] 29
    replace X := X.alloc (.cells #[.int .i64 0, .int .i64 0, .bool false, .slice none 0 0, .slice none 0 0] 29)
    replace Q := Q.alloc (.cells #[.int .i64 0, .int .i64 0, .bool false, .slice none 0 0, .slice none 0 0] 29)
    have HB : Hid (Below w.heap.size w (((w.alloc (.cells #[.int .i64 wd, .int .i64 hi, .bool wb, .slice a xs.length ca, .slice b ys.length cb] 29)).alloc (.cells #[.int .i64 rx, .int .i64 ry, .int .i64 rw, .int .i64 rh] 39)).alloc (.cells #[.int .i64 0, .int .i64 0, .bool false, .slice none 0 0, .slice none 0 0] 29))) := Lib.hid ((((Below.refl w.heap.size w).alloc (by simp <;> omega) _).alloc (by simp <;> omega) _).alloc (by simp <;> omega) _)
    go_enter Try.func39, Try.ntmps39
    go_wp2_with fail
    generalize (((w.alloc (.cells #[.int .i64 wd, .int .i64 hi, .bool wb, .slice a xs.length ca, .slice b ys.length cb] 29)).alloc (.cells #[.int .i64 rx, .int .i64 ry, .int .i64 rw, .int .i64 rh] 39)).alloc (.cells #[.int .i64 0, .int .i64 0, .bool false, .slice none 0 0, .slice none 0 0] 29)) = u1 at *
    refine (specIs _ _ _ _ _ _ _ _ _ _ _ X (ha.later HB.out) (hb.later HB.out) hx hy).mono ?_
    rintro r u2 ⟨rfl, nq, hw⟩
    have q : Below u1.heap.size u1 u2 := by rw [hw]; exact below_drewN (Below.refl _ _) _
    clear hw
    replace X := X.later q
    replace Q := Q.later q
    replace R := R.later q
    replace HB := Lib.hid (HB.out.trans (q.mono HB.out.size))
    clear q
    rw [H_v.out]
    obtain ⟨Rc, Rf⟩ := R.open
    go_wp2
    refine bodyPost_ret (v := .tuple #[.agg #[.int .i64 0, .int .i64 0, .bool false, .slice none 0 0, .slice none 0 0], .bool false]) (by simp [results, Try.results39, go_sem, Rc]) rfl ⟨none, none, 0, 0, [], [], rfl, OwnSheet.none (((((HB.out.setCell (p := ⟨w.heap.size + 1 + 1, 0, none⟩) (by first | omega | (simp <;> omega)) _).setCell (p := ⟨w.heap.size + 1 + 1, 1, none⟩) (by first | omega | (simp <;> omega)) _).setCell (p := ⟨w.heap.size + 1 + 1, 2, none⟩) (by first | omega | (simp <;> omega)) _).setCell (p := ⟨w.heap.size + 1 + 1, 3, none⟩) (by first | omega | (simp <;> omega)) _).setCell (p := ⟨w.heap.size + 1 + 1, 4, none⟩) (by first | omega | (simp <;> omega)) _)⟩
  have HB0 : Hid (fillB wd hi xs ys rx ry rw rh sp lo = (rectB wd hi rx ry rw rh && (inB 1056964608 sp && inB 1065353216 lo))) := Lib.hid (by unfold fillB isRectB; rw [hv]; rfl)
  obtain ⟨s1, s2, s3, s4, hm2, lx, ly⟩ := valid_parts hv
  obtain ⟨t1, t2⟩ := (sides_mul (valid_sides hv)).2.2.2.2
  obtain ⟨n, hn⟩ := Int.eq_ofNat_of_zero_le (show 0 ≤ wd * hi by omega)
  have hxn : xs.length = n := by omega
  have hyn : ys.length = n := by omega
  have n256 : n ≤ 256 := by omega
  have n0 : 0 < n := by omega
  obtain ⟨ba, oa, rfl, hz0⟩ := ha 0 _ (fvals_get (show 0 < xs.length by omega)); clear hz0
  obtain ⟨bb, ob, rfl, hz1⟩ := hb 0 _ (fvals_get (show 0 < ys.length by omega)); clear hz1
  have CV : ∀ u, Below w.heap.size w u → Blk u w.heap.size #[.int .i64 wd, .int .i64 hi, .bool wb, .slice (some ⟨ba, oa, none⟩) n ca, .slice (some ⟨bb, ob, none⟩) n cb] 29 → Calls Try.prog 56 #[.pointer (some ⟨w.heap.size, 0, none⟩)] u fun e w' => e = .returned (.bool true) ∧ Below u.heap.size u w' := fun u hu X => by
    have := specIs w.heap.size wd hi wb _ _ ca cb xs ys u (by rw [hxn, hyn]; exact X) (ha.later hu) (hb.later hu) hx hy
    rw [hv] at this
    exact this.mono fun e w' ⟨h, nq, hw⟩ => ⟨h, by rw [hw]; exact below_drewN (Below.refl _ _) _⟩
  have HCV := Lib.hid CV; clear CV
  rw [hxn, hyn]
  have HN := Lib.hid hn; have HX := Lib.hid hxn; have HY := Lib.hid hyn; clear hn hxn hyn hv lx ly t1 t2
  rcases hrr : rectB wd hi rx ry rw rh with _ | _
  · skip
    refine Calls.mono ?_ (fun e w9 h9 => had_no (by rw [HB0.out, hrr]; rfl) h9)
    have HRB := Lib.hid hrr; clear hrr
    have X := Blk.new w #[.int .i64 wd, .int .i64 hi, .bool wb, .slice (some ⟨ba, oa, none⟩) n ca, .slice (some ⟨bb, ob, none⟩) n cb] 29
    have Q := Blk.new1 w (.cells #[.int .i64 wd, .int .i64 hi, .bool wb, .slice (some ⟨ba, oa, none⟩) n ca, .slice (some ⟨bb, ob, none⟩) n cb] 29) #[.int .i64 rx, .int .i64 ry, .int .i64 rw, .int .i64 rh] 39
    replace X := X.alloc (.cells #[.int .i64 rx, .int .i64 ry, .int .i64 rw, .int .i64 rh] 39)
    have R := Blk.new2 w (.cells #[.int .i64 wd, .int .i64 hi, .bool wb, .slice (some ⟨ba, oa, none⟩) n ca, .slice (some ⟨bb, ob, none⟩) n cb] 29) (.cells #[.int .i64 rx, .int .i64 ry, .int .i64 rw, .int .i64 rh] 39) #[.int .i64 0, .int .i64 0, .bool false, .slice none 0 0, .slice none 0 0] 29
    replace X := X.alloc (.cells #[.int .i64 0, .int .i64 0, .bool false, .slice none 0 0, .slice none 0 0] 29)
    replace Q := Q.alloc (.cells #[.int .i64 0, .int .i64 0, .bool false, .slice none 0 0, .slice none 0 0] 29)
    have HB : Hid (Below w.heap.size w (((w.alloc (.cells #[.int .i64 wd, .int .i64 hi, .bool wb, .slice (some ⟨ba, oa, none⟩) n ca, .slice (some ⟨bb, ob, none⟩) n cb] 29)).alloc (.cells #[.int .i64 rx, .int .i64 ry, .int .i64 rw, .int .i64 rh] 39)).alloc (.cells #[.int .i64 0, .int .i64 0, .bool false, .slice none 0 0, .slice none 0 0] 29))) := Lib.hid ((((Below.refl w.heap.size w).alloc (by simp <;> omega) _).alloc (by simp <;> omega) _).alloc (by simp <;> omega) _)
    go_enter Try.func39, Try.ntmps39
    go_wp2_with fail
    generalize (((w.alloc (.cells #[.int .i64 wd, .int .i64 hi, .bool wb, .slice (some ⟨ba, oa, none⟩) n ca, .slice (some ⟨bb, ob, none⟩) n cb] 29)).alloc (.cells #[.int .i64 rx, .int .i64 ry, .int .i64 rw, .int .i64 rh] 39)).alloc (.cells #[.int .i64 0, .int .i64 0, .bool false, .slice none 0 0, .slice none 0 0] 29)) = u1 at *
    refine (HCV.out _ HB.out X).mono ?_
    rintro r u2 ⟨rfl, q⟩
    replace X := X.later q
    replace Q := Q.later q
    replace R := R.later q
    replace HB := Lib.hid (HB.out.trans (q.mono HB.out.size))
    clear q
    go_wp2_with fail
    refine (specRect _ _ wd hi wb _ _ rx ry rw rh _ X Q s1 s2 s3 s4).mono ?_
    rintro r u3 ⟨rfl, q⟩
    replace X := X.later q
    replace Q := Q.later q
    replace R := R.later q
    replace HB := Lib.hid (HB.out.trans (q.mono HB.out.size))
    clear q
    rw [HRB.out]
    obtain ⟨Rc, Rf⟩ := R.open
    go_wp2
    refine bodyPost_ret (v := .tuple #[.agg #[.int .i64 0, .int .i64 0, .bool false, .slice none 0 0, .slice none 0 0], .bool false]) (by simp [results, Try.results39, go_sem, Rc]) rfl ⟨none, none, 0, 0, [], [], rfl, OwnSheet.none (((((HB.out.setCell (p := ⟨w.heap.size + 1 + 1, 0, none⟩) (by first | omega | (simp <;> omega)) _).setCell (p := ⟨w.heap.size + 1 + 1, 1, none⟩) (by first | omega | (simp <;> omega)) _).setCell (p := ⟨w.heap.size + 1 + 1, 2, none⟩) (by first | omega | (simp <;> omega)) _).setCell (p := ⟨w.heap.size + 1 + 1, 3, none⟩) (by first | omega | (simp <;> omega)) _).setCell (p := ⟨w.heap.size + 1 + 1, 4, none⟩) (by first | omega | (simp <;> omega)) _)⟩
  obtain ⟨q1, q2, q3, q4, q5, q6⟩ := rect_sum s2 s4 hrr
  rcases h0 : inB 1056964608 sp with _ | _
  · skip
    refine Calls.mono ?_ (fun e w9 h9 => had_no (by rw [HB0.out, hrr, h0]; rfl) h9)
    have HRB := Lib.hid hrr; clear hrr; have HW := Lib.hid h0; clear h0
    have X := Blk.new w #[.int .i64 wd, .int .i64 hi, .bool wb, .slice (some ⟨ba, oa, none⟩) n ca, .slice (some ⟨bb, ob, none⟩) n cb] 29
    have Q := Blk.new1 w (.cells #[.int .i64 wd, .int .i64 hi, .bool wb, .slice (some ⟨ba, oa, none⟩) n ca, .slice (some ⟨bb, ob, none⟩) n cb] 29) #[.int .i64 rx, .int .i64 ry, .int .i64 rw, .int .i64 rh] 39
    replace X := X.alloc (.cells #[.int .i64 rx, .int .i64 ry, .int .i64 rw, .int .i64 rh] 39)
    have R := Blk.new2 w (.cells #[.int .i64 wd, .int .i64 hi, .bool wb, .slice (some ⟨ba, oa, none⟩) n ca, .slice (some ⟨bb, ob, none⟩) n cb] 29) (.cells #[.int .i64 rx, .int .i64 ry, .int .i64 rw, .int .i64 rh] 39) #[.int .i64 0, .int .i64 0, .bool false, .slice none 0 0, .slice none 0 0] 29
    replace X := X.alloc (.cells #[.int .i64 0, .int .i64 0, .bool false, .slice none 0 0, .slice none 0 0] 29)
    replace Q := Q.alloc (.cells #[.int .i64 0, .int .i64 0, .bool false, .slice none 0 0, .slice none 0 0] 29)
    have HB : Hid (Below w.heap.size w (((w.alloc (.cells #[.int .i64 wd, .int .i64 hi, .bool wb, .slice (some ⟨ba, oa, none⟩) n ca, .slice (some ⟨bb, ob, none⟩) n cb] 29)).alloc (.cells #[.int .i64 rx, .int .i64 ry, .int .i64 rw, .int .i64 rh] 39)).alloc (.cells #[.int .i64 0, .int .i64 0, .bool false, .slice none 0 0, .slice none 0 0] 29))) := Lib.hid ((((Below.refl w.heap.size w).alloc (by simp <;> omega) _).alloc (by simp <;> omega) _).alloc (by simp <;> omega) _)
    go_enter Try.func39, Try.ntmps39
    go_wp2_with fail
    generalize (((w.alloc (.cells #[.int .i64 wd, .int .i64 hi, .bool wb, .slice (some ⟨ba, oa, none⟩) n ca, .slice (some ⟨bb, ob, none⟩) n cb] 29)).alloc (.cells #[.int .i64 rx, .int .i64 ry, .int .i64 rw, .int .i64 rh] 39)).alloc (.cells #[.int .i64 0, .int .i64 0, .bool false, .slice none 0 0, .slice none 0 0] 29)) = u1 at *
    refine (HCV.out _ HB.out X).mono ?_
    rintro r u2 ⟨rfl, q⟩
    replace X := X.later q
    replace Q := Q.later q
    replace R := R.later q
    replace HB := Lib.hid (HB.out.trans (q.mono HB.out.size))
    clear q
    go_wp2_with fail
    refine (specRect _ _ wd hi wb _ _ rx ry rw rh _ X Q s1 s2 s3 s4).mono ?_
    rintro r u3 ⟨rfl, q⟩
    replace X := X.later q
    replace Q := Q.later q
    replace R := R.later q
    replace HB := Lib.hid (HB.out.trans (q.mono HB.out.size))
    clear q
    rw [HRB.out]
    go_wp2_with fail
    refine (specShareH _ _).mono ?_
    rintro r w9 ⟨rfl, rfl⟩
    rw [HW.out]
    obtain ⟨Rc, Rf⟩ := R.open
    go_wp2
    refine bodyPost_ret (v := .tuple #[.agg #[.int .i64 0, .int .i64 0, .bool false, .slice none 0 0, .slice none 0 0], .bool false]) (by simp [results, Try.results39, go_sem, Rc]) rfl ⟨none, none, 0, 0, [], [], rfl, OwnSheet.none (((((HB.out.setCell (p := ⟨w.heap.size + 1 + 1, 0, none⟩) (by first | omega | (simp <;> omega)) _).setCell (p := ⟨w.heap.size + 1 + 1, 1, none⟩) (by first | omega | (simp <;> omega)) _).setCell (p := ⟨w.heap.size + 1 + 1, 2, none⟩) (by first | omega | (simp <;> omega)) _).setCell (p := ⟨w.heap.size + 1 + 1, 3, none⟩) (by first | omega | (simp <;> omega)) _).setCell (p := ⟨w.heap.size + 1 + 1, 4, none⟩) (by first | omega | (simp <;> omega)) _)⟩
  rcases h1 : inB 1065353216 lo with _ | _
  · skip
    refine Calls.mono ?_ (fun e w9 h9 => had_no (by rw [HB0.out, hrr, h0, h1]; rfl) h9)
    have HRB := Lib.hid hrr; clear hrr; have HW := Lib.hid h0; clear h0; have HL := Lib.hid h1; clear h1
    have X := Blk.new w #[.int .i64 wd, .int .i64 hi, .bool wb, .slice (some ⟨ba, oa, none⟩) n ca, .slice (some ⟨bb, ob, none⟩) n cb] 29
    have Q := Blk.new1 w (.cells #[.int .i64 wd, .int .i64 hi, .bool wb, .slice (some ⟨ba, oa, none⟩) n ca, .slice (some ⟨bb, ob, none⟩) n cb] 29) #[.int .i64 rx, .int .i64 ry, .int .i64 rw, .int .i64 rh] 39
    replace X := X.alloc (.cells #[.int .i64 rx, .int .i64 ry, .int .i64 rw, .int .i64 rh] 39)
    have R := Blk.new2 w (.cells #[.int .i64 wd, .int .i64 hi, .bool wb, .slice (some ⟨ba, oa, none⟩) n ca, .slice (some ⟨bb, ob, none⟩) n cb] 29) (.cells #[.int .i64 rx, .int .i64 ry, .int .i64 rw, .int .i64 rh] 39) #[.int .i64 0, .int .i64 0, .bool false, .slice none 0 0, .slice none 0 0] 29
    replace X := X.alloc (.cells #[.int .i64 0, .int .i64 0, .bool false, .slice none 0 0, .slice none 0 0] 29)
    replace Q := Q.alloc (.cells #[.int .i64 0, .int .i64 0, .bool false, .slice none 0 0, .slice none 0 0] 29)
    have HB : Hid (Below w.heap.size w (((w.alloc (.cells #[.int .i64 wd, .int .i64 hi, .bool wb, .slice (some ⟨ba, oa, none⟩) n ca, .slice (some ⟨bb, ob, none⟩) n cb] 29)).alloc (.cells #[.int .i64 rx, .int .i64 ry, .int .i64 rw, .int .i64 rh] 39)).alloc (.cells #[.int .i64 0, .int .i64 0, .bool false, .slice none 0 0, .slice none 0 0] 29))) := Lib.hid ((((Below.refl w.heap.size w).alloc (by simp <;> omega) _).alloc (by simp <;> omega) _).alloc (by simp <;> omega) _)
    go_enter Try.func39, Try.ntmps39
    go_wp2_with fail
    generalize (((w.alloc (.cells #[.int .i64 wd, .int .i64 hi, .bool wb, .slice (some ⟨ba, oa, none⟩) n ca, .slice (some ⟨bb, ob, none⟩) n cb] 29)).alloc (.cells #[.int .i64 rx, .int .i64 ry, .int .i64 rw, .int .i64 rh] 39)).alloc (.cells #[.int .i64 0, .int .i64 0, .bool false, .slice none 0 0, .slice none 0 0] 29)) = u1 at *
    refine (HCV.out _ HB.out X).mono ?_
    rintro r u2 ⟨rfl, q⟩
    replace X := X.later q
    replace Q := Q.later q
    replace R := R.later q
    replace HB := Lib.hid (HB.out.trans (q.mono HB.out.size))
    clear q
    go_wp2_with fail
    refine (specRect _ _ wd hi wb _ _ rx ry rw rh _ X Q s1 s2 s3 s4).mono ?_
    rintro r u3 ⟨rfl, q⟩
    replace X := X.later q
    replace Q := Q.later q
    replace R := R.later q
    replace HB := Lib.hid (HB.out.trans (q.mono HB.out.size))
    clear q
    rw [HRB.out]
    go_wp2_with fail
    refine (specShareH _ _).mono ?_
    rintro r w9 ⟨rfl, rfl⟩
    rw [HW.out]
    go_wp2_with fail
    refine (specShare _ _).mono ?_
    rintro r w9 ⟨rfl, rfl⟩
    rw [HL.out]
    obtain ⟨Rc, Rf⟩ := R.open
    go_wp2
    refine bodyPost_ret (v := .tuple #[.agg #[.int .i64 0, .int .i64 0, .bool false, .slice none 0 0, .slice none 0 0], .bool false]) (by simp [results, Try.results39, go_sem, Rc]) rfl ⟨none, none, 0, 0, [], [], rfl, OwnSheet.none (((((HB.out.setCell (p := ⟨w.heap.size + 1 + 1, 0, none⟩) (by first | omega | (simp <;> omega)) _).setCell (p := ⟨w.heap.size + 1 + 1, 1, none⟩) (by first | omega | (simp <;> omega)) _).setCell (p := ⟨w.heap.size + 1 + 1, 2, none⟩) (by first | omega | (simp <;> omega)) _).setCell (p := ⟨w.heap.size + 1 + 1, 3, none⟩) (by first | omega | (simp <;> omega)) _).setCell (p := ⟨w.heap.size + 1 + 1, 4, none⟩) (by first | omega | (simp <;> omega)) _)⟩
  have HBT : Hid (fillB wd hi xs ys rx ry rw rh sp lo = true) := Lib.hid (by rw [HB0.out, hrr, h0, h1]; rfl)
  have HRB := Lib.hid hrr; clear hrr; have HW := Lib.hid h0; clear h0; have HL := Lib.hid h1; clear h1
  have HT0 : Hid (∀ L, ChgTo (inP wd rx ry rw rh) (fun _ => canon .f32 sp) xs n L → Is L (chgC (inP wd rx ry rw rh) (fun _ => canon .f32 sp) xs)) := Lib.hid (fun L h => h.all (by rw [HX.out]; exact Nat.le_refl _) (by rw [HX.out]; exact n256))
  have HT1 : Hid (∀ L, ChgTo (inP wd rx ry rw rh) (fun _ => canon .f32 lo) ys n L → Is L (chgC (inP wd rx ry rw rh) (fun _ => canon .f32 lo) ys)) := Lib.hid (fun L h => h.all (by rw [HY.out]; exact Nat.le_refl _) (by rw [HY.out]; exact n256))
  have HST0 := Lib.hid (ChgTo.start (p := inP wd rx ry rw rh) (G := fun _ => canon .f32 sp) qa)
  have HST1 := Lib.hid (ChgTo.start (p := inP wd rx ry rw rh) (G := fun _ => canon .f32 lo) qb)
  have X := Blk.new w #[.int .i64 wd, .int .i64 hi, .bool wb, .slice (some ⟨ba, oa, none⟩) n ca, .slice (some ⟨bb, ob, none⟩) n cb] 29
  have Q := Blk.new1 w (.cells #[.int .i64 wd, .int .i64 hi, .bool wb, .slice (some ⟨ba, oa, none⟩) n ca, .slice (some ⟨bb, ob, none⟩) n cb] 29) #[.int .i64 rx, .int .i64 ry, .int .i64 rw, .int .i64 rh] 39
  replace X := X.alloc (.cells #[.int .i64 rx, .int .i64 ry, .int .i64 rw, .int .i64 rh] 39)
  have R := Blk.new2 w (.cells #[.int .i64 wd, .int .i64 hi, .bool wb, .slice (some ⟨ba, oa, none⟩) n ca, .slice (some ⟨bb, ob, none⟩) n cb] 29) (.cells #[.int .i64 rx, .int .i64 ry, .int .i64 rw, .int .i64 rh] 39) #[.int .i64 0, .int .i64 0, .bool false, .slice none 0 0, .slice none 0 0] 29
  replace X := X.alloc (.cells #[.int .i64 0, .int .i64 0, .bool false, .slice none 0 0, .slice none 0 0] 29)
  replace Q := Q.alloc (.cells #[.int .i64 0, .int .i64 0, .bool false, .slice none 0 0, .slice none 0 0] 29)
  have HB : Hid (Below w.heap.size w (((w.alloc (.cells #[.int .i64 wd, .int .i64 hi, .bool wb, .slice (some ⟨ba, oa, none⟩) n ca, .slice (some ⟨bb, ob, none⟩) n cb] 29)).alloc (.cells #[.int .i64 rx, .int .i64 ry, .int .i64 rw, .int .i64 rh] 39)).alloc (.cells #[.int .i64 0, .int .i64 0, .bool false, .slice none 0 0, .slice none 0 0] 29))) := Lib.hid ((((Below.refl w.heap.size w).alloc (by simp <;> omega) _).alloc (by simp <;> omega) _).alloc (by simp <;> omega) _)
  go_enter Try.func39, Try.ntmps39
  go_wp2_with fail
  generalize (((w.alloc (.cells #[.int .i64 wd, .int .i64 hi, .bool wb, .slice (some ⟨ba, oa, none⟩) n ca, .slice (some ⟨bb, ob, none⟩) n cb] 29)).alloc (.cells #[.int .i64 rx, .int .i64 ry, .int .i64 rw, .int .i64 rh] 39)).alloc (.cells #[.int .i64 0, .int .i64 0, .bool false, .slice none 0 0, .slice none 0 0] 29)) = u1 at *
  refine (HCV.out _ HB.out X).mono ?_
  rintro r u2 ⟨rfl, q⟩
  replace X := X.later q
  replace Q := Q.later q
  replace R := R.later q
  replace HB := Lib.hid (HB.out.trans (q.mono HB.out.size))
  clear q
  go_wp2_with fail
  refine (specRect _ _ wd hi wb _ _ rx ry rw rh _ X Q s1 s2 s3 s4).mono ?_
  rintro r u3 ⟨rfl, q⟩
  replace X := X.later q
  replace Q := Q.later q
  replace R := R.later q
  replace HB := Lib.hid (HB.out.trans (q.mono HB.out.size))
  clear q
  rw [HRB.out]
  go_wp2_with fail
  refine (specShareH _ _).mono ?_
  rintro r w9 ⟨rfl, rfl⟩
  rw [HW.out]
  go_wp2_with fail
  refine (specShare _ _).mono ?_
  rintro r w9 ⟨rfl, rfl⟩
  rw [HL.out]
  obtain ⟨Xc, Xf⟩ := X.open
  go_wp2_with fail
  have szr := R.lt; have szo := HB.out.size
  refine (specOwnS _ _ _ _ _ _ _ n wd hi wb xs ys _ X (ha.later HB.out) (hb.later HB.out) HX.out HY.out n0 n256).mono ?_
  rintro r u4 ⟨g0, g1, c0, c1, rfl, o0, o1, g01, q⟩
  have y0 := o0.bound g0 rfl; have y1 := o1.bound g1 rfl; have z0 := (o0.span _ rfl).2; have z1 := (o1.span _ rfl).2; dsimp only at z0 z1
  clear Xc Xf
  replace X := X.later q
  replace Q := Q.later q
  replace R := R.later q
  replace HB := Lib.hid (HB.out.trans (q.mono HB.out.size))
  clear q
  have W0 := Lib.hid (o0.lower (show w.heap.size ≤ _ by omega)); have W1 := Lib.hid (o1.lower (show w.heap.size ≤ _ by omega)); clear o0 o1
  have O := Blk.new u4 #[.int .i64 wd, .int .i64 hi, .bool wb, .slice (some ⟨g0, 0, none⟩) n c0, .slice (some ⟨g1, 0, none⟩) n c1] 29
  have q := below_new u4 (.cells #[.int .i64 wd, .int .i64 hi, .bool wb, .slice (some ⟨g0, 0, none⟩) n c0, .slice (some ⟨g1, 0, none⟩) n c1] 29)
  replace X := X.later q
  replace Q := Q.later q
  replace R := R.later q
  replace W0 := Lib.hid (W0.out.later q)
  replace W1 := Lib.hid (W1.out.later q)
  replace HB := Lib.hid (HB.out.trans (q.mono HB.out.size))
  clear q
  go_upto_region 4 with (fail)
  obtain ⟨gx, hgx⟩ : ∃ gx, gx = u4.heap.size := ⟨_, rfl⟩
  rw [← hgx] at O
  (try simp only [← hgx])
  have zx := O.lt
  generalize u4.alloc (.cells #[.int .i64 wd, .int .i64 hi, .bool wb, .slice (some ⟨g0, 0, none⟩) n c0, .slice (some ⟨g1, 0, none⟩) n c1] 29) = u5 at *
  have n1 : g0 ≠ gx := by omega
  have n2 : g1 ≠ gx := by omega
  have n3 : w.heap.size ≠ g0 := by omega
  have n4 : w.heap.size ≠ g1 := by omega
  have n5 : w.heap.size + 1 ≠ g0 := by omega
  have n6 : w.heap.size + 1 ≠ g1 := by omega
  have n7 : w.heap.size ≤ g0 := by omega
  have n8 : w.heap.size ≤ g1 := by omega
  have n9 : g0 ≠ g1 := by omega
  have n10 : w.heap.size + 1 ≠ gx := by omega
  have am5 : w.heap.size + 1 + 1 ≠ g0 := by omega
  have am6 : w.heap.size + 1 + 1 ≠ g1 := by omega
  clear y0 y1 z0 z1 szo szr hgx zx g01
  obtain ⟨Oc, Of⟩ := O.open
  go_wp2
  go_loopw [33] (fun iv wr => ∃ (k : Nat) (L0 L1 : List Nat), k ≤ n ∧ iv = .int .i64 k ∧ ChgTo (inP wd rx ry rw rh) (fun _ => canon .f32 sp) xs k L0 ∧ ChgTo (inP wd rx ry rw rh) (fun _ => canon .f32 lo) ys k L1 ∧ OwnV wr w.heap.size (some ⟨g0, 0, none⟩) (fvals L0) ∧ OwnV wr w.heap.size (some ⟨g1, 0, none⟩) (fvals L1) ∧ Blk wr w.heap.size #[.int .i64 wd, .int .i64 hi, .bool wb, .slice (some ⟨ba, oa, none⟩) n ca, .slice (some ⟨bb, ob, none⟩) n cb] 29 ∧ Blk wr (w.heap.size + 1) #[.int .i64 rx, .int .i64 ry, .int .i64 rw, .int .i64 rh] 39 ∧ Blk wr (w.heap.size + 1 + 1) #[.int .i64 0, .int .i64 0, .bool false, .slice none 0 0, .slice none 0 0] 29 ∧ Blk wr gx #[.int .i64 wd, .int .i64 hi, .bool wb, .slice (some ⟨g0, 0, none⟩) n c0, .slice (some ⟨g1, 0, none⟩) n c1] 29 ∧ Below w.heap.size w wr) (fun iv _ => n - (intOf iv).toNat)
  case atStart => exact ⟨0, xs, ys, Nat.zero_le _, rfl, HST0.out, HST1.out, W0.out, W1.out, X, Q, R, O, HB.out⟩
  case round =>
    obtain ⟨k, L0, L1, hk, rfl, hM0, hM1, h5, h6, X, Q, R, O, hb5⟩ := hrel
    replace W0 := Lib.hid h5; replace W1 := Lib.hid h6; replace HB := Lib.hid hb5; have HM0 := Lib.hid hM0; have HM1 := Lib.hid hM1; clear h5 h6 hb5 hM0 hM1 HST0 HST1
    clear Oc Of
    by_cases hlt : k < n
    · skip
      have kx : k < xs.length := by rw [HX.out]; exact hlt
      have ky : k < ys.length := by rw [HY.out]; exact hlt
      have kL0 : k < L0.length := by rw [HM0.out.len]; exact kx
      have kL1 : k < L1.length := by rw [HM1.out.len]; exact ky
      have hki : (k : Int) < (n : Int) := by omega
      have hrm : (k : Int).tmod wd = (k : Int) % wd := Int.tmod_eq_emod_of_nonneg (by omega)
      have hq : (k : Int).tdiv wd = (k : Int) / wd := Int.tdiv_eq_ediv_of_nonneg (by omega)
      have hne : (wd == 0) = false := by simp; omega
      have hz : wd ≠ 0 := by omega
      have h7 : 0 ≤ (k : Int) / wd := Int.ediv_nonneg (by omega) (by omega)
      have h8 : (k : Int) / wd ≤ (k : Int) := Int.ediv_le_self _ (by omega)
      have hw : IntKind.i64.wrap ((k : Int) / wd) = (k : Int) / wd := IntWalk.i64_in _ (by omega)
      have hq2 : IntKind.i64.wrap ((k : Int).tdiv wd) = (k : Int) / wd := by rw [hq]; exact hw
      rcases hf : inP wd rx ry rw rh k with _ | _
      · skip
        have HN0 := Lib.hid (HM0.out.no hf); have HN1 := Lib.hid (HM1.out.no hf)
        have H_f : Hid (hasR rx ry rw rh ((k : Int) % wd) ((k : Int) / wd) = false) := Lib.hid hf; clear hf
        obtain ⟨Xc, Xf⟩ := X.open
        go_wp2_with fail
        go_quiet ((go_at_call 92; (try simp only [hrm, hq2, hq, hw]); exact quietRI _ rx ry rw rh _ _ _ _ _ H_f.out Q q1 q2 q3 q4 q5 q6))
        go_wp2
        go_roundw
        case rel => exact ⟨k + 1, L0, L1, by omega, by go_num, HN0.out, HN1.out, W0.out.drewN _, W1.out.drewN _, X.drewN _, Q.drewN _, R.drewN _, O.drewN _, below_drewN HB.out _⟩
        case measure => simp [intOf]; omega
      · skip
        have HN0 := Lib.hid (HM0.out.yes kx hf wp rfl); have HN1 := Lib.hid (HM1.out.yes ky hf wl rfl)
        have H_f : Hid (hasR rx ry rw rh ((k : Int) % wd) ((k : Int) / wd) = true) := Lib.hid hf; clear hf
        obtain ⟨Xc, Xf⟩ := X.open
        go_wp2_with fail
        go_quiet ((go_at_call 92; (try simp only [hrm, hq2, hq, hw]); exact quietRI _ rx ry rw rh _ _ _ _ _ H_f.out Q q1 q2 q3 q4 q5 q6))
        go_upto_region 8 with (fail)
        have q9 : Below wr.heap.size wr (wr.drewN nq) := below_drewN (Below.refl _ _) _
        generalize wr.drewN nq = v7 at *
        replace X := X.later q9; replace Q := Q.later q9; replace R := R.later q9; replace O := O.later q9; replace W0 := Lib.hid (W0.out.later q9); replace W1 := Lib.hid (W1.out.later q9); replace HB := Lib.hid (HB.out.trans (q9.mono HB.out.size)); clear q9 Xc Xf
        obtain ⟨cs, tt9, _, hblk, hvv⟩ := own_some W0.out; obtain ⟨gcc, gcf⟩ := hblk.open; have f0 : v7.cell? ⟨g0, k, none⟩ = some _ := (gcc _).trans (hvv k _ (fvals_get kL0)); have GF := gcf k; clear gcc gcf hvv hblk
        have hp := own_put W0.out k (.float .f32 sp) (by rw [fvals_length]; exact kL0)
        rw [fvals_set] at hp
        have HP2 := Lib.hid hp; clear hp
        obtain ⟨Oc, Of⟩ := O.open
        go_upto_region 9 with (fail)
        clear f0 GF Oc Of
        replace W0 := HP2; replace W1 := Lib.hid (W1.out.set (p := ⟨g0, k, none⟩) (fun x hx => by cases hx; exact fun h => n9 h.symm) (.float .f32 sp))
        replace X := X.setOther (p := ⟨g0, k, none⟩) n3 (.float .f32 sp); replace Q := Q.setOther (p := ⟨g0, k, none⟩) n5 (.float .f32 sp); replace R := R.setOther (p := ⟨g0, k, none⟩) am5 (.float .f32 sp); replace O := O.setOther (p := ⟨g0, k, none⟩) (fun h => n1 h.symm) (.float .f32 sp)
        replace HB := Lib.hid (HB.out.setCell (p := ⟨g0, k, none⟩) n7 (.float .f32 sp)); clear HP2
        generalize v7.setCell ⟨g0, k, none⟩ (.float .f32 sp) = v8 at *
        obtain ⟨cs, tt9, _, hblk, hvv⟩ := own_some W1.out; obtain ⟨gcc, gcf⟩ := hblk.open; have f0 : v8.cell? ⟨g1, k, none⟩ = some _ := (gcc _).trans (hvv k _ (fvals_get kL1)); have GF := gcf k; clear gcc gcf hvv hblk
        have hp := own_put W1.out k (.float .f32 lo) (by rw [fvals_length]; exact kL1)
        rw [fvals_set] at hp
        have HP2 := Lib.hid hp; clear hp
        obtain ⟨Oc, Of⟩ := O.open
        go_wp2
        go_roundw
        case rel => exact ⟨k + 1, _, _, by omega, by go_num, HN0.out, HN1.out, W0.out.set (p := ⟨g1, k, none⟩) (fun x hx => by cases hx; exact n9) _, HP2.out, X.setOther n4 _, Q.setOther n6 _, R.setOther am6 _, O.setOther (fun h => n2 h.symm) _, HB.out.setCell (p := ⟨g1, k, none⟩) n8 _⟩
        case measure => simp [intOf]; omega
    · skip
      obtain rfl : k = n := by omega
      obtain ⟨Oc, Of⟩ := O.open
      obtain ⟨Rc, Rf⟩ := R.open
      go_wp2
      refine bodyPost_ret (v := .tuple #[.agg #[.int .i64 wd, .int .i64 hi, .bool wb, .slice (some ⟨g0, 0, none⟩) k c0, .slice (some ⟨g1, 0, none⟩) k c1], .bool true]) (by simp [results, Try.results39, go_sem, Rc]) rfl (had_yes HBT.out (by rw [HM0.out.len, HX.out]) (by rw [HM1.out.len, HY.out]) ⟨(((((W0.out.set (p := ⟨w.heap.size + 1 + 1, 0, none⟩) (ne_block (h := w.heap.size + 1 + 1) (by omega)) _).set (p := ⟨w.heap.size + 1 + 1, 1, none⟩) (ne_block (h := w.heap.size + 1 + 1) (by omega)) _).set (p := ⟨w.heap.size + 1 + 1, 2, none⟩) (ne_block (h := w.heap.size + 1 + 1) (by omega)) _).set (p := ⟨w.heap.size + 1 + 1, 3, none⟩) (ne_block (h := w.heap.size + 1 + 1) (by omega)) _).set (p := ⟨w.heap.size + 1 + 1, 4, none⟩) (ne_block (h := w.heap.size + 1 + 1) (by omega)) _), (((((W1.out.set (p := ⟨w.heap.size + 1 + 1, 0, none⟩) (ne_block (h := w.heap.size + 1 + 1) (by omega)) _).set (p := ⟨w.heap.size + 1 + 1, 1, none⟩) (ne_block (h := w.heap.size + 1 + 1) (by omega)) _).set (p := ⟨w.heap.size + 1 + 1, 2, none⟩) (ne_block (h := w.heap.size + 1 + 1) (by omega)) _).set (p := ⟨w.heap.size + 1 + 1, 3, none⟩) (ne_block (h := w.heap.size + 1 + 1) (by omega)) _).set (p := ⟨w.heap.size + 1 + 1, 4, none⟩) (ne_block (h := w.heap.size + 1 + 1) (by omega)) _), apart_ne n9, HT0.out L0 HM0.out, HT1.out L1 HM1.out, (((((HB.out.setCell (p := ⟨w.heap.size + 1 + 1, 0, none⟩) (by first | omega | (simp <;> omega)) _).setCell (p := ⟨w.heap.size + 1 + 1, 1, none⟩) (by first | omega | (simp <;> omega)) _).setCell (p := ⟨w.heap.size + 1 + 1, 2, none⟩) (by first | omega | (simp <;> omega)) _).setCell (p := ⟨w.heap.size + 1 + 1, 3, none⟩) (by first | omega | (simp <;> omega)) _).setCell (p := ⟨w.heap.size + 1 + 1, 4, none⟩) (by first | omega | (simp <;> omega)) _)⟩)

end Go.Proofs.Ythlkndjllhdppaa
