/- Sheets with walls above and below: the program's answer and the model's. Conditions: none beyond those of each theorem. -/
import Derived.Test.YthlkndjllhdppaaSht
import Derived.Test.YthlkndjllhdppaaStilled
import Derived.Test.YthlkndjllhdppaaOwnS
import Derived.Test.YthlkndjllhdppaaBu14
namespace Go.Proofs.Ythlkndjllhdppaa
open Go Ieee Go.RowKit
set_option linter.unusedVariables false

def chanB (wd hi : Int) (xs ys : List Nat) (fr tt : Int) : Bool := validB wd hi xs ys && decide (0 ≤ fr ∧ fr ≤ tt ∧ tt < hi)
def outB (fr tt y : Int) : Bool := !decide (fr ≤ y ∧ y ≤ tt)
def chanP (wd fr tt : Int) (i : Nat) : Bool := outB fr tt ((i : Int) / wd)

theorem implHasRow (wd hi y : Int) (wb : Bool) (w : World) : Calls Try.prog 97 #[.agg #[.int .i64 wd, .int .i64 hi, .bool wb], .int .i64 y] w fun e w' => e = .returned (.bool (decide (0 ≤ y ∧ y < hi))) ∧ Below w.heap.size w w' := by
  have HB : Hid (Below w.heap.size w (w.alloc (.cells #[.int .i64 wd, .int .i64 hi, .bool wb] 82))) := Lib.hid (below_new _ _)
  by_cases h1 : 0 ≤ y
  · have d1 : decide (0 ≤ y) = true := decide_eq_true h1
    rw [show decide (0 ≤ y ∧ y < hi) = decide (y < hi) by rw [decide_eq_decide]; omega]
    go_enter Try.func97, Try.ntmps97
    go_wp2
    go_ret
    exact ⟨rfl, HB.out⟩
  · have d1 : decide (0 ≤ y) = false := decide_eq_false h1
    rw [show decide (0 ≤ y ∧ y < hi) = false by rw [decide_eq_false]; omega]
    go_enter Try.func97, Try.ntmps97
    go_wp2
    go_ret
    exact ⟨rfl, HB.out⟩

theorem implChan1 (gf gt : Nat) (fr tt x y : Int) (w : World) (F : Blk w gf #[.int .i64 fr] 2) (G : Blk w gt #[.int .i64 tt] 2) : Calls Try.prog 99 #[.agg #[.int .i64 x, .int .i64 y], .pointer (some ⟨gf, 0, none⟩), .pointer (some ⟨gt, 0, none⟩)] w fun e w' => e = .returned (.bool (outB fr tt y)) ∧ Below w.heap.size w w' := by
  have F1 := F.alloc (.cells #[.int .i64 x, .int .i64 y] 85)
  have G1 := G.alloc (.cells #[.int .i64 x, .int .i64 y] 85)
  have HB : Hid (Below w.heap.size w (w.alloc (.cells #[.int .i64 x, .int .i64 y] 85))) := Lib.hid (below_new _ _)
  obtain ⟨Fc, Ff⟩ := F1.open; obtain ⟨Gc, Gf⟩ := G1.open
  by_cases h1 : y < fr
  · have d1 : decide (y < fr) = true := decide_eq_true h1
    have HR : Hid (outB fr tt y = true) := Lib.hid (by unfold outB; rw [decide_eq_false (by omega)]; rfl)
    go_enter Try.func99, Try.ntmps99
    go_wp2
    go_ret
    exact ⟨by rw [HR.out]; rfl, HB.out⟩
  · have d1 : decide (y < fr) = false := decide_eq_false h1
    have HR : Hid (outB fr tt y = decide (tt < y)) := Lib.hid (by
      unfold outB
      by_cases h2 : y ≤ tt
      · rw [decide_eq_true (by omega), decide_eq_false (by omega)]; rfl
      · rw [decide_eq_false (by omega), decide_eq_true (by omega)]; rfl)
    go_enter Try.func99, Try.ntmps99
    go_wp2
    go_ret
    exact ⟨by rw [HR.out]; rfl, HB.out⟩

set_option maxHeartbeats 8000000 in
set_option maxRecDepth 100000 in
theorem implChannelSheetL (wd hi : Int) (wb : Bool) (a b : Option Addr) (ca cb : Nat) (xs ys : List Nat) (fr tt : Int) (w : World) (ha : RowV w a (fvals xs)) (hb : RowV w b (fvals ys)) (qa : ∀ z ∈ xs, z < 2 ^ 32) (qb : ∀ z ∈ ys, z < 2 ^ 32) (hx : xs.length ≤ maxLen) (hy : ys.length ≤ maxLen) (w1 : (Lit.int .i64 fr).wf = true) (w2 : (Lit.int .i64 tt).wf = true) :
    Calls Try.prog 44 #[.agg #[.int .i64 wd, .int .i64 hi, .bool wb, .slice a xs.length ca, .slice b ys.length cb], .int .i64 fr, .int .i64 tt] w (GaveSh w (chanB wd hi xs ys fr tt) wd hi wb (chgC (chanP wd fr tt) (fun _ => canon .f32 0) xs) (cl ys)) := by
  rcases hv : validB wd hi xs ys with _ | _
  · skip
    refine Calls.mono ?_ (fun e w9 h9 => gave_no (by unfold chanB; rw [hv]; rfl) h9)
    have H_v := Lib.hid hv; clear hv
    have X := Blk.new w #[.int .i64 wd, .int .i64 hi, .bool wb, .slice a xs.length ca, .slice b ys.length cb] 29
    have F := Blk.new1 w (.cells #[.int .i64 wd, .int .i64 hi, .bool wb, .slice a xs.length ca, .slice b ys.length cb] 29) #[.int .i64 fr] 2
    replace X := X.alloc (.cells #[.int .i64 fr] 2)
    have G := Blk.new2 w (.cells #[.int .i64 wd, .int .i64 hi, .bool wb, .slice a xs.length ca, .slice b ys.length cb] 29) (.cells #[.int .i64 fr] 2) #[.int .i64 tt] 2
    replace X := X.alloc (.cells #[.int .i64 tt] 2)
    replace F := F.alloc (.cells #[.int .i64 tt] 2)
    have R := Blk.new3 w (.cells #[.int .i64 wd, .int .i64 hi, .bool wb, .slice a xs.length ca, .slice b ys.length cb] 29) (.cells #[.int .i64 fr] 2) (.cells #[.int .i64 tt] 2) #[.int .i64 0, .int .i64 0, .bool false, .slice none 0 0, .slice none 0 0] 29
    replace X := X.alloc (.cells #[.int .i64 0, .int .i64 0, .bool false, .slice none 0 0, .slice none 0 0] 29)
    replace F := F.alloc (.cells #[.int .i64 0, .int .i64 0, .bool false, .slice none 0 0, .slice none 0 0] 29)
    replace G := G.alloc (.cells #[.int .i64 0, .int .i64 0, .bool false, .slice none 0 0, .slice none 0 0] 29)
    have HB : Hid (Below w.heap.size w ((((w.alloc (.cells #[.int .i64 wd, .int .i64 hi, .bool wb, .slice a xs.length ca, .slice b ys.length cb] 29)).alloc (.cells #[.int .i64 fr] 2)).alloc (.cells #[.int .i64 tt] 2)).alloc (.cells #[.int .i64 0, .int .i64 0, .bool false, .slice none 0 0, .slice none 0 0] 29))) := Lib.hid (((((Below.refl w.heap.size w).alloc (by simp <;> omega) _).alloc (by simp <;> omega) _).alloc (by simp <;> omega) _).alloc (by simp <;> omega) _)
    go_enter Try.func44, Try.ntmps44
    go_wp2_with fail
    generalize ((((w.alloc (.cells #[.int .i64 wd, .int .i64 hi, .bool wb, .slice a xs.length ca, .slice b ys.length cb] 29)).alloc (.cells #[.int .i64 fr] 2)).alloc (.cells #[.int .i64 tt] 2)).alloc (.cells #[.int .i64 0, .int .i64 0, .bool false, .slice none 0 0, .slice none 0 0] 29)) = u1 at *
    obtain ⟨Xc, Xf⟩ := X.open
    refine (implShapeOf _ _ _ _ _ _ _ _ _ _).mono ?_
    rintro r u2 ⟨rfl, q⟩
    clear Xc Xf
    replace X := X.later q
    replace F := F.later q
    replace G := G.later q
    replace R := R.later q
    replace HB := Lib.hid (HB.out.trans (q.mono HB.out.size))
    clear q
    have H := Blk.new u2 #[.int .i64 wd, .int .i64 hi, .bool wb] 82
    have q := below_new u2 (.cells #[.int .i64 wd, .int .i64 hi, .bool wb] 82)
    replace X := X.later q
    replace F := F.later q
    replace G := G.later q
    replace R := R.later q
    replace HB := Lib.hid (HB.out.trans (q.mono HB.out.size))
    clear q
    obtain ⟨Xc, Xf⟩ := X.open
    go_wp2_with fail
    generalize (u2.alloc (.cells #[.int .i64 wd, .int .i64 hi, .bool wb] 82)) = u3 at *
    refine (implValidSheet _ _ _ _ _ _ _ _ _ _ (ha.later HB.out) (hb.later HB.out) hx hy).mono ?_
    rintro r u4 ⟨rfl, q⟩
    clear Xc Xf
    replace X := X.later q
    replace F := F.later q
    replace G := G.later q
    replace R := R.later q
    replace H := H.later q
    replace HB := Lib.hid (HB.out.trans (q.mono HB.out.size))
    clear q
    rw [H_v.out]
    obtain ⟨Rc, Rf⟩ := R.open
    go_wp2
    refine bodyPost_ret (v := .tuple #[.agg #[.int .i64 0, .int .i64 0, .bool false, .slice none 0 0, .slice none 0 0], .bool false]) (by simp [results, Try.results44, go_sem, Rc]) rfl ⟨none, none, 0, 0, [], [], rfl, GotSheet.none (((((HB.out.setCell (p := ⟨w.heap.size + 1 + 1 + 1, 0, none⟩) (by first | omega | (simp <;> omega)) _).setCell (p := ⟨w.heap.size + 1 + 1 + 1, 1, none⟩) (by first | omega | (simp <;> omega)) _).setCell (p := ⟨w.heap.size + 1 + 1 + 1, 2, none⟩) (by first | omega | (simp <;> omega)) _).setCell (p := ⟨w.heap.size + 1 + 1 + 1, 3, none⟩) (by first | omega | (simp <;> omega)) _).setCell (p := ⟨w.heap.size + 1 + 1 + 1, 4, none⟩) (by first | omega | (simp <;> omega)) _)⟩
  have HB0 : Hid (chanB wd hi xs ys fr tt = decide (0 ≤ fr ∧ fr ≤ tt ∧ tt < hi)) := Lib.hid (by unfold chanB; rw [hv]; rfl)
  obtain ⟨s1, s2, s3, s4, hm2, lx, ly⟩ := valid_parts hv
  obtain ⟨t1, t2⟩ := (sides_mul (valid_sides hv)).2.2.2.2
  obtain ⟨n, hn⟩ := Int.eq_ofNat_of_zero_le (show 0 ≤ wd * hi by omega)
  have hxn : xs.length = n := by omega
  have hyn : ys.length = n := by omega
  have n256 : n ≤ 256 := by omega
  have n0 : 0 < n := by omega
  obtain ⟨ba, oa, rfl, hz0⟩ := ha 0 _ (fvals_get (show 0 < xs.length by omega)); clear hz0
  obtain ⟨bb, ob, rfl, hz1⟩ := hb 0 _ (fvals_get (show 0 < ys.length by omega)); clear hz1
  have CV : ∀ u, Below w.heap.size w u → Calls Try.prog 62 #[.agg #[.int .i64 wd, .int .i64 hi, .bool wb, .slice (some ⟨ba, oa, none⟩) n ca, .slice (some ⟨bb, ob, none⟩) n cb]] u fun e w' => e = .returned (.bool true) ∧ Below u.heap.size u w' := fun u hu => by
    have := implValidSheet wd hi wb _ _ ca cb xs ys u (ha.later hu) (hb.later hu) hx hy
    rw [hxn, hyn, hv] at this; exact this
  have HCV := Lib.hid CV; clear CV
  rw [hxn, hyn]
  have HN := Lib.hid hn; have HX := Lib.hid hxn; have HY := Lib.hid hyn; clear hn hxn hyn hv lx ly t1 t2
  rcases h0 : decide (0 ≤ fr ∧ fr < hi) with _ | _
  · skip
    refine Calls.mono ?_ (fun e w9 h9 => gave_no (by rw [HB0.out]; simp at *; omega) h9)
    have H0 := Lib.hid h0; clear h0
    have X := Blk.new w #[.int .i64 wd, .int .i64 hi, .bool wb, .slice (some ⟨ba, oa, none⟩) n ca, .slice (some ⟨bb, ob, none⟩) n cb] 29
    have F := Blk.new1 w (.cells #[.int .i64 wd, .int .i64 hi, .bool wb, .slice (some ⟨ba, oa, none⟩) n ca, .slice (some ⟨bb, ob, none⟩) n cb] 29) #[.int .i64 fr] 2
    replace X := X.alloc (.cells #[.int .i64 fr] 2)
    have G := Blk.new2 w (.cells #[.int .i64 wd, .int .i64 hi, .bool wb, .slice (some ⟨ba, oa, none⟩) n ca, .slice (some ⟨bb, ob, none⟩) n cb] 29) (.cells #[.int .i64 fr] 2) #[.int .i64 tt] 2
    replace X := X.alloc (.cells #[.int .i64 tt] 2)
    replace F := F.alloc (.cells #[.int .i64 tt] 2)
    have R := Blk.new3 w (.cells #[.int .i64 wd, .int .i64 hi, .bool wb, .slice (some ⟨ba, oa, none⟩) n ca, .slice (some ⟨bb, ob, none⟩) n cb] 29) (.cells #[.int .i64 fr] 2) (.cells #[.int .i64 tt] 2) #[.int .i64 0, .int .i64 0, .bool false, .slice none 0 0, .slice none 0 0] 29
    replace X := X.alloc (.cells #[.int .i64 0, .int .i64 0, .bool false, .slice none 0 0, .slice none 0 0] 29)
    replace F := F.alloc (.cells #[.int .i64 0, .int .i64 0, .bool false, .slice none 0 0, .slice none 0 0] 29)
    replace G := G.alloc (.cells #[.int .i64 0, .int .i64 0, .bool false, .slice none 0 0, .slice none 0 0] 29)
    have HB : Hid (Below w.heap.size w ((((w.alloc (.cells #[.int .i64 wd, .int .i64 hi, .bool wb, .slice (some ⟨ba, oa, none⟩) n ca, .slice (some ⟨bb, ob, none⟩) n cb] 29)).alloc (.cells #[.int .i64 fr] 2)).alloc (.cells #[.int .i64 tt] 2)).alloc (.cells #[.int .i64 0, .int .i64 0, .bool false, .slice none 0 0, .slice none 0 0] 29))) := Lib.hid (((((Below.refl w.heap.size w).alloc (by simp <;> omega) _).alloc (by simp <;> omega) _).alloc (by simp <;> omega) _).alloc (by simp <;> omega) _)
    go_enter Try.func44, Try.ntmps44
    go_wp2_with fail
    generalize ((((w.alloc (.cells #[.int .i64 wd, .int .i64 hi, .bool wb, .slice (some ⟨ba, oa, none⟩) n ca, .slice (some ⟨bb, ob, none⟩) n cb] 29)).alloc (.cells #[.int .i64 fr] 2)).alloc (.cells #[.int .i64 tt] 2)).alloc (.cells #[.int .i64 0, .int .i64 0, .bool false, .slice none 0 0, .slice none 0 0] 29)) = u1 at *
    obtain ⟨Xc, Xf⟩ := X.open
    refine (implShapeOf _ _ _ _ _ _ _ _ _ _).mono ?_
    rintro r u2 ⟨rfl, q⟩
    clear Xc Xf
    replace X := X.later q
    replace F := F.later q
    replace G := G.later q
    replace R := R.later q
    replace HB := Lib.hid (HB.out.trans (q.mono HB.out.size))
    clear q
    have H := Blk.new u2 #[.int .i64 wd, .int .i64 hi, .bool wb] 82
    have q := below_new u2 (.cells #[.int .i64 wd, .int .i64 hi, .bool wb] 82)
    replace X := X.later q
    replace F := F.later q
    replace G := G.later q
    replace R := R.later q
    replace HB := Lib.hid (HB.out.trans (q.mono HB.out.size))
    clear q
    obtain ⟨Xc, Xf⟩ := X.open
    go_wp2_with fail
    generalize (u2.alloc (.cells #[.int .i64 wd, .int .i64 hi, .bool wb] 82)) = u3 at *
    refine (HCV.out _ HB.out).mono ?_
    rintro r u4 ⟨rfl, q⟩
    clear Xc Xf
    replace X := X.later q
    replace F := F.later q
    replace G := G.later q
    replace R := R.later q
    replace H := H.later q
    replace HB := Lib.hid (HB.out.trans (q.mono HB.out.size))
    clear q
    obtain ⟨Hc, Hf⟩ := H.open
    obtain ⟨Fc, Ff⟩ := F.open
    go_wp2_with fail
    refine (implHasRow _ _ _ _ _).mono ?_
    rintro r u5 ⟨rfl, q⟩
    clear Hc Hf
    clear Fc Ff
    replace X := X.later q
    replace F := F.later q
    replace G := G.later q
    replace R := R.later q
    replace H := H.later q
    replace HB := Lib.hid (HB.out.trans (q.mono HB.out.size))
    clear q
    rw [H0.out]
    obtain ⟨Rc, Rf⟩ := R.open
    go_wp2
    refine bodyPost_ret (v := .tuple #[.agg #[.int .i64 0, .int .i64 0, .bool false, .slice none 0 0, .slice none 0 0], .bool false]) (by simp [results, Try.results44, go_sem, Rc]) rfl ⟨none, none, 0, 0, [], [], rfl, GotSheet.none (((((HB.out.setCell (p := ⟨w.heap.size + 1 + 1 + 1, 0, none⟩) (by first | omega | (simp <;> omega)) _).setCell (p := ⟨w.heap.size + 1 + 1 + 1, 1, none⟩) (by first | omega | (simp <;> omega)) _).setCell (p := ⟨w.heap.size + 1 + 1 + 1, 2, none⟩) (by first | omega | (simp <;> omega)) _).setCell (p := ⟨w.heap.size + 1 + 1 + 1, 3, none⟩) (by first | omega | (simp <;> omega)) _).setCell (p := ⟨w.heap.size + 1 + 1 + 1, 4, none⟩) (by first | omega | (simp <;> omega)) _)⟩
  rcases h1 : decide (0 ≤ tt ∧ tt < hi) with _ | _
  · skip
    refine Calls.mono ?_ (fun e w9 h9 => gave_no (by rw [HB0.out]; simp at *; omega) h9)
    have H0 := Lib.hid h0; clear h0; have H1 := Lib.hid h1; clear h1
    have X := Blk.new w #[.int .i64 wd, .int .i64 hi, .bool wb, .slice (some ⟨ba, oa, none⟩) n ca, .slice (some ⟨bb, ob, none⟩) n cb] 29
    have F := Blk.new1 w (.cells #[.int .i64 wd, .int .i64 hi, .bool wb, .slice (some ⟨ba, oa, none⟩) n ca, .slice (some ⟨bb, ob, none⟩) n cb] 29) #[.int .i64 fr] 2
    replace X := X.alloc (.cells #[.int .i64 fr] 2)
    have G := Blk.new2 w (.cells #[.int .i64 wd, .int .i64 hi, .bool wb, .slice (some ⟨ba, oa, none⟩) n ca, .slice (some ⟨bb, ob, none⟩) n cb] 29) (.cells #[.int .i64 fr] 2) #[.int .i64 tt] 2
    replace X := X.alloc (.cells #[.int .i64 tt] 2)
    replace F := F.alloc (.cells #[.int .i64 tt] 2)
    have R := Blk.new3 w (.cells #[.int .i64 wd, .int .i64 hi, .bool wb, .slice (some ⟨ba, oa, none⟩) n ca, .slice (some ⟨bb, ob, none⟩) n cb] 29) (.cells #[.int .i64 fr] 2) (.cells #[.int .i64 tt] 2) #[.int .i64 0, .int .i64 0, .bool false, .slice none 0 0, .slice none 0 0] 29
    replace X := X.alloc (.cells #[.int .i64 0, .int .i64 0, .bool false, .slice none 0 0, .slice none 0 0] 29)
    replace F := F.alloc (.cells #[.int .i64 0, .int .i64 0, .bool false, .slice none 0 0, .slice none 0 0] 29)
    replace G := G.alloc (.cells #[.int .i64 0, .int .i64 0, .bool false, .slice none 0 0, .slice none 0 0] 29)
    have HB : Hid (Below w.heap.size w ((((w.alloc (.cells #[.int .i64 wd, .int .i64 hi, .bool wb, .slice (some ⟨ba, oa, none⟩) n ca, .slice (some ⟨bb, ob, none⟩) n cb] 29)).alloc (.cells #[.int .i64 fr] 2)).alloc (.cells #[.int .i64 tt] 2)).alloc (.cells #[.int .i64 0, .int .i64 0, .bool false, .slice none 0 0, .slice none 0 0] 29))) := Lib.hid (((((Below.refl w.heap.size w).alloc (by simp <;> omega) _).alloc (by simp <;> omega) _).alloc (by simp <;> omega) _).alloc (by simp <;> omega) _)
    go_enter Try.func44, Try.ntmps44
    go_wp2_with fail
    generalize ((((w.alloc (.cells #[.int .i64 wd, .int .i64 hi, .bool wb, .slice (some ⟨ba, oa, none⟩) n ca, .slice (some ⟨bb, ob, none⟩) n cb] 29)).alloc (.cells #[.int .i64 fr] 2)).alloc (.cells #[.int .i64 tt] 2)).alloc (.cells #[.int .i64 0, .int .i64 0, .bool false, .slice none 0 0, .slice none 0 0] 29)) = u1 at *
    obtain ⟨Xc, Xf⟩ := X.open
    refine (implShapeOf _ _ _ _ _ _ _ _ _ _).mono ?_
    rintro r u2 ⟨rfl, q⟩
    clear Xc Xf
    replace X := X.later q
    replace F := F.later q
    replace G := G.later q
    replace R := R.later q
    replace HB := Lib.hid (HB.out.trans (q.mono HB.out.size))
    clear q
    have H := Blk.new u2 #[.int .i64 wd, .int .i64 hi, .bool wb] 82
    have q := below_new u2 (.cells #[.int .i64 wd, .int .i64 hi, .bool wb] 82)
    replace X := X.later q
    replace F := F.later q
    replace G := G.later q
    replace R := R.later q
    replace HB := Lib.hid (HB.out.trans (q.mono HB.out.size))
    clear q
    obtain ⟨Xc, Xf⟩ := X.open
    go_wp2_with fail
    generalize (u2.alloc (.cells #[.int .i64 wd, .int .i64 hi, .bool wb] 82)) = u3 at *
    refine (HCV.out _ HB.out).mono ?_
    rintro r u4 ⟨rfl, q⟩
    clear Xc Xf
    replace X := X.later q
    replace F := F.later q
    replace G := G.later q
    replace R := R.later q
    replace H := H.later q
    replace HB := Lib.hid (HB.out.trans (q.mono HB.out.size))
    clear q
    obtain ⟨Hc, Hf⟩ := H.open
    obtain ⟨Fc, Ff⟩ := F.open
    go_wp2_with fail
    refine (implHasRow _ _ _ _ _).mono ?_
    rintro r u5 ⟨rfl, q⟩
    clear Hc Hf
    clear Fc Ff
    replace X := X.later q
    replace F := F.later q
    replace G := G.later q
    replace R := R.later q
    replace H := H.later q
    replace HB := Lib.hid (HB.out.trans (q.mono HB.out.size))
    clear q
    rw [H0.out]
    obtain ⟨Hc, Hf⟩ := H.open
    obtain ⟨Gc, Gf⟩ := G.open
    go_wp2_with fail
    refine (implHasRow _ _ _ _ _).mono ?_
    rintro r u6 ⟨rfl, q⟩
    clear Hc Hf
    clear Gc Gf
    replace X := X.later q
    replace F := F.later q
    replace G := G.later q
    replace R := R.later q
    replace H := H.later q
    replace HB := Lib.hid (HB.out.trans (q.mono HB.out.size))
    clear q
    rw [H1.out]
    obtain ⟨Rc, Rf⟩ := R.open
    go_wp2
    refine bodyPost_ret (v := .tuple #[.agg #[.int .i64 0, .int .i64 0, .bool false, .slice none 0 0, .slice none 0 0], .bool false]) (by simp [results, Try.results44, go_sem, Rc]) rfl ⟨none, none, 0, 0, [], [], rfl, GotSheet.none (((((HB.out.setCell (p := ⟨w.heap.size + 1 + 1 + 1, 0, none⟩) (by first | omega | (simp <;> omega)) _).setCell (p := ⟨w.heap.size + 1 + 1 + 1, 1, none⟩) (by first | omega | (simp <;> omega)) _).setCell (p := ⟨w.heap.size + 1 + 1 + 1, 2, none⟩) (by first | omega | (simp <;> omega)) _).setCell (p := ⟨w.heap.size + 1 + 1 + 1, 3, none⟩) (by first | omega | (simp <;> omega)) _).setCell (p := ⟨w.heap.size + 1 + 1 + 1, 4, none⟩) (by first | omega | (simp <;> omega)) _)⟩
  by_cases h2 : fr > tt
  · skip
    refine Calls.mono ?_ (fun e w9 h9 => gave_no (by rw [HB0.out]; simp at *; omega) h9)
    have H0 := Lib.hid h0; clear h0; have H1 := Lib.hid h1; clear h1; have d2 : decide (fr > tt) = true := decide_eq_true h2; clear h2
    have X := Blk.new w #[.int .i64 wd, .int .i64 hi, .bool wb, .slice (some ⟨ba, oa, none⟩) n ca, .slice (some ⟨bb, ob, none⟩) n cb] 29
    have F := Blk.new1 w (.cells #[.int .i64 wd, .int .i64 hi, .bool wb, .slice (some ⟨ba, oa, none⟩) n ca, .slice (some ⟨bb, ob, none⟩) n cb] 29) #[.int .i64 fr] 2
    replace X := X.alloc (.cells #[.int .i64 fr] 2)
    have G := Blk.new2 w (.cells #[.int .i64 wd, .int .i64 hi, .bool wb, .slice (some ⟨ba, oa, none⟩) n ca, .slice (some ⟨bb, ob, none⟩) n cb] 29) (.cells #[.int .i64 fr] 2) #[.int .i64 tt] 2
    replace X := X.alloc (.cells #[.int .i64 tt] 2)
    replace F := F.alloc (.cells #[.int .i64 tt] 2)
    have R := Blk.new3 w (.cells #[.int .i64 wd, .int .i64 hi, .bool wb, .slice (some ⟨ba, oa, none⟩) n ca, .slice (some ⟨bb, ob, none⟩) n cb] 29) (.cells #[.int .i64 fr] 2) (.cells #[.int .i64 tt] 2) #[.int .i64 0, .int .i64 0, .bool false, .slice none 0 0, .slice none 0 0] 29
    replace X := X.alloc (.cells #[.int .i64 0, .int .i64 0, .bool false, .slice none 0 0, .slice none 0 0] 29)
    replace F := F.alloc (.cells #[.int .i64 0, .int .i64 0, .bool false, .slice none 0 0, .slice none 0 0] 29)
    replace G := G.alloc (.cells #[.int .i64 0, .int .i64 0, .bool false, .slice none 0 0, .slice none 0 0] 29)
    have HB : Hid (Below w.heap.size w ((((w.alloc (.cells #[.int .i64 wd, .int .i64 hi, .bool wb, .slice (some ⟨ba, oa, none⟩) n ca, .slice (some ⟨bb, ob, none⟩) n cb] 29)).alloc (.cells #[.int .i64 fr] 2)).alloc (.cells #[.int .i64 tt] 2)).alloc (.cells #[.int .i64 0, .int .i64 0, .bool false, .slice none 0 0, .slice none 0 0] 29))) := Lib.hid (((((Below.refl w.heap.size w).alloc (by simp <;> omega) _).alloc (by simp <;> omega) _).alloc (by simp <;> omega) _).alloc (by simp <;> omega) _)
    go_enter Try.func44, Try.ntmps44
    go_wp2_with fail
    generalize ((((w.alloc (.cells #[.int .i64 wd, .int .i64 hi, .bool wb, .slice (some ⟨ba, oa, none⟩) n ca, .slice (some ⟨bb, ob, none⟩) n cb] 29)).alloc (.cells #[.int .i64 fr] 2)).alloc (.cells #[.int .i64 tt] 2)).alloc (.cells #[.int .i64 0, .int .i64 0, .bool false, .slice none 0 0, .slice none 0 0] 29)) = u1 at *
    obtain ⟨Xc, Xf⟩ := X.open
    refine (implShapeOf _ _ _ _ _ _ _ _ _ _).mono ?_
    rintro r u2 ⟨rfl, q⟩
    clear Xc Xf
    replace X := X.later q
    replace F := F.later q
    replace G := G.later q
    replace R := R.later q
    replace HB := Lib.hid (HB.out.trans (q.mono HB.out.size))
    clear q
    have H := Blk.new u2 #[.int .i64 wd, .int .i64 hi, .bool wb] 82
    have q := below_new u2 (.cells #[.int .i64 wd, .int .i64 hi, .bool wb] 82)
    replace X := X.later q
    replace F := F.later q
    replace G := G.later q
    replace R := R.later q
    replace HB := Lib.hid (HB.out.trans (q.mono HB.out.size))
    clear q
    obtain ⟨Xc, Xf⟩ := X.open
    go_wp2_with fail
    generalize (u2.alloc (.cells #[.int .i64 wd, .int .i64 hi, .bool wb] 82)) = u3 at *
    refine (HCV.out _ HB.out).mono ?_
    rintro r u4 ⟨rfl, q⟩
    clear Xc Xf
    replace X := X.later q
    replace F := F.later q
    replace G := G.later q
    replace R := R.later q
    replace H := H.later q
    replace HB := Lib.hid (HB.out.trans (q.mono HB.out.size))
    clear q
    obtain ⟨Hc, Hf⟩ := H.open
    obtain ⟨Fc, Ff⟩ := F.open
    go_wp2_with fail
    refine (implHasRow _ _ _ _ _).mono ?_
    rintro r u5 ⟨rfl, q⟩
    clear Hc Hf
    clear Fc Ff
    replace X := X.later q
    replace F := F.later q
    replace G := G.later q
    replace R := R.later q
    replace H := H.later q
    replace HB := Lib.hid (HB.out.trans (q.mono HB.out.size))
    clear q
    rw [H0.out]
    obtain ⟨Hc, Hf⟩ := H.open
    obtain ⟨Gc, Gf⟩ := G.open
    go_wp2_with fail
    refine (implHasRow _ _ _ _ _).mono ?_
    rintro r u6 ⟨rfl, q⟩
    clear Hc Hf
    clear Gc Gf
    replace X := X.later q
    replace F := F.later q
    replace G := G.later q
    replace R := R.later q
    replace H := H.later q
    replace HB := Lib.hid (HB.out.trans (q.mono HB.out.size))
    clear q
    rw [H1.out]
    obtain ⟨Fc, Ff⟩ := F.open
    obtain ⟨Gc, Gf⟩ := G.open
    obtain ⟨Rc, Rf⟩ := R.open
    go_wp2
    refine bodyPost_ret (v := .tuple #[.agg #[.int .i64 0, .int .i64 0, .bool false, .slice none 0 0, .slice none 0 0], .bool false]) (by simp [results, Try.results44, go_sem, Rc]) rfl ⟨none, none, 0, 0, [], [], rfl, GotSheet.none (((((HB.out.setCell (p := ⟨w.heap.size + 1 + 1 + 1, 0, none⟩) (by first | omega | (simp <;> omega)) _).setCell (p := ⟨w.heap.size + 1 + 1 + 1, 1, none⟩) (by first | omega | (simp <;> omega)) _).setCell (p := ⟨w.heap.size + 1 + 1 + 1, 2, none⟩) (by first | omega | (simp <;> omega)) _).setCell (p := ⟨w.heap.size + 1 + 1 + 1, 3, none⟩) (by first | omega | (simp <;> omega)) _).setCell (p := ⟨w.heap.size + 1 + 1 + 1, 4, none⟩) (by first | omega | (simp <;> omega)) _)⟩
  have HBT : Hid (chanB wd hi xs ys fr tt = true) := Lib.hid (by rw [HB0.out]; simp at *; omega)
  have H0 := Lib.hid h0; clear h0; have H1 := Lib.hid h1; clear h1; have d2 : decide (fr > tt) = false := decide_eq_false h2; clear h2
  have X := Blk.new w #[.int .i64 wd, .int .i64 hi, .bool wb, .slice (some ⟨ba, oa, none⟩) n ca, .slice (some ⟨bb, ob, none⟩) n cb] 29
  have F := Blk.new1 w (.cells #[.int .i64 wd, .int .i64 hi, .bool wb, .slice (some ⟨ba, oa, none⟩) n ca, .slice (some ⟨bb, ob, none⟩) n cb] 29) #[.int .i64 fr] 2
  replace X := X.alloc (.cells #[.int .i64 fr] 2)
  have G := Blk.new2 w (.cells #[.int .i64 wd, .int .i64 hi, .bool wb, .slice (some ⟨ba, oa, none⟩) n ca, .slice (some ⟨bb, ob, none⟩) n cb] 29) (.cells #[.int .i64 fr] 2) #[.int .i64 tt] 2
  replace X := X.alloc (.cells #[.int .i64 tt] 2)
  replace F := F.alloc (.cells #[.int .i64 tt] 2)
  have R := Blk.new3 w (.cells #[.int .i64 wd, .int .i64 hi, .bool wb, .slice (some ⟨ba, oa, none⟩) n ca, .slice (some ⟨bb, ob, none⟩) n cb] 29) (.cells #[.int .i64 fr] 2) (.cells #[.int .i64 tt] 2) #[.int .i64 0, .int .i64 0, .bool false, .slice none 0 0, .slice none 0 0] 29
  replace X := X.alloc (.cells #[.int .i64 0, .int .i64 0, .bool false, .slice none 0 0, .slice none 0 0] 29)
  replace F := F.alloc (.cells #[.int .i64 0, .int .i64 0, .bool false, .slice none 0 0, .slice none 0 0] 29)
  replace G := G.alloc (.cells #[.int .i64 0, .int .i64 0, .bool false, .slice none 0 0, .slice none 0 0] 29)
  have HB : Hid (Below w.heap.size w ((((w.alloc (.cells #[.int .i64 wd, .int .i64 hi, .bool wb, .slice (some ⟨ba, oa, none⟩) n ca, .slice (some ⟨bb, ob, none⟩) n cb] 29)).alloc (.cells #[.int .i64 fr] 2)).alloc (.cells #[.int .i64 tt] 2)).alloc (.cells #[.int .i64 0, .int .i64 0, .bool false, .slice none 0 0, .slice none 0 0] 29))) := Lib.hid (((((Below.refl w.heap.size w).alloc (by simp <;> omega) _).alloc (by simp <;> omega) _).alloc (by simp <;> omega) _).alloc (by simp <;> omega) _)
  go_enter Try.func44, Try.ntmps44
  go_wp2_with fail
  generalize ((((w.alloc (.cells #[.int .i64 wd, .int .i64 hi, .bool wb, .slice (some ⟨ba, oa, none⟩) n ca, .slice (some ⟨bb, ob, none⟩) n cb] 29)).alloc (.cells #[.int .i64 fr] 2)).alloc (.cells #[.int .i64 tt] 2)).alloc (.cells #[.int .i64 0, .int .i64 0, .bool false, .slice none 0 0, .slice none 0 0] 29)) = u1 at *
  obtain ⟨Xc, Xf⟩ := X.open
  refine (implShapeOf _ _ _ _ _ _ _ _ _ _).mono ?_
  rintro r u2 ⟨rfl, q⟩
  clear Xc Xf
  replace X := X.later q
  replace F := F.later q
  replace G := G.later q
  replace R := R.later q
  replace HB := Lib.hid (HB.out.trans (q.mono HB.out.size))
  clear q
  have H := Blk.new u2 #[.int .i64 wd, .int .i64 hi, .bool wb] 82
  have q := below_new u2 (.cells #[.int .i64 wd, .int .i64 hi, .bool wb] 82)
  replace X := X.later q
  replace F := F.later q
  replace G := G.later q
  replace R := R.later q
  replace HB := Lib.hid (HB.out.trans (q.mono HB.out.size))
  clear q
  obtain ⟨Xc, Xf⟩ := X.open
  go_wp2_with fail
  generalize (u2.alloc (.cells #[.int .i64 wd, .int .i64 hi, .bool wb] 82)) = u3 at *
  refine (HCV.out _ HB.out).mono ?_
  rintro r u4 ⟨rfl, q⟩
  clear Xc Xf
  replace X := X.later q
  replace F := F.later q
  replace G := G.later q
  replace R := R.later q
  replace H := H.later q
  replace HB := Lib.hid (HB.out.trans (q.mono HB.out.size))
  clear q
  obtain ⟨Hc, Hf⟩ := H.open
  obtain ⟨Fc, Ff⟩ := F.open
  go_wp2_with fail
  refine (implHasRow _ _ _ _ _).mono ?_
  rintro r u5 ⟨rfl, q⟩
  clear Hc Hf
  clear Fc Ff
  replace X := X.later q
  replace F := F.later q
  replace G := G.later q
  replace R := R.later q
  replace H := H.later q
  replace HB := Lib.hid (HB.out.trans (q.mono HB.out.size))
  clear q
  rw [H0.out]
  obtain ⟨Hc, Hf⟩ := H.open
  obtain ⟨Gc, Gf⟩ := G.open
  go_wp2_with fail
  refine (implHasRow _ _ _ _ _).mono ?_
  rintro r u6 ⟨rfl, q⟩
  clear Hc Hf
  clear Gc Gf
  replace X := X.later q
  replace F := F.later q
  replace G := G.later q
  replace R := R.later q
  replace H := H.later q
  replace HB := Lib.hid (HB.out.trans (q.mono HB.out.size))
  clear q
  rw [H1.out]
  obtain ⟨Fc, Ff⟩ := F.open
  obtain ⟨Gc, Gf⟩ := G.open
  obtain ⟨Xc, Xf⟩ := X.open
  go_wp2_with fail
  have HF := Lib.hid F; have HG := Lib.hid G; have HBC := HB; have szr := R.lt
  refine (implStilled wd hi wb ba oa ca bb ob cb n xs ys 99 #[] #[.pointer (some ⟨w.heap.size + 1, 0, none⟩), .pointer (some ⟨w.heap.size + 1 + 1, 0, none⟩)] (chanP wd fr tt) _ (ha.later HB.out) (hb.later HB.out) qa HX.out HY.out s1 s2 n0 n256 (by exact ⟨_, rfl, by kernel_rfl, by kernel_rfl⟩) (fun i _ w' hw' => implChan1 _ _ fr tt ((i : Int) % wd) ((i : Int) / wd) w' (HF.out.later hw') (HG.out.later hw'))).mono ?_
  have sz := HB.out.size
  rintro r u7 ⟨g0, g1, c0, c1, L, rfl, o0, o1, hL, hI, ne, q⟩
  have HI := Lib.hid hI; have HL := Lib.hid hL; clear hI hL HF HG HBC
  have y0 := o0.bound g0 rfl; have y1 := o1.bound g1 rfl
  clear Fc Ff
  clear Gc Gf
  clear Xc Xf
  replace X := X.later q
  replace F := F.later q
  replace G := G.later q
  replace R := R.later q
  replace H := H.later q
  replace HB := Lib.hid (HB.out.trans (q.mono HB.out.size))
  clear q
  obtain ⟨Rc, Rf⟩ := R.open
  have O0 := Lib.hid o0; have O1 := Lib.hid o1; clear o0 o1
  go_wp2
  refine bodyPost_ret (v := .tuple #[.agg #[.int .i64 wd, .int .i64 hi, .bool wb, .slice (some ⟨g0, 0, none⟩) n c0, .slice (some ⟨g1, 0, none⟩) n c1], .bool true]) (by simp [results, Try.results44, go_sem, Rc]) rfl (gave_yes HBT.out HL.out HY.out ⟨((((((O0.out.lower (show w.heap.size ≤ _ by omega)).set (p := ⟨w.heap.size + 1 + 1 + 1, 0, none⟩) (ne_block (h := w.heap.size + 1 + 1 + 1) (by omega)) _).set (p := ⟨w.heap.size + 1 + 1 + 1, 1, none⟩) (ne_block (h := w.heap.size + 1 + 1 + 1) (by omega)) _).set (p := ⟨w.heap.size + 1 + 1 + 1, 2, none⟩) (ne_block (h := w.heap.size + 1 + 1 + 1) (by omega)) _).set (p := ⟨w.heap.size + 1 + 1 + 1, 3, none⟩) (ne_block (h := w.heap.size + 1 + 1 + 1) (by omega)) _).set (p := ⟨w.heap.size + 1 + 1 + 1, 4, none⟩) (ne_block (h := w.heap.size + 1 + 1 + 1) (by omega)) _), ((((((O1.out.lower (show w.heap.size ≤ _ by omega)).set (p := ⟨w.heap.size + 1 + 1 + 1, 0, none⟩) (ne_block (h := w.heap.size + 1 + 1 + 1) (by omega)) _).set (p := ⟨w.heap.size + 1 + 1 + 1, 1, none⟩) (ne_block (h := w.heap.size + 1 + 1 + 1) (by omega)) _).set (p := ⟨w.heap.size + 1 + 1 + 1, 2, none⟩) (ne_block (h := w.heap.size + 1 + 1 + 1) (by omega)) _).set (p := ⟨w.heap.size + 1 + 1 + 1, 3, none⟩) (ne_block (h := w.heap.size + 1 + 1 + 1) (by omega)) _).set (p := ⟨w.heap.size + 1 + 1 + 1, 4, none⟩) (ne_block (h := w.heap.size + 1 + 1 + 1) (by omega)) _), apart_ne ne, HI.out, Is.refl qb (by rw [HY.out]; exact n256), (((((HB.out.setCell (p := ⟨w.heap.size + 1 + 1 + 1, 0, none⟩) (by first | omega | (simp <;> omega)) _).setCell (p := ⟨w.heap.size + 1 + 1 + 1, 1, none⟩) (by first | omega | (simp <;> omega)) _).setCell (p := ⟨w.heap.size + 1 + 1 + 1, 2, none⟩) (by first | omega | (simp <;> omega)) _).setCell (p := ⟨w.heap.size + 1 + 1 + 1, 3, none⟩) (by first | omega | (simp <;> omega)) _).setCell (p := ⟨w.heap.size + 1 + 1 + 1, 4, none⟩) (by first | omega | (simp <;> omega)) _)⟩)

set_option maxHeartbeats 8000000 in
set_option maxRecDepth 100000 in
theorem specChannelSheetL (wd hi : Int) (wb : Bool) (a b : Option Addr) (ca cb : Nat) (xs ys : List Nat) (fr tt : Int) (w : World) (ha : RowV w a (fvals xs)) (hb : RowV w b (fvals ys)) (qa : ∀ z ∈ xs, z < 2 ^ 32) (qb : ∀ z ∈ ys, z < 2 ^ 32) (hx : xs.length ≤ maxLen) (hy : ys.length ≤ maxLen) (w1 : (Lit.int .i64 fr).wf = true) (w2 : (Lit.int .i64 tt).wf = true) :
    Calls Try.prog 43 #[.agg #[.int .i64 wd, .int .i64 hi, .bool wb, .slice a xs.length ca, .slice b ys.length cb], .int .i64 fr, .int .i64 tt] w (HasSh w (chanB wd hi xs ys fr tt) wd hi wb (chgC (chanP wd fr tt) (fun _ => canon .f32 0) xs) (cl ys)) := by
  rcases hv : validB wd hi xs ys with _ | _
  · skip
    refine Calls.mono ?_ (fun e w9 h9 => has_no (by unfold chanB; rw [hv]; rfl) h9)
    have H_v := Lib.hid hv; clear hv
    have X := Blk.new w #[.int .i64 wd, .int .i64 hi, .bool wb, .slice a xs.length ca, .slice b ys.length cb] 29
    have R := Blk.new1 w (.cells #[.int .i64 wd, .int .i64 hi, .bool wb, .slice a xs.length ca, .slice b ys.length cb] 29) #[.int .i64 0, .int .i64 0, .bool false, .slice none 0 0, .slice none 0 0] 29
    replace X := X.alloc (.cells #[.int .i64 0, .int .i64 0, .bool false, .slice none 0 0, .slice none 0 0] 29)
    have HB : Hid (Below w.heap.size w ((w.alloc (.cells #[.int .i64 wd, .int .i64 hi, .bool wb, .slice a xs.length ca, .slice b ys.length cb] 29)).alloc (.cells #[.int .i64 0, .int .i64 0, .bool false, .slice none 0 0, .slice none 0 0] 29))) := Lib.hid (((Below.refl w.heap.size w).alloc (by simp <;> omega) _).alloc (by simp <;> omega) _)
    go_enter Try.func43, Try.ntmps43
    go_wp2_with fail
    generalize ((w.alloc (.cells #[.int .i64 wd, .int .i64 hi, .bool wb, .slice a xs.length ca, .slice b ys.length cb] 29)).alloc (.cells #[.int .i64 0, .int .i64 0, .bool false, .slice none 0 0, .slice none 0 0] 29)) = u1 at *
    refine (specIs _ _ _ _ _ _ _ _ _ _ _ X (ha.later HB.out) (hb.later HB.out) hx hy).mono ?_
    rintro r u2 ⟨rfl, nq, hw⟩
    have q : Below u1.heap.size u1 u2 := by rw [hw]; exact below_drewN (Below.refl _ _) _
    clear hw
    replace X := X.later q
    replace R := R.later q
    replace HB := Lib.hid (HB.out.trans (q.mono HB.out.size))
    clear q
    rw [H_v.out]
    obtain ⟨Rc, Rf⟩ := R.open
    go_wp2
    refine bodyPost_ret (v := .tuple #[.agg #[.int .i64 0, .int .i64 0, .bool false, .slice none 0 0, .slice none 0 0], .bool false]) (by simp [results, Try.results43, go_sem, Rc]) rfl ⟨none, none, 0, 0, [], [], rfl, HasSheet.none (((((HB.out.setCell (p := ⟨w.heap.size + 1, 0, none⟩) (by first | omega | (simp <;> omega)) _).setCell (p := ⟨w.heap.size + 1, 1, none⟩) (by first | omega | (simp <;> omega)) _).setCell (p := ⟨w.heap.size + 1, 2, none⟩) (by first | omega | (simp <;> omega)) _).setCell (p := ⟨w.heap.size + 1, 3, none⟩) (by first | omega | (simp <;> omega)) _).setCell (p := ⟨w.heap.size + 1, 4, none⟩) (by first | omega | (simp <;> omega)) _)⟩
  have HB0 : Hid (chanB wd hi xs ys fr tt = decide (0 ≤ fr ∧ fr ≤ tt ∧ tt < hi)) := Lib.hid (by unfold chanB; rw [hv]; rfl)
  obtain ⟨s1, s2, s3, s4, hm2, lx, ly⟩ := valid_parts hv
  obtain ⟨t1, t2⟩ := (sides_mul (valid_sides hv)).2.2.2.2
  obtain ⟨n, hn⟩ := Int.eq_ofNat_of_zero_le (show 0 ≤ wd * hi by omega)
  have hxn : xs.length = n := by omega
  have hyn : ys.length = n := by omega
  have n256 : n ≤ 256 := by omega
  have n0 : 0 < n := by omega
  obtain ⟨ba, oa, rfl, hz0⟩ := ha 0 _ (fvals_get (show 0 < xs.length by omega)); clear hz0
  obtain ⟨bb, ob, rfl, hz1⟩ := hb 0 _ (fvals_get (show 0 < ys.length by omega)); clear hz1
  have CV : ∀ u, Below w.heap.size w u → Blk u w.heap.size #[.int .i64 wd, .int .i64 hi, .bool wb, .slice (some ⟨ba, oa, none⟩) n ca, .slice (some ⟨bb, ob, none⟩) n cb] 29 → Calls Try.prog 56 #[.pointer (some ⟨w.heap.size, 0, none⟩)] u fun e w' => e = .returned (.bool true) ∧ Below u.heap.size u w' := fun u hu X => by
    have := specIs w.heap.size wd hi wb _ _ ca cb xs ys u (by rw [hxn, hyn]; exact X) (ha.later hu) (hb.later hu) hx hy
    rw [hv] at this
    exact this.mono fun e w' ⟨h, nq, hw⟩ => ⟨h, by rw [hw]; exact below_drewN (Below.refl _ _) _⟩
  have HCV := Lib.hid CV; clear CV
  rw [hxn, hyn]
  have HN := Lib.hid hn; have HX := Lib.hid hxn; have HY := Lib.hid hyn; clear hn hxn hyn hv lx ly t1 t2
  rcases h0 : decide (0 ≤ tt ∧ tt ≤ hi - 1) with _ | _
  · skip
    refine Calls.mono ?_ (fun e w9 h9 => has_no (by rw [HB0.out]; simp at *; omega) h9)
    have H0 := Lib.hid h0; clear h0
    have X := Blk.new w #[.int .i64 wd, .int .i64 hi, .bool wb, .slice (some ⟨ba, oa, none⟩) n ca, .slice (some ⟨bb, ob, none⟩) n cb] 29
    have R := Blk.new1 w (.cells #[.int .i64 wd, .int .i64 hi, .bool wb, .slice (some ⟨ba, oa, none⟩) n ca, .slice (some ⟨bb, ob, none⟩) n cb] 29) #[.int .i64 0, .int .i64 0, .bool false, .slice none 0 0, .slice none 0 0] 29
    replace X := X.alloc (.cells #[.int .i64 0, .int .i64 0, .bool false, .slice none 0 0, .slice none 0 0] 29)
    have HB : Hid (Below w.heap.size w ((w.alloc (.cells #[.int .i64 wd, .int .i64 hi, .bool wb, .slice (some ⟨ba, oa, none⟩) n ca, .slice (some ⟨bb, ob, none⟩) n cb] 29)).alloc (.cells #[.int .i64 0, .int .i64 0, .bool false, .slice none 0 0, .slice none 0 0] 29))) := Lib.hid (((Below.refl w.heap.size w).alloc (by simp <;> omega) _).alloc (by simp <;> omega) _)
    go_enter Try.func43, Try.ntmps43
    go_wp2_with fail
    generalize ((w.alloc (.cells #[.int .i64 wd, .int .i64 hi, .bool wb, .slice (some ⟨ba, oa, none⟩) n ca, .slice (some ⟨bb, ob, none⟩) n cb] 29)).alloc (.cells #[.int .i64 0, .int .i64 0, .bool false, .slice none 0 0, .slice none 0 0] 29)) = u1 at *
    refine (HCV.out _ HB.out X).mono ?_
    rintro r u2 ⟨rfl, q⟩
    replace X := X.later q
    replace R := R.later q
    replace HB := Lib.hid (HB.out.trans (q.mono HB.out.size))
    clear q
    obtain ⟨Xc, Xf⟩ := X.open
    go_wp2_with fail
    refine (l00In_any _ _ _ _).mono ?_
    rintro r w9 ⟨rfl, rfl⟩
    rw [H0.out]
    clear Xc Xf
    obtain ⟨Rc, Rf⟩ := R.open
    go_wp2
    refine bodyPost_ret (v := .tuple #[.agg #[.int .i64 0, .int .i64 0, .bool false, .slice none 0 0, .slice none 0 0], .bool false]) (by simp [results, Try.results43, go_sem, Rc]) rfl ⟨none, none, 0, 0, [], [], rfl, HasSheet.none (((((HB.out.setCell (p := ⟨w.heap.size + 1, 0, none⟩) (by first | omega | (simp <;> omega)) _).setCell (p := ⟨w.heap.size + 1, 1, none⟩) (by first | omega | (simp <;> omega)) _).setCell (p := ⟨w.heap.size + 1, 2, none⟩) (by first | omega | (simp <;> omega)) _).setCell (p := ⟨w.heap.size + 1, 3, none⟩) (by first | omega | (simp <;> omega)) _).setCell (p := ⟨w.heap.size + 1, 4, none⟩) (by first | omega | (simp <;> omega)) _)⟩
  rcases h1 : decide (0 ≤ fr ∧ fr ≤ tt) with _ | _
  · skip
    refine Calls.mono ?_ (fun e w9 h9 => has_no (by rw [HB0.out]; simp at *; omega) h9)
    have H0 := Lib.hid h0; clear h0; have H1 := Lib.hid h1; clear h1
    have X := Blk.new w #[.int .i64 wd, .int .i64 hi, .bool wb, .slice (some ⟨ba, oa, none⟩) n ca, .slice (some ⟨bb, ob, none⟩) n cb] 29
    have R := Blk.new1 w (.cells #[.int .i64 wd, .int .i64 hi, .bool wb, .slice (some ⟨ba, oa, none⟩) n ca, .slice (some ⟨bb, ob, none⟩) n cb] 29) #[.int .i64 0, .int .i64 0, .bool false, .slice none 0 0, .slice none 0 0] 29
    replace X := X.alloc (.cells #[.int .i64 0, .int .i64 0, .bool false, .slice none 0 0, .slice none 0 0] 29)
    have HB : Hid (Below w.heap.size w ((w.alloc (.cells #[.int .i64 wd, .int .i64 hi, .bool wb, .slice (some ⟨ba, oa, none⟩) n ca, .slice (some ⟨bb, ob, none⟩) n cb] 29)).alloc (.cells #[.int .i64 0, .int .i64 0, .bool false, .slice none 0 0, .slice none 0 0] 29))) := Lib.hid (((Below.refl w.heap.size w).alloc (by simp <;> omega) _).alloc (by simp <;> omega) _)
    go_enter Try.func43, Try.ntmps43
    go_wp2_with fail
    generalize ((w.alloc (.cells #[.int .i64 wd, .int .i64 hi, .bool wb, .slice (some ⟨ba, oa, none⟩) n ca, .slice (some ⟨bb, ob, none⟩) n cb] 29)).alloc (.cells #[.int .i64 0, .int .i64 0, .bool false, .slice none 0 0, .slice none 0 0] 29)) = u1 at *
    refine (HCV.out _ HB.out X).mono ?_
    rintro r u2 ⟨rfl, q⟩
    replace X := X.later q
    replace R := R.later q
    replace HB := Lib.hid (HB.out.trans (q.mono HB.out.size))
    clear q
    obtain ⟨Xc, Xf⟩ := X.open
    go_wp2_with fail
    refine (l00In_any _ _ _ _).mono ?_
    rintro r w9 ⟨rfl, rfl⟩
    rw [H0.out]
    clear Xc Xf
    obtain ⟨Xc, Xf⟩ := X.open
    go_wp2_with fail
    refine (l00In_any _ _ _ _).mono ?_
    rintro r w9 ⟨rfl, rfl⟩
    rw [H1.out]
    clear Xc Xf
    obtain ⟨Rc, Rf⟩ := R.open
    go_wp2
    refine bodyPost_ret (v := .tuple #[.agg #[.int .i64 0, .int .i64 0, .bool false, .slice none 0 0, .slice none 0 0], .bool false]) (by simp [results, Try.results43, go_sem, Rc]) rfl ⟨none, none, 0, 0, [], [], rfl, HasSheet.none (((((HB.out.setCell (p := ⟨w.heap.size + 1, 0, none⟩) (by first | omega | (simp <;> omega)) _).setCell (p := ⟨w.heap.size + 1, 1, none⟩) (by first | omega | (simp <;> omega)) _).setCell (p := ⟨w.heap.size + 1, 2, none⟩) (by first | omega | (simp <;> omega)) _).setCell (p := ⟨w.heap.size + 1, 3, none⟩) (by first | omega | (simp <;> omega)) _).setCell (p := ⟨w.heap.size + 1, 4, none⟩) (by first | omega | (simp <;> omega)) _)⟩
  have HBT : Hid (chanB wd hi xs ys fr tt = true) := Lib.hid (by rw [HB0.out]; simp at *; omega)
  have H0 := Lib.hid h0; clear h0; have H1 := Lib.hid h1; clear h1
  have HT : Hid (∀ L, ChgTo (chanP wd fr tt) (fun _ => canon .f32 0) xs n L → Is L (chgC (chanP wd fr tt) (fun _ => canon .f32 0) xs)) := Lib.hid (fun L h => h.all (by rw [HX.out]; exact Nat.le_refl _) (by rw [HX.out]; exact n256))
  have HST := Lib.hid (ChgTo.start (p := chanP wd fr tt) (G := fun _ => canon .f32 0) qa)
  have X := Blk.new w #[.int .i64 wd, .int .i64 hi, .bool wb, .slice (some ⟨ba, oa, none⟩) n ca, .slice (some ⟨bb, ob, none⟩) n cb] 29
  have R := Blk.new1 w (.cells #[.int .i64 wd, .int .i64 hi, .bool wb, .slice (some ⟨ba, oa, none⟩) n ca, .slice (some ⟨bb, ob, none⟩) n cb] 29) #[.int .i64 0, .int .i64 0, .bool false, .slice none 0 0, .slice none 0 0] 29
  replace X := X.alloc (.cells #[.int .i64 0, .int .i64 0, .bool false, .slice none 0 0, .slice none 0 0] 29)
  have HB : Hid (Below w.heap.size w ((w.alloc (.cells #[.int .i64 wd, .int .i64 hi, .bool wb, .slice (some ⟨ba, oa, none⟩) n ca, .slice (some ⟨bb, ob, none⟩) n cb] 29)).alloc (.cells #[.int .i64 0, .int .i64 0, .bool false, .slice none 0 0, .slice none 0 0] 29))) := Lib.hid (((Below.refl w.heap.size w).alloc (by simp <;> omega) _).alloc (by simp <;> omega) _)
  go_enter Try.func43, Try.ntmps43
  go_wp2_with fail
  generalize ((w.alloc (.cells #[.int .i64 wd, .int .i64 hi, .bool wb, .slice (some ⟨ba, oa, none⟩) n ca, .slice (some ⟨bb, ob, none⟩) n cb] 29)).alloc (.cells #[.int .i64 0, .int .i64 0, .bool false, .slice none 0 0, .slice none 0 0] 29)) = u1 at *
  refine (HCV.out _ HB.out X).mono ?_
  rintro r u2 ⟨rfl, q⟩
  replace X := X.later q
  replace R := R.later q
  replace HB := Lib.hid (HB.out.trans (q.mono HB.out.size))
  clear q
  obtain ⟨Xc, Xf⟩ := X.open
  go_wp2_with fail
  refine (l00In_any _ _ _ _).mono ?_
  rintro r w9 ⟨rfl, rfl⟩
  rw [H0.out]
  clear Xc Xf
  obtain ⟨Xc, Xf⟩ := X.open
  go_wp2_with fail
  refine (l00In_any _ _ _ _).mono ?_
  rintro r w9 ⟨rfl, rfl⟩
  rw [H1.out]
  clear Xc Xf
  obtain ⟨Xc, Xf⟩ := X.open
  go_wp2_with fail
  have szr := R.lt; have szo := HB.out.size
  refine (specOwnS _ _ _ _ _ _ _ n wd hi wb xs ys _ X (ha.later HB.out) (hb.later HB.out) HX.out HY.out n0 n256).mono ?_
  rintro r u3 ⟨g0, g1, c0, c1, rfl, o0, o1, g01, q⟩
  have y0 := o0.bound g0 rfl; have y1 := o1.bound g1 rfl; have z0 := (o0.span _ rfl).2; have z1 := (o1.span _ rfl).2; dsimp only at z0 z1
  clear Xc Xf
  replace X := X.later q
  replace R := R.later q
  replace HB := Lib.hid (HB.out.trans (q.mono HB.out.size))
  clear q
  have W0 := Lib.hid (o0.lower (show w.heap.size ≤ _ by omega)); have W1 := Lib.hid (o1.lower (show w.heap.size ≤ _ by omega)); clear o0 o1
  have O := Blk.new u3 #[.int .i64 wd, .int .i64 hi, .bool wb, .slice (some ⟨g0, 0, none⟩) n c0, .slice (some ⟨g1, 0, none⟩) n c1] 29
  have q := below_new u3 (.cells #[.int .i64 wd, .int .i64 hi, .bool wb, .slice (some ⟨g0, 0, none⟩) n c0, .slice (some ⟨g1, 0, none⟩) n c1] 29)
  replace X := X.later q
  replace R := R.later q
  replace W0 := Lib.hid (W0.out.later q)
  replace W1 := Lib.hid (W1.out.later q)
  replace HB := Lib.hid (HB.out.trans (q.mono HB.out.size))
  clear q
  go_upto_region 4 with (fail)
  obtain ⟨gx, hgx⟩ : ∃ gx, gx = u3.heap.size := ⟨_, rfl⟩
  rw [← hgx] at O
  (try simp only [← hgx])
  have zx := O.lt
  generalize u3.alloc (.cells #[.int .i64 wd, .int .i64 hi, .bool wb, .slice (some ⟨g0, 0, none⟩) n c0, .slice (some ⟨g1, 0, none⟩) n c1] 29) = u4 at *
  have n1 : g0 ≠ gx := by omega
  have n2 : g1 ≠ gx := by omega
  have n3 : w.heap.size ≠ g0 := by omega
  have n4 : w.heap.size ≠ g1 := by omega
  have n5 : w.heap.size + 1 ≠ g0 := by omega
  have n6 : w.heap.size + 1 ≠ g1 := by omega
  have n7 : w.heap.size ≤ g0 := by omega
  have n8 : w.heap.size ≤ g1 := by omega
  have n9 : g0 ≠ g1 := by omega
  have n10 : w.heap.size + 1 ≠ gx := by omega
  clear y0 y1 z0 z1 szo szr hgx zx g01
  obtain ⟨Oc, Of⟩ := O.open
  go_wp2
  go_loopw [31] (fun iv wr => ∃ (k : Nat) (L : List Nat), k ≤ n ∧ iv = .int .i64 k ∧ ChgTo (chanP wd fr tt) (fun _ => canon .f32 0) xs k L ∧ OwnV wr w.heap.size (some ⟨g0, 0, none⟩) (fvals L) ∧ OwnV wr w.heap.size (some ⟨g1, 0, none⟩) (fvals ys) ∧ Blk wr w.heap.size #[.int .i64 wd, .int .i64 hi, .bool wb, .slice (some ⟨ba, oa, none⟩) n ca, .slice (some ⟨bb, ob, none⟩) n cb] 29 ∧ Blk wr (w.heap.size + 1) #[.int .i64 0, .int .i64 0, .bool false, .slice none 0 0, .slice none 0 0] 29 ∧ Blk wr gx #[.int .i64 wd, .int .i64 hi, .bool wb, .slice (some ⟨g0, 0, none⟩) n c0, .slice (some ⟨g1, 0, none⟩) n c1] 29 ∧ Below w.heap.size w wr) (fun iv _ => n - (intOf iv).toNat)
  case atStart => exact ⟨0, xs, Nat.zero_le _, rfl, HST.out, W0.out, W1.out, X, R, O, HB.out⟩
  case round =>
    obtain ⟨k, L, hk, rfl, hM, h5, h6, X, R, O, hb5⟩ := hrel
    replace W0 := Lib.hid h5; replace W1 := Lib.hid h6; replace HB := Lib.hid hb5; have HM2 := Lib.hid hM; clear h5 h6 hb5 hM HST
    by_cases hlt : k < n
    · skip
      have kx : k < xs.length := by rw [HX.out]; exact hlt
      have kL : k < L.length := by rw [HM2.out.len]; exact kx
      have hki : (k : Int) < (n : Int) := by omega
      have hq : (k : Int).tdiv wd = (k : Int) / wd := Int.tdiv_eq_ediv_of_nonneg (by omega)
      have hne : (wd == 0) = false := by simp; omega
      have h7 : 0 ≤ (k : Int) / wd := Int.ediv_nonneg (by omega) (by omega)
      have h8 : (k : Int) / wd ≤ (k : Int) := Int.ediv_le_self _ (by omega)
      have hw : IntKind.i64.wrap ((k : Int) / wd) = (k : Int) / wd := IntWalk.i64_in _ (by omega)
      rcases hf : decide (fr ≤ (k : Int) / wd ∧ (k : Int) / wd ≤ tt) with _ | _
      · skip
        have HP : Hid (chanP wd fr tt k = true) := Lib.hid (by unfold chanP outB; rw [hf]; rfl)
        have H_f := Lib.hid hf; clear hf
        have HN := Lib.hid (HM2.out.yes kx HP.out (show 0 < 2 ^ 32 by decide) rfl)
        clear Oc Of
        obtain ⟨Xc, Xf⟩ := X.open
        obtain ⟨Oc, Of⟩ := O.open
        obtain ⟨cs, tt9, _, hblk, hvv⟩ := own_some W0.out; obtain ⟨gcc, gcf⟩ := hblk.open; have f0 : wr.cell? ⟨g0, k, none⟩ = some _ := (gcc _).trans (hvv k _ (fvals_get kL)); have GF := gcf k; clear gcc gcf hvv hblk
        have hp := own_put W0.out k (.float .f32 0) (by rw [fvals_length]; exact kL)
        rw [fvals_set] at hp
        have HP2 := Lib.hid hp; clear hp
        go_wp2_with (go_at_call 58; refine (l00In_any _ _ _ _).mono ?_; rintro e9 w9 ⟨rfl, rfl⟩; rw [H_f.out])
        go_roundw
        case rel => exact ⟨k + 1, _, by omega, by go_num, HN.out, HP2.out, W1.out.set (fun x hx => by cases hx; exact fun h => n9 h.symm) _, X.setOther n3 _, R.setOther n5 _, O.setOther (fun h => n1 h.symm) _, HB.out.setCell (p := ⟨g0, k, none⟩) n7 _⟩
        case measure => simp [intOf]; omega
      · skip
        have HP : Hid (chanP wd fr tt k = false) := Lib.hid (by unfold chanP outB; rw [hf]; rfl)
        have H_f := Lib.hid hf; clear hf
        have HN := Lib.hid (HM2.out.no HP.out)
        clear Oc Of
        obtain ⟨Xc, Xf⟩ := X.open
        obtain ⟨Oc, Of⟩ := O.open
        go_wp2_with (go_at_call 58; refine (l00In_any _ _ _ _).mono ?_; rintro e9 w9 ⟨rfl, rfl⟩; rw [H_f.out])
        go_roundw
        case rel => exact ⟨k + 1, L, by omega, by go_num, HN.out, W0.out, W1.out, X, R, O, HB.out⟩
        case measure => simp [intOf]; omega
    · skip
      obtain rfl : k = n := by omega
      clear Oc Of
      obtain ⟨Oc, Of⟩ := O.open
      obtain ⟨Rc, Rf⟩ := R.open
      go_wp2
      refine bodyPost_ret (v := .tuple #[.agg #[.int .i64 wd, .int .i64 hi, .bool wb, .slice (some ⟨g0, 0, none⟩) k c0, .slice (some ⟨g1, 0, none⟩) k c1], .bool true]) (by simp [results, Try.results43, go_sem, Rc]) rfl (has_yes HBT.out (by rw [HM2.out.len, HX.out]) HY.out ⟨(((((W0.out.set (p := ⟨w.heap.size + 1, 0, none⟩) (ne_block (h := w.heap.size + 1) (by omega)) _).set (p := ⟨w.heap.size + 1, 1, none⟩) (ne_block (h := w.heap.size + 1) (by omega)) _).set (p := ⟨w.heap.size + 1, 2, none⟩) (ne_block (h := w.heap.size + 1) (by omega)) _).set (p := ⟨w.heap.size + 1, 3, none⟩) (ne_block (h := w.heap.size + 1) (by omega)) _).set (p := ⟨w.heap.size + 1, 4, none⟩) (ne_block (h := w.heap.size + 1) (by omega)) _), (((((W1.out.set (p := ⟨w.heap.size + 1, 0, none⟩) (ne_block (h := w.heap.size + 1) (by omega)) _).set (p := ⟨w.heap.size + 1, 1, none⟩) (ne_block (h := w.heap.size + 1) (by omega)) _).set (p := ⟨w.heap.size + 1, 2, none⟩) (ne_block (h := w.heap.size + 1) (by omega)) _).set (p := ⟨w.heap.size + 1, 3, none⟩) (ne_block (h := w.heap.size + 1) (by omega)) _).set (p := ⟨w.heap.size + 1, 4, none⟩) (ne_block (h := w.heap.size + 1) (by omega)) _), apart_ne n9, HT.out L HM2.out, (Is.refl qb (by rw [HY.out]; exact n256)), (((((HB.out.setCell (p := ⟨w.heap.size + 1, 0, none⟩) (by first | omega | (simp <;> omega)) _).setCell (p := ⟨w.heap.size + 1, 1, none⟩) (by first | omega | (simp <;> omega)) _).setCell (p := ⟨w.heap.size + 1, 2, none⟩) (by first | omega | (simp <;> omega)) _).setCell (p := ⟨w.heap.size + 1, 3, none⟩) (by first | omega | (simp <;> omega)) _).setCell (p := ⟨w.heap.size + 1, 4, none⟩) (by first | omega | (simp <;> omega)) _)⟩)

end Go.Proofs.Ythlkndjllhdppaa
