/- Mirrored, exchanged and shifted sheets: the program's and the model's. Conditions: none beyond those of each theorem. -/
import Derived.Test.YtpnfgchifclhlaaMove4
namespace Go.Proofs.Ytpnfgchifclhlaa
open Go Ieee Go.RowKit
set_option linter.unusedVariables false

def shiftB (x y : Int) : Bool := decide (-16 ≤ x ∧ x ≤ 16) && decide (-16 ≤ y ∧ y ≤ 16)

theorem shift_in {x y : Int} (h : shiftB x y = true) : -16 ≤ x ∧ x ≤ 16 ∧ -16 ≤ y ∧ y ≤ 16 := by
  unfold shiftB at h
  simp only [Bool.and_eq_true, decide_eq_true_eq] at h
  omega

theorem implIsShift (wd hi : Int) (wb : Bool) (a b : Option Addr) (n m ca cb : Nat) (x y : Int) (w : World) : Calls Try.prog 86 #[.agg #[.int .i64 wd, .int .i64 hi, .bool wb, .slice a n ca, .slice b m cb], .int .i64 x, .int .i64 y] w fun e w' => e = .returned (.bool (wb && shiftB x y)) ∧ Below w.heap.size w w' := by
  have HB : Hid (Below w.heap.size w (w.alloc (.cells #[.int .i64 wd, .int .i64 hi, .bool wb, .slice a n ca, .slice b m cb] 27))) := Lib.hid (below_new _ _)
  cases wb with
  | false =>
    have HC : Hid ((false && shiftB x y) = false) := Lib.hid (by unfold shiftB; simp <;> omega)
    go_enter Try.func86, Try.ntmps86
    go_wp2
    go_ret
    exact ⟨by rw [HC.out]; rfl, HB.out⟩
  | true =>
    by_cases k0 : -16 ≤ x
    · skip
      by_cases k1 : x ≤ 16
      · skip
        by_cases k2 : -16 ≤ y
        · skip
          by_cases k3 : y ≤ 16
          · skip
            have HC : Hid ((true && shiftB x y) = true) := Lib.hid (by unfold shiftB; simp <;> omega)
            have d0 : decide (-16 ≤ x) = true := decide_eq_true k0
            have d1 : decide (x ≤ 16) = true := decide_eq_true k1
            have d2 : decide (-16 ≤ y) = true := decide_eq_true k2
            have d3 : decide (y ≤ 16) = true := decide_eq_true k3
            clear k0 k1 k2 k3
            go_enter Try.func86, Try.ntmps86
            go_wp2
            go_ret
            exact ⟨by rw [HC.out]; rfl, HB.out⟩
          · skip
            have HC : Hid ((true && shiftB x y) = false) := Lib.hid (by unfold shiftB; simp <;> omega)
            have d0 : decide (-16 ≤ x) = true := decide_eq_true k0
            have d1 : decide (x ≤ 16) = true := decide_eq_true k1
            have d2 : decide (-16 ≤ y) = true := decide_eq_true k2
            have d3 : decide (y ≤ 16) = false := decide_eq_false k3
            clear k0 k1 k2 k3
            go_enter Try.func86, Try.ntmps86
            go_wp2
            go_ret
            exact ⟨by rw [HC.out]; rfl, HB.out⟩
        · skip
          have HC : Hid ((true && shiftB x y) = false) := Lib.hid (by unfold shiftB; simp <;> omega)
          have d0 : decide (-16 ≤ x) = true := decide_eq_true k0
          have d1 : decide (x ≤ 16) = true := decide_eq_true k1
          have d2 : decide (-16 ≤ y) = false := decide_eq_false k2
          clear k0 k1 k2
          go_enter Try.func86, Try.ntmps86
          go_wp2
          go_ret
          exact ⟨by rw [HC.out]; rfl, HB.out⟩
      · skip
        have HC : Hid ((true && shiftB x y) = false) := Lib.hid (by unfold shiftB; simp <;> omega)
        have d0 : decide (-16 ≤ x) = true := decide_eq_true k0
        have d1 : decide (x ≤ 16) = false := decide_eq_false k1
        clear k0 k1
        go_enter Try.func86, Try.ntmps86
        go_wp2
        go_ret
        exact ⟨by rw [HC.out]; rfl, HB.out⟩
    · skip
      have HC : Hid ((true && shiftB x y) = false) := Lib.hid (by unfold shiftB; simp <;> omega)
      have d0 : decide (-16 ≤ x) = false := decide_eq_false k0
      clear k0
      go_enter Try.func86, Try.ntmps86
      go_wp2
      go_ret
      exact ⟨by rw [HC.out]; rfl, HB.out⟩

theorem specShift (x y : Int) (w : World) : Calls Try.prog 85 #[.int .i64 x, .int .i64 y] w fun e w' => e = .returned (.bool (shiftB x y)) ∧ w = w' := by
  have hc : shiftB x y = (decide (-16 ≤ x ∧ x ≤ 16) && decide (-16 ≤ y ∧ y ≤ 16)) := rfl
  rw [hc]; clear hc
  rcases h1 : decide (-16 ≤ x ∧ x ≤ 16) with _ | _
  · skip
    go_enter Try.func85, Try.ntmps85
    go_wp2_with (go_at_call 93; refine (l00In_any _ _ _ _).mono ?_; rintro e w' ⟨rfl, rfl⟩)
    go_ret
    exact ⟨rfl, rfl⟩
  · skip
    rcases h2 : decide (-16 ≤ y ∧ y ≤ 16) with _ | _
    · skip
      go_enter Try.func85, Try.ntmps85
      go_wp2_with (go_at_call 93; refine (l00In_any _ _ _ _).mono ?_; rintro e w' ⟨rfl, rfl⟩)
      go_ret
      exact ⟨rfl, rfl⟩
    · skip
      go_enter Try.func85, Try.ntmps85
      go_wp2_with (go_at_call 93; refine (l00In_any _ _ _ _).mono ?_; rintro e w' ⟨rfl, rfl⟩)
      go_ret
      exact ⟨rfl, rfl⟩

theorem blk_heldR1 {u w' : World} {R g : Nat} {cs : Array Value} {t : TypeId} {A : Prop} (h : Blk u g cs t) (e : g ≠ R) (k : A ∧ u.grownBy w' (some R)) : Blk w' g cs t := h.grown k.2 (fun h => e (Option.some.inj h))

set_option maxHeartbeats 8000000 in
set_option maxRecDepth 100000 in
theorem implMirrorSheetL (wd hi : Int) (wb : Bool) (a b : Option Addr) (ca cb : Nat) (xs ys : List Nat) (w : World) (ha : RowV w a (fvals xs)) (hb : RowV w b (fvals ys)) (qa : ∀ z ∈ xs, z < 2 ^ 32) (qb : ∀ z ∈ ys, z < 2 ^ 32) (hx : xs.length ≤ maxLen) (hy : ys.length ≤ maxLen) :
    Calls Try.prog 36 #[.agg #[.int .i64 wd, .int .i64 hi, .bool wb, .slice a xs.length ca, .slice b ys.length cb]] w (GaveS w.heap.size w (validB wd hi xs ys) wd hi wb (placed (mirF wd) (wd * hi).toNat xs) (placed (mirF wd) (wd * hi).toNat ys)) := by
  rcases hs : validB wd hi xs ys with _ | _
  · skip
    have HF := Lib.hid hs
    have H_hs := Lib.hid hs; clear hs
    have X := Blk.new w #[.int .i64 wd, .int .i64 hi, .bool wb, .slice a xs.length ca, .slice b ys.length cb] 27
    have R := Blk.new1 w (.cells #[.int .i64 wd, .int .i64 hi, .bool wb, .slice a xs.length ca, .slice b ys.length cb] 27) #[.int .i64 0, .int .i64 0, .bool false, .slice none 0 0, .slice none 0 0] 27
    replace X := X.alloc (.cells #[.int .i64 0, .int .i64 0, .bool false, .slice none 0 0, .slice none 0 0] 27)
    have HB : Hid (Below w.heap.size w ((w.alloc (.cells #[.int .i64 wd, .int .i64 hi, .bool wb, .slice a xs.length ca, .slice b ys.length cb] 27)).alloc (.cells #[.int .i64 0, .int .i64 0, .bool false, .slice none 0 0, .slice none 0 0] 27))) := Lib.hid (((Below.refl w.heap.size w).alloc (by simp <;> omega) _).alloc (by simp <;> omega) _)
    go_enter Try.func36, Try.ntmps36
    go_wp2_with fail
    generalize ((w.alloc (.cells #[.int .i64 wd, .int .i64 hi, .bool wb, .slice a xs.length ca, .slice b ys.length cb] 27)).alloc (.cells #[.int .i64 0, .int .i64 0, .bool false, .slice none 0 0, .slice none 0 0] 27)) = u1 at *
    refine (implValidSheet _ _ _ _ _ _ _ _ _ _ (ha.later HB.out) (hb.later HB.out) hx hy).mono ?_
    rintro r u2 ⟨rfl, q⟩
    replace X := X.later q
    replace R := R.later q
    replace HB := Lib.hid (HB.out.trans (q.mono HB.out.size))
    clear q
    rw [H_hs.out]
    obtain ⟨Xc, Xf⟩ := X.open
    obtain ⟨Rc, Rf⟩ := R.open
    go_wp2
    refine bodyPost_ret (v := .tuple #[.agg #[.int .i64 0, .int .i64 0, .bool false, .slice none 0 0, .slice none 0 0], .bool false]) (by simp [results, Try.results36, go_sem, Rc]) rfl ⟨none, none, 0, 0, [], [], by first | rfl | (rw [HF.out]; rfl), by first | exact GotSheet.none (((((HB.out.setCell (p := ⟨w.heap.size + 1, 0, none⟩) (by simp <;> omega) _).setCell (p := ⟨w.heap.size + 1, 1, none⟩) (by simp <;> omega) _).setCell (p := ⟨w.heap.size + 1, 2, none⟩) (by simp <;> omega) _).setCell (p := ⟨w.heap.size + 1, 3, none⟩) (by simp <;> omega) _).setCell (p := ⟨w.heap.size + 1, 4, none⟩) (by simp <;> omega) _) | (rw [HF.out]; exact GotSheet.none (((((HB.out.setCell (p := ⟨w.heap.size + 1, 0, none⟩) (by simp <;> omega) _).setCell (p := ⟨w.heap.size + 1, 1, none⟩) (by simp <;> omega) _).setCell (p := ⟨w.heap.size + 1, 2, none⟩) (by simp <;> omega) _).setCell (p := ⟨w.heap.size + 1, 3, none⟩) (by simp <;> omega) _).setCell (p := ⟨w.heap.size + 1, 4, none⟩) (by simp <;> omega) _))⟩
  obtain ⟨s1, s2, s3, s4, hm2, lx, ly⟩ := valid_parts hs
  obtain ⟨n, hn⟩ := Int.eq_ofNat_of_zero_le (show 0 ≤ wd * hi by omega)
  have hxn : xs.length = n := by omega
  have hyn : ys.length = n := by omega
  have n256 : n ≤ 256 := by omega
  have HF := Lib.hid hs
  have H_hs := Lib.hid hs; clear hs hm2 lx ly
  have HN := Lib.hid hn; have HX := Lib.hid hxn; have HY := Lib.hid hyn
  rw [show (wd * hi).toNat = n by rw [hn]; rfl]
  have CV : ∀ u, RowV u a (fvals xs) → RowV u b (fvals ys) → Calls Try.prog 76 #[.agg #[.int .i64 wd, .int .i64 hi, .bool wb, .slice a n ca, .slice b n cb]] u fun e w' => e = .returned (.bool true) ∧ Below u.heap.size u w' := fun u h1 h2 => by
    have := implValidSheet wd hi wb a b ca cb xs ys u h1 h2 hx hy
    rw [hxn, hyn, H_hs.out] at this; exact this
  have HCV := Lib.hid CV; clear CV
  rw [hxn, hyn]; clear hn hxn hyn
  have X := Blk.new w #[.int .i64 wd, .int .i64 hi, .bool wb, .slice a n ca, .slice b n cb] 27
  have R := Blk.new1 w (.cells #[.int .i64 wd, .int .i64 hi, .bool wb, .slice a n ca, .slice b n cb] 27) #[.int .i64 0, .int .i64 0, .bool false, .slice none 0 0, .slice none 0 0] 27
  replace X := X.alloc (.cells #[.int .i64 0, .int .i64 0, .bool false, .slice none 0 0, .slice none 0 0] 27)
  have HB : Hid (Below w.heap.size w ((w.alloc (.cells #[.int .i64 wd, .int .i64 hi, .bool wb, .slice a n ca, .slice b n cb] 27)).alloc (.cells #[.int .i64 0, .int .i64 0, .bool false, .slice none 0 0, .slice none 0 0] 27))) := Lib.hid (((Below.refl w.heap.size w).alloc (by simp <;> omega) _).alloc (by simp <;> omega) _)
  go_enter Try.func36, Try.ntmps36
  go_wp2_with fail
  generalize ((w.alloc (.cells #[.int .i64 wd, .int .i64 hi, .bool wb, .slice a n ca, .slice b n cb] 27)).alloc (.cells #[.int .i64 0, .int .i64 0, .bool false, .slice none 0 0, .slice none 0 0] 27)) = u1 at *
  have zr := R.lt
  refine (HCV.out _ (ha.later HB.out) (hb.later HB.out)).mono ?_
  rintro r u2 ⟨rfl, q⟩
  replace X := X.later q
  replace R := R.later q
  replace HB := Lib.hid (HB.out.trans (q.mono HB.out.size))
  clear q
  have zR2 := R.lt
  have b6 := HB.out; have hR : w.heap.size ≤ w.heap.size + 1 := by omega
  obtain ⟨Xc, Xf⟩ := X.open
  go_wp2_with fail
  clear Xc Xf
  have neX : w.heap.size ≠ w.heap.size + 1 := by omega
  have tk0 : True := trivial
  have tk1 : True := trivial
  have tk2 : True := trivial
  go_region_held3 (fun w' => (∀ i, w'.cell? ⟨w.heap.size, i, none⟩ = (#[.int .i64 wd, .int .i64 hi, .bool wb, .slice a n ca, .slice b n cb] : Array Value)[i]?) ∧ u2.grownBy w' (some (w.heap.size + 1))) (first | with_reducible exact keepR1_start X | with_reducible exact keepR1_later X neX (by assumption) (by assumption) | exact keepR1_set5 X neX (by assumption) _ _ _ _ _)
    (first
      | (go_at_call 53; have _t := tk0; clear _t tk0; (with_reducible refine (implShapeOf _ _ _ _ _ _ _ _ _ _).mono ?_); rintro r u3 ⟨rfl, qa0⟩)
      | (go_at_call 77; have _t := tk1; clear _t tk1; (with_reducible refine (impl_mirrorCells _ _ _ _).mono ?_); rintro r u4 ⟨rfl, qa1⟩)
      | (go_at_call 78; have _t := tk2; clear _t tk2; (with_reducible refine (implSheet_mir _ _ _ _ _ _ _ _ _ (mirF wd) n _ (row_heldR1 ha b6 hR (by assumption)) (row_heldR1 hb b6 hR (by assumption)) s1 s2 s3 s4 HN.out HX.out HY.out (mirF_impl s1 HN.out)).mono ?_); rintro r u5 ⟨g0, g1, c0, c1, rfl, oo0, oo1, gne, qa2⟩; obtain ⟨Rc, Rf⟩ := (R.later (below_next (below_next (below_next (below_drew u2) qa0) qa1) qa2)).open))
  go_wp2
  have z1 := HB.out.size; have z2 : u2.heap.size ≤ u3.heap.size := qa0.size; have z3 : u3.heap.size ≤ u4.heap.size := qa1.size
  have y0 : u4.heap.size ≤ g0 := oo0.bound g0 rfl; have y1 : u4.heap.size ≤ g1 := oo1.bound g1 rfl
  have zR := R.lt
  refine bodyPost_ret (v := .tuple #[.agg #[.int .i64 wd, .int .i64 hi, .bool wb, .slice (some ⟨g0, 0, none⟩) n c0, .slice (some ⟨g1, 0, none⟩) n c1], .bool true]) (by simp [results, Try.results36, go_sem, Rc]) rfl ⟨some ⟨g0, 0, none⟩, some ⟨g1, 0, none⟩, c0, c1, placed (mirF wd) n xs, placed (mirF wd) n ys, by rw [placed_length, placed_length]; first | rfl | (rw [HF.out]; rfl), ⟨(((((((oo0).lower (show w.heap.size ≤ _ by first | omega | exact z1 | exact Nat.le_trans z1 (Nat.le_trans z2 z3))).set (p := ⟨w.heap.size + 1, 0, none⟩) (ne_block (h := w.heap.size + 1) (by omega)) _).set (p := ⟨w.heap.size + 1, 1, none⟩) (ne_block (h := w.heap.size + 1) (by omega)) _).set (p := ⟨w.heap.size + 1, 2, none⟩) (ne_block (h := w.heap.size + 1) (by omega)) _).set (p := ⟨w.heap.size + 1, 3, none⟩) (ne_block (h := w.heap.size + 1) (by omega)) _).set (p := ⟨w.heap.size + 1, 4, none⟩) (ne_block (h := w.heap.size + 1) (by omega)) _), (((((((oo1).lower (show w.heap.size ≤ _ by first | omega | exact z1 | exact Nat.le_trans z1 (Nat.le_trans z2 z3))).set (p := ⟨w.heap.size + 1, 0, none⟩) (ne_block (h := w.heap.size + 1) (by omega)) _).set (p := ⟨w.heap.size + 1, 1, none⟩) (ne_block (h := w.heap.size + 1) (by omega)) _).set (p := ⟨w.heap.size + 1, 2, none⟩) (ne_block (h := w.heap.size + 1) (by omega)) _).set (p := ⟨w.heap.size + 1, 3, none⟩) (ne_block (h := w.heap.size + 1) (by omega)) _).set (p := ⟨w.heap.size + 1, 4, none⟩) (ne_block (h := w.heap.size + 1) (by omega)) _), apart_ne gne, is_placed qa n256, is_placed qb n256, ((((((HB.out.trans ((below_next (below_next (below_next (below_drew u2) qa0) qa1) qa2).mono HB.out.size)).setCell (p := ⟨w.heap.size + 1, 0, none⟩) (by simp <;> omega) _).setCell (p := ⟨w.heap.size + 1, 1, none⟩) (by simp <;> omega) _).setCell (p := ⟨w.heap.size + 1, 2, none⟩) (by simp <;> omega) _).setCell (p := ⟨w.heap.size + 1, 3, none⟩) (by simp <;> omega) _).setCell (p := ⟨w.heap.size + 1, 4, none⟩) (by simp <;> omega) _)⟩⟩

set_option maxHeartbeats 8000000 in
set_option maxRecDepth 100000 in
theorem specMirrorSheetL (wd hi : Int) (wb : Bool) (a b : Option Addr) (ca cb : Nat) (xs ys : List Nat) (w : World) (ha : RowV w a (fvals xs)) (hb : RowV w b (fvals ys)) (qa : ∀ z ∈ xs, z < 2 ^ 32) (qb : ∀ z ∈ ys, z < 2 ^ 32) (hx : xs.length ≤ maxLen) (hy : ys.length ≤ maxLen) :
    Calls Try.prog 35 #[.agg #[.int .i64 wd, .int .i64 hi, .bool wb, .slice a xs.length ca, .slice b ys.length cb]] w (HasS w (validB wd hi xs ys) wd hi wb (placed (mirF wd) (wd * hi).toNat xs) (placed (mirF wd) (wd * hi).toNat ys)) := by
  rcases hs : validB wd hi xs ys with _ | _
  · skip
    have HF := Lib.hid hs
    have H_hs := Lib.hid hs; clear hs
    have X := Blk.new w #[.int .i64 wd, .int .i64 hi, .bool wb, .slice a xs.length ca, .slice b ys.length cb] 27
    have R := Blk.new1 w (.cells #[.int .i64 wd, .int .i64 hi, .bool wb, .slice a xs.length ca, .slice b ys.length cb] 27) #[.int .i64 0, .int .i64 0, .bool false, .slice none 0 0, .slice none 0 0] 27
    replace X := X.alloc (.cells #[.int .i64 0, .int .i64 0, .bool false, .slice none 0 0, .slice none 0 0] 27)
    have HB : Hid (Below w.heap.size w ((w.alloc (.cells #[.int .i64 wd, .int .i64 hi, .bool wb, .slice a xs.length ca, .slice b ys.length cb] 27)).alloc (.cells #[.int .i64 0, .int .i64 0, .bool false, .slice none 0 0, .slice none 0 0] 27))) := Lib.hid (((Below.refl w.heap.size w).alloc (by simp <;> omega) _).alloc (by simp <;> omega) _)
    go_enter Try.func35, Try.ntmps35
    go_wp2_with fail
    generalize ((w.alloc (.cells #[.int .i64 wd, .int .i64 hi, .bool wb, .slice a xs.length ca, .slice b ys.length cb] 27)).alloc (.cells #[.int .i64 0, .int .i64 0, .bool false, .slice none 0 0, .slice none 0 0] 27)) = u1 at *
    refine (specIs _ _ _ _ _ _ _ _ _ _ _ X (ha.later HB.out) (hb.later HB.out) hx hy).mono ?_
    rintro r u2 ⟨rfl, nq, hw⟩
    have q : Below u1.heap.size u1 u2 := by rw [hw]; exact below_drewN (Below.refl _ _) _
    clear hw
    replace X := X.later q
    replace R := R.later q
    replace HB := Lib.hid (HB.out.trans (q.mono HB.out.size))
    clear q
    rw [H_hs.out]
    obtain ⟨Xc, Xf⟩ := X.open
    obtain ⟨Rc, Rf⟩ := R.open
    go_wp2
    refine bodyPost_ret (v := .tuple #[.agg #[.int .i64 0, .int .i64 0, .bool false, .slice none 0 0, .slice none 0 0], .bool false]) (by simp [results, Try.results35, go_sem, Rc]) rfl ⟨none, none, 0, 0, [], [], by first | rfl | (rw [HF.out]; rfl), by first | exact HasSheet.none (((((HB.out.setCell (p := ⟨w.heap.size + 1, 0, none⟩) (by simp <;> omega) _).setCell (p := ⟨w.heap.size + 1, 1, none⟩) (by simp <;> omega) _).setCell (p := ⟨w.heap.size + 1, 2, none⟩) (by simp <;> omega) _).setCell (p := ⟨w.heap.size + 1, 3, none⟩) (by simp <;> omega) _).setCell (p := ⟨w.heap.size + 1, 4, none⟩) (by simp <;> omega) _) | (rw [HF.out]; exact HasSheet.none (((((HB.out.setCell (p := ⟨w.heap.size + 1, 0, none⟩) (by simp <;> omega) _).setCell (p := ⟨w.heap.size + 1, 1, none⟩) (by simp <;> omega) _).setCell (p := ⟨w.heap.size + 1, 2, none⟩) (by simp <;> omega) _).setCell (p := ⟨w.heap.size + 1, 3, none⟩) (by simp <;> omega) _).setCell (p := ⟨w.heap.size + 1, 4, none⟩) (by simp <;> omega) _))⟩
  obtain ⟨s1, s2, s3, s4, hm2, lx, ly⟩ := valid_parts hs
  obtain ⟨n, hn⟩ := Int.eq_ofNat_of_zero_le (show 0 ≤ wd * hi by omega)
  have hxn : xs.length = n := by omega
  have hyn : ys.length = n := by omega
  have n256 : n ≤ 256 := by omega
  have HF := Lib.hid hs
  have H_hs := Lib.hid hs; clear hs hm2 lx ly
  have HN := Lib.hid hn; have HX := Lib.hid hxn; have HY := Lib.hid hyn
  rw [show (wd * hi).toNat = n by rw [hn]; rfl]
  have CV : ∀ u, Blk u w.heap.size #[.int .i64 wd, .int .i64 hi, .bool wb, .slice a n ca, .slice b n cb] 27 → RowV u a (fvals xs) → RowV u b (fvals ys) → Calls Try.prog 66 #[.pointer (some ⟨w.heap.size, 0, none⟩)] u fun e w' => e = .returned (.bool true) ∧ Below u.heap.size u w' := fun u X h1 h2 => by
    have := specIs w.heap.size wd hi wb a b ca cb xs ys u (by rw [hxn, hyn]; exact X) h1 h2 hx hy
    rw [H_hs.out] at this
    exact this.mono fun e w' ⟨h, nq, hw⟩ => ⟨h, by rw [hw]; exact below_drewN (Below.refl _ _) _⟩
  have HCV := Lib.hid CV; clear CV
  rw [hxn, hyn]; clear hn hxn hyn
  have X := Blk.new w #[.int .i64 wd, .int .i64 hi, .bool wb, .slice a n ca, .slice b n cb] 27
  have R := Blk.new1 w (.cells #[.int .i64 wd, .int .i64 hi, .bool wb, .slice a n ca, .slice b n cb] 27) #[.int .i64 0, .int .i64 0, .bool false, .slice none 0 0, .slice none 0 0] 27
  replace X := X.alloc (.cells #[.int .i64 0, .int .i64 0, .bool false, .slice none 0 0, .slice none 0 0] 27)
  have HB : Hid (Below w.heap.size w ((w.alloc (.cells #[.int .i64 wd, .int .i64 hi, .bool wb, .slice a n ca, .slice b n cb] 27)).alloc (.cells #[.int .i64 0, .int .i64 0, .bool false, .slice none 0 0, .slice none 0 0] 27))) := Lib.hid (((Below.refl w.heap.size w).alloc (by simp <;> omega) _).alloc (by simp <;> omega) _)
  go_enter Try.func35, Try.ntmps35
  go_wp2_with fail
  generalize ((w.alloc (.cells #[.int .i64 wd, .int .i64 hi, .bool wb, .slice a n ca, .slice b n cb] 27)).alloc (.cells #[.int .i64 0, .int .i64 0, .bool false, .slice none 0 0, .slice none 0 0] 27)) = u1 at *
  have zr := R.lt
  refine (HCV.out _ X (ha.later HB.out) (hb.later HB.out)).mono ?_
  rintro r u2 ⟨rfl, q⟩
  replace X := X.later q
  replace R := R.later q
  replace HB := Lib.hid (HB.out.trans (q.mono HB.out.size))
  clear q
  have zR2 := R.lt
  obtain ⟨Xc, Xf⟩ := X.open
  obtain ⟨Rc, Rf⟩ := R.open
  go_wp2_with fail
  refine (specSheet0 _ _ _ _ _ _ _ _ _ _ _ _ _ _ (mirF wd) n _ X (ha.later HB.out) (hb.later HB.out) s1 s2 s3 s4 HN.out HX.out HY.out (mirF_spec s1 HN.out)).mono ?_
  rintro r u3 ⟨g0, g1, c0, c1, rfl, oo0, oo1, gne, q⟩
  have z1 := HB.out.size; have y0 := oo0.bound g0 rfl; have y1 := oo1.bound g1 rfl
  clear Xc Xf
  clear Rc Rf
  replace X := X.later q
  replace R := R.later q
  replace HB := Lib.hid (HB.out.trans (q.mono HB.out.size))
  clear q
  obtain ⟨Rc, Rf⟩ := R.open
  go_wp2
  have zR := R.lt
  refine bodyPost_ret (v := .tuple #[.agg #[.int .i64 wd, .int .i64 hi, .bool wb, .slice (some ⟨g0, 0, none⟩) n c0, .slice (some ⟨g1, 0, none⟩) n c1], .bool true]) (by simp [results, Try.results35, go_sem, Rc]) rfl ⟨some ⟨g0, 0, none⟩, some ⟨g1, 0, none⟩, c0, c1, placed (mirF wd) n xs, placed (mirF wd) n ys, by rw [placed_length, placed_length]; first | rfl | (rw [HF.out]; rfl), (GotSheet.has ⟨(((((((oo0).lower (show w.heap.size ≤ _ by first | omega | exact z1 | exact Nat.le_trans z1 (Nat.le_trans z2 z3))).set (p := ⟨w.heap.size + 1, 0, none⟩) (ne_block (h := w.heap.size + 1) (by omega)) _).set (p := ⟨w.heap.size + 1, 1, none⟩) (ne_block (h := w.heap.size + 1) (by omega)) _).set (p := ⟨w.heap.size + 1, 2, none⟩) (ne_block (h := w.heap.size + 1) (by omega)) _).set (p := ⟨w.heap.size + 1, 3, none⟩) (ne_block (h := w.heap.size + 1) (by omega)) _).set (p := ⟨w.heap.size + 1, 4, none⟩) (ne_block (h := w.heap.size + 1) (by omega)) _), (((((((oo1).lower (show w.heap.size ≤ _ by first | omega | exact z1 | exact Nat.le_trans z1 (Nat.le_trans z2 z3))).set (p := ⟨w.heap.size + 1, 0, none⟩) (ne_block (h := w.heap.size + 1) (by omega)) _).set (p := ⟨w.heap.size + 1, 1, none⟩) (ne_block (h := w.heap.size + 1) (by omega)) _).set (p := ⟨w.heap.size + 1, 2, none⟩) (ne_block (h := w.heap.size + 1) (by omega)) _).set (p := ⟨w.heap.size + 1, 3, none⟩) (ne_block (h := w.heap.size + 1) (by omega)) _).set (p := ⟨w.heap.size + 1, 4, none⟩) (ne_block (h := w.heap.size + 1) (by omega)) _), apart_ne gne, is_placed qa n256, is_placed qb n256, (((((HB.out.setCell (p := ⟨w.heap.size + 1, 0, none⟩) (by simp <;> omega) _).setCell (p := ⟨w.heap.size + 1, 1, none⟩) (by simp <;> omega) _).setCell (p := ⟨w.heap.size + 1, 2, none⟩) (by simp <;> omega) _).setCell (p := ⟨w.heap.size + 1, 3, none⟩) (by simp <;> omega) _).setCell (p := ⟨w.heap.size + 1, 4, none⟩) (by simp <;> omega) _)⟩)⟩

set_option maxHeartbeats 8000000 in
set_option maxRecDepth 100000 in
theorem implSwapSheetL (wd hi : Int) (wb : Bool) (a b : Option Addr) (ca cb : Nat) (xs ys : List Nat) (w : World) (ha : RowV w a (fvals xs)) (hb : RowV w b (fvals ys)) (qa : ∀ z ∈ xs, z < 2 ^ 32) (qb : ∀ z ∈ ys, z < 2 ^ 32) (hx : xs.length ≤ maxLen) (hy : ys.length ≤ maxLen) :
    Calls Try.prog 40 #[.agg #[.int .i64 wd, .int .i64 hi, .bool wb, .slice a xs.length ca, .slice b ys.length cb]] w (GaveS w.heap.size w (validB wd hi xs ys) hi wd wb (placed (swpF wd hi) (wd * hi).toNat xs) (placed (swpF wd hi) (wd * hi).toNat ys)) := by
  rcases hs : validB wd hi xs ys with _ | _
  · skip
    have HF := Lib.hid hs
    have H_hs := Lib.hid hs; clear hs
    have X := Blk.new w #[.int .i64 wd, .int .i64 hi, .bool wb, .slice a xs.length ca, .slice b ys.length cb] 27
    have R := Blk.new1 w (.cells #[.int .i64 wd, .int .i64 hi, .bool wb, .slice a xs.length ca, .slice b ys.length cb] 27) #[.int .i64 0, .int .i64 0, .bool false, .slice none 0 0, .slice none 0 0] 27
    replace X := X.alloc (.cells #[.int .i64 0, .int .i64 0, .bool false, .slice none 0 0, .slice none 0 0] 27)
    have HB : Hid (Below w.heap.size w ((w.alloc (.cells #[.int .i64 wd, .int .i64 hi, .bool wb, .slice a xs.length ca, .slice b ys.length cb] 27)).alloc (.cells #[.int .i64 0, .int .i64 0, .bool false, .slice none 0 0, .slice none 0 0] 27))) := Lib.hid (((Below.refl w.heap.size w).alloc (by simp <;> omega) _).alloc (by simp <;> omega) _)
    go_enter Try.func40, Try.ntmps40
    go_wp2_with fail
    generalize ((w.alloc (.cells #[.int .i64 wd, .int .i64 hi, .bool wb, .slice a xs.length ca, .slice b ys.length cb] 27)).alloc (.cells #[.int .i64 0, .int .i64 0, .bool false, .slice none 0 0, .slice none 0 0] 27)) = u1 at *
    refine (implValidSheet _ _ _ _ _ _ _ _ _ _ (ha.later HB.out) (hb.later HB.out) hx hy).mono ?_
    rintro r u2 ⟨rfl, q⟩
    replace X := X.later q
    replace R := R.later q
    replace HB := Lib.hid (HB.out.trans (q.mono HB.out.size))
    clear q
    rw [H_hs.out]
    obtain ⟨Xc, Xf⟩ := X.open
    obtain ⟨Rc, Rf⟩ := R.open
    go_wp2
    refine bodyPost_ret (v := .tuple #[.agg #[.int .i64 0, .int .i64 0, .bool false, .slice none 0 0, .slice none 0 0], .bool false]) (by simp [results, Try.results40, go_sem, Rc]) rfl ⟨none, none, 0, 0, [], [], by first | rfl | (rw [HF.out]; rfl), by first | exact GotSheet.none (((((HB.out.setCell (p := ⟨w.heap.size + 1, 0, none⟩) (by simp <;> omega) _).setCell (p := ⟨w.heap.size + 1, 1, none⟩) (by simp <;> omega) _).setCell (p := ⟨w.heap.size + 1, 2, none⟩) (by simp <;> omega) _).setCell (p := ⟨w.heap.size + 1, 3, none⟩) (by simp <;> omega) _).setCell (p := ⟨w.heap.size + 1, 4, none⟩) (by simp <;> omega) _) | (rw [HF.out]; exact GotSheet.none (((((HB.out.setCell (p := ⟨w.heap.size + 1, 0, none⟩) (by simp <;> omega) _).setCell (p := ⟨w.heap.size + 1, 1, none⟩) (by simp <;> omega) _).setCell (p := ⟨w.heap.size + 1, 2, none⟩) (by simp <;> omega) _).setCell (p := ⟨w.heap.size + 1, 3, none⟩) (by simp <;> omega) _).setCell (p := ⟨w.heap.size + 1, 4, none⟩) (by simp <;> omega) _))⟩
  obtain ⟨s1, s2, s3, s4, hm2, lx, ly⟩ := valid_parts hs
  obtain ⟨n, hn⟩ := Int.eq_ofNat_of_zero_le (show 0 ≤ wd * hi by omega)
  have hxn : xs.length = n := by omega
  have hyn : ys.length = n := by omega
  have n256 : n ≤ 256 := by omega
  have HF := Lib.hid hs
  have H_hs := Lib.hid hs; clear hs hm2 lx ly
  have HN := Lib.hid hn; have HX := Lib.hid hxn; have HY := Lib.hid hyn
  rw [show (wd * hi).toNat = n by rw [hn]; rfl]
  have CV : ∀ u, RowV u a (fvals xs) → RowV u b (fvals ys) → Calls Try.prog 76 #[.agg #[.int .i64 wd, .int .i64 hi, .bool wb, .slice a n ca, .slice b n cb]] u fun e w' => e = .returned (.bool true) ∧ Below u.heap.size u w' := fun u h1 h2 => by
    have := implValidSheet wd hi wb a b ca cb xs ys u h1 h2 hx hy
    rw [hxn, hyn, H_hs.out] at this; exact this
  have HCV := Lib.hid CV; clear CV
  rw [hxn, hyn]; clear hn hxn hyn
  have X := Blk.new w #[.int .i64 wd, .int .i64 hi, .bool wb, .slice a n ca, .slice b n cb] 27
  have R := Blk.new1 w (.cells #[.int .i64 wd, .int .i64 hi, .bool wb, .slice a n ca, .slice b n cb] 27) #[.int .i64 0, .int .i64 0, .bool false, .slice none 0 0, .slice none 0 0] 27
  replace X := X.alloc (.cells #[.int .i64 0, .int .i64 0, .bool false, .slice none 0 0, .slice none 0 0] 27)
  have HB : Hid (Below w.heap.size w ((w.alloc (.cells #[.int .i64 wd, .int .i64 hi, .bool wb, .slice a n ca, .slice b n cb] 27)).alloc (.cells #[.int .i64 0, .int .i64 0, .bool false, .slice none 0 0, .slice none 0 0] 27))) := Lib.hid (((Below.refl w.heap.size w).alloc (by simp <;> omega) _).alloc (by simp <;> omega) _)
  go_enter Try.func40, Try.ntmps40
  go_wp2_with fail
  generalize ((w.alloc (.cells #[.int .i64 wd, .int .i64 hi, .bool wb, .slice a n ca, .slice b n cb] 27)).alloc (.cells #[.int .i64 0, .int .i64 0, .bool false, .slice none 0 0, .slice none 0 0] 27)) = u1 at *
  have zr := R.lt
  refine (HCV.out _ (ha.later HB.out) (hb.later HB.out)).mono ?_
  rintro r u2 ⟨rfl, q⟩
  replace X := X.later q
  replace R := R.later q
  replace HB := Lib.hid (HB.out.trans (q.mono HB.out.size))
  clear q
  have zR2 := R.lt
  have b6 := HB.out; have hR : w.heap.size ≤ w.heap.size + 1 := by omega
  obtain ⟨Xc, Xf⟩ := X.open
  go_wp2_with fail
  clear Xc Xf
  have neX : w.heap.size ≠ w.heap.size + 1 := by omega
  have tk0 : True := trivial
  have tk1 : True := trivial
  have tk2 : True := trivial
  go_region_held3 (fun w' => (∀ i, w'.cell? ⟨w.heap.size, i, none⟩ = (#[.int .i64 wd, .int .i64 hi, .bool wb, .slice a n ca, .slice b n cb] : Array Value)[i]?) ∧ u2.grownBy w' (some (w.heap.size + 1))) (first | with_reducible exact keepR1_start X | with_reducible exact keepR1_later X neX (by assumption) (by assumption) | exact keepR1_set5 X neX (by assumption) _ _ _ _ _)
    (first
      | (go_at_call 53; have _t := tk0; clear _t tk0; (with_reducible refine (implShapeOf _ _ _ _ _ _ _ _ _ _).mono ?_); rintro r u3 ⟨rfl, qa0⟩)
      | (go_at_call 83; have _t := tk1; clear _t tk1; (with_reducible refine (impl_swapCells _ _ _ _).mono ?_); rintro r u4 ⟨rfl, qa1⟩)
      | (go_at_call 78; have _t := tk2; clear _t tk2; (with_reducible refine (implSheet_swp _ _ _ _ _ _ _ _ _ (swpF wd hi) n _ (row_heldR1 ha b6 hR (by assumption)) (row_heldR1 hb b6 hR (by assumption)) s1 s2 s3 s4 HN.out HX.out HY.out (swpF_impl s3 HN.out)).mono ?_); rintro r u5 ⟨g0, g1, c0, c1, rfl, oo0, oo1, gne, qa2⟩; obtain ⟨Rc, Rf⟩ := (R.later (below_next (below_next (below_next (below_drew u2) qa0) qa1) qa2)).open))
  go_wp2
  have z1 := HB.out.size; have z2 : u2.heap.size ≤ u3.heap.size := qa0.size; have z3 : u3.heap.size ≤ u4.heap.size := qa1.size
  have y0 : u4.heap.size ≤ g0 := oo0.bound g0 rfl; have y1 : u4.heap.size ≤ g1 := oo1.bound g1 rfl
  have zR := R.lt
  refine bodyPost_ret (v := .tuple #[.agg #[.int .i64 hi, .int .i64 wd, .bool wb, .slice (some ⟨g0, 0, none⟩) n c0, .slice (some ⟨g1, 0, none⟩) n c1], .bool true]) (by simp [results, Try.results40, go_sem, Rc]) rfl ⟨some ⟨g0, 0, none⟩, some ⟨g1, 0, none⟩, c0, c1, placed (swpF wd hi) n xs, placed (swpF wd hi) n ys, by rw [placed_length, placed_length]; first | rfl | (rw [HF.out]; rfl), ⟨(((((((oo0).lower (show w.heap.size ≤ _ by first | omega | exact z1 | exact Nat.le_trans z1 (Nat.le_trans z2 z3))).set (p := ⟨w.heap.size + 1, 0, none⟩) (ne_block (h := w.heap.size + 1) (by omega)) _).set (p := ⟨w.heap.size + 1, 1, none⟩) (ne_block (h := w.heap.size + 1) (by omega)) _).set (p := ⟨w.heap.size + 1, 2, none⟩) (ne_block (h := w.heap.size + 1) (by omega)) _).set (p := ⟨w.heap.size + 1, 3, none⟩) (ne_block (h := w.heap.size + 1) (by omega)) _).set (p := ⟨w.heap.size + 1, 4, none⟩) (ne_block (h := w.heap.size + 1) (by omega)) _), (((((((oo1).lower (show w.heap.size ≤ _ by first | omega | exact z1 | exact Nat.le_trans z1 (Nat.le_trans z2 z3))).set (p := ⟨w.heap.size + 1, 0, none⟩) (ne_block (h := w.heap.size + 1) (by omega)) _).set (p := ⟨w.heap.size + 1, 1, none⟩) (ne_block (h := w.heap.size + 1) (by omega)) _).set (p := ⟨w.heap.size + 1, 2, none⟩) (ne_block (h := w.heap.size + 1) (by omega)) _).set (p := ⟨w.heap.size + 1, 3, none⟩) (ne_block (h := w.heap.size + 1) (by omega)) _).set (p := ⟨w.heap.size + 1, 4, none⟩) (ne_block (h := w.heap.size + 1) (by omega)) _), apart_ne gne, is_placed qa n256, is_placed qb n256, ((((((HB.out.trans ((below_next (below_next (below_next (below_drew u2) qa0) qa1) qa2).mono HB.out.size)).setCell (p := ⟨w.heap.size + 1, 0, none⟩) (by simp <;> omega) _).setCell (p := ⟨w.heap.size + 1, 1, none⟩) (by simp <;> omega) _).setCell (p := ⟨w.heap.size + 1, 2, none⟩) (by simp <;> omega) _).setCell (p := ⟨w.heap.size + 1, 3, none⟩) (by simp <;> omega) _).setCell (p := ⟨w.heap.size + 1, 4, none⟩) (by simp <;> omega) _)⟩⟩

set_option maxHeartbeats 8000000 in
set_option maxRecDepth 100000 in
theorem specSwapSheetL (wd hi : Int) (wb : Bool) (a b : Option Addr) (ca cb : Nat) (xs ys : List Nat) (w : World) (ha : RowV w a (fvals xs)) (hb : RowV w b (fvals ys)) (qa : ∀ z ∈ xs, z < 2 ^ 32) (qb : ∀ z ∈ ys, z < 2 ^ 32) (hx : xs.length ≤ maxLen) (hy : ys.length ≤ maxLen) :
    Calls Try.prog 39 #[.agg #[.int .i64 wd, .int .i64 hi, .bool wb, .slice a xs.length ca, .slice b ys.length cb]] w (HasS w (validB wd hi xs ys) hi wd wb (placed (swpF wd hi) (wd * hi).toNat xs) (placed (swpF wd hi) (wd * hi).toNat ys)) := by
  rcases hs : validB wd hi xs ys with _ | _
  · skip
    have HF := Lib.hid hs
    have H_hs := Lib.hid hs; clear hs
    have X := Blk.new w #[.int .i64 wd, .int .i64 hi, .bool wb, .slice a xs.length ca, .slice b ys.length cb] 27
    have R := Blk.new1 w (.cells #[.int .i64 wd, .int .i64 hi, .bool wb, .slice a xs.length ca, .slice b ys.length cb] 27) #[.int .i64 0, .int .i64 0, .bool false, .slice none 0 0, .slice none 0 0] 27
    replace X := X.alloc (.cells #[.int .i64 0, .int .i64 0, .bool false, .slice none 0 0, .slice none 0 0] 27)
    have HB : Hid (Below w.heap.size w ((w.alloc (.cells #[.int .i64 wd, .int .i64 hi, .bool wb, .slice a xs.length ca, .slice b ys.length cb] 27)).alloc (.cells #[.int .i64 0, .int .i64 0, .bool false, .slice none 0 0, .slice none 0 0] 27))) := Lib.hid (((Below.refl w.heap.size w).alloc (by simp <;> omega) _).alloc (by simp <;> omega) _)
    go_enter Try.func39, Try.ntmps39
    go_wp2_with fail
    generalize ((w.alloc (.cells #[.int .i64 wd, .int .i64 hi, .bool wb, .slice a xs.length ca, .slice b ys.length cb] 27)).alloc (.cells #[.int .i64 0, .int .i64 0, .bool false, .slice none 0 0, .slice none 0 0] 27)) = u1 at *
    refine (specIs _ _ _ _ _ _ _ _ _ _ _ X (ha.later HB.out) (hb.later HB.out) hx hy).mono ?_
    rintro r u2 ⟨rfl, nq, hw⟩
    have q : Below u1.heap.size u1 u2 := by rw [hw]; exact below_drewN (Below.refl _ _) _
    clear hw
    replace X := X.later q
    replace R := R.later q
    replace HB := Lib.hid (HB.out.trans (q.mono HB.out.size))
    clear q
    rw [H_hs.out]
    obtain ⟨Xc, Xf⟩ := X.open
    obtain ⟨Rc, Rf⟩ := R.open
    go_wp2
    refine bodyPost_ret (v := .tuple #[.agg #[.int .i64 0, .int .i64 0, .bool false, .slice none 0 0, .slice none 0 0], .bool false]) (by simp [results, Try.results39, go_sem, Rc]) rfl ⟨none, none, 0, 0, [], [], by first | rfl | (rw [HF.out]; rfl), by first | exact HasSheet.none (((((HB.out.setCell (p := ⟨w.heap.size + 1, 0, none⟩) (by simp <;> omega) _).setCell (p := ⟨w.heap.size + 1, 1, none⟩) (by simp <;> omega) _).setCell (p := ⟨w.heap.size + 1, 2, none⟩) (by simp <;> omega) _).setCell (p := ⟨w.heap.size + 1, 3, none⟩) (by simp <;> omega) _).setCell (p := ⟨w.heap.size + 1, 4, none⟩) (by simp <;> omega) _) | (rw [HF.out]; exact HasSheet.none (((((HB.out.setCell (p := ⟨w.heap.size + 1, 0, none⟩) (by simp <;> omega) _).setCell (p := ⟨w.heap.size + 1, 1, none⟩) (by simp <;> omega) _).setCell (p := ⟨w.heap.size + 1, 2, none⟩) (by simp <;> omega) _).setCell (p := ⟨w.heap.size + 1, 3, none⟩) (by simp <;> omega) _).setCell (p := ⟨w.heap.size + 1, 4, none⟩) (by simp <;> omega) _))⟩
  obtain ⟨s1, s2, s3, s4, hm2, lx, ly⟩ := valid_parts hs
  obtain ⟨n, hn⟩ := Int.eq_ofNat_of_zero_le (show 0 ≤ wd * hi by omega)
  have hxn : xs.length = n := by omega
  have hyn : ys.length = n := by omega
  have n256 : n ≤ 256 := by omega
  have HF := Lib.hid hs
  have H_hs := Lib.hid hs; clear hs hm2 lx ly
  have HN := Lib.hid hn; have HX := Lib.hid hxn; have HY := Lib.hid hyn
  rw [show (wd * hi).toNat = n by rw [hn]; rfl]
  have CV : ∀ u, Blk u w.heap.size #[.int .i64 wd, .int .i64 hi, .bool wb, .slice a n ca, .slice b n cb] 27 → RowV u a (fvals xs) → RowV u b (fvals ys) → Calls Try.prog 66 #[.pointer (some ⟨w.heap.size, 0, none⟩)] u fun e w' => e = .returned (.bool true) ∧ Below u.heap.size u w' := fun u X h1 h2 => by
    have := specIs w.heap.size wd hi wb a b ca cb xs ys u (by rw [hxn, hyn]; exact X) h1 h2 hx hy
    rw [H_hs.out] at this
    exact this.mono fun e w' ⟨h, nq, hw⟩ => ⟨h, by rw [hw]; exact below_drewN (Below.refl _ _) _⟩
  have HCV := Lib.hid CV; clear CV
  rw [hxn, hyn]; clear hn hxn hyn
  have X := Blk.new w #[.int .i64 wd, .int .i64 hi, .bool wb, .slice a n ca, .slice b n cb] 27
  have R := Blk.new1 w (.cells #[.int .i64 wd, .int .i64 hi, .bool wb, .slice a n ca, .slice b n cb] 27) #[.int .i64 0, .int .i64 0, .bool false, .slice none 0 0, .slice none 0 0] 27
  replace X := X.alloc (.cells #[.int .i64 0, .int .i64 0, .bool false, .slice none 0 0, .slice none 0 0] 27)
  have HB : Hid (Below w.heap.size w ((w.alloc (.cells #[.int .i64 wd, .int .i64 hi, .bool wb, .slice a n ca, .slice b n cb] 27)).alloc (.cells #[.int .i64 0, .int .i64 0, .bool false, .slice none 0 0, .slice none 0 0] 27))) := Lib.hid (((Below.refl w.heap.size w).alloc (by simp <;> omega) _).alloc (by simp <;> omega) _)
  go_enter Try.func39, Try.ntmps39
  go_wp2_with fail
  generalize ((w.alloc (.cells #[.int .i64 wd, .int .i64 hi, .bool wb, .slice a n ca, .slice b n cb] 27)).alloc (.cells #[.int .i64 0, .int .i64 0, .bool false, .slice none 0 0, .slice none 0 0] 27)) = u1 at *
  have zr := R.lt
  refine (HCV.out _ X (ha.later HB.out) (hb.later HB.out)).mono ?_
  rintro r u2 ⟨rfl, q⟩
  replace X := X.later q
  replace R := R.later q
  replace HB := Lib.hid (HB.out.trans (q.mono HB.out.size))
  clear q
  have zR2 := R.lt
  obtain ⟨Xc, Xf⟩ := X.open
  obtain ⟨Rc, Rf⟩ := R.open
  go_wp2_with fail
  refine (specSheet2 _ _ _ _ _ _ _ _ _ _ _ _ _ _ (swpF wd hi) n _ X (ha.later HB.out) (hb.later HB.out) s3 s4 s1 s2 (by rw [Int.mul_comm]; exact HN.out) HX.out HY.out (swpF_spec s3 HN.out)).mono ?_
  rintro r u3 ⟨g0, g1, c0, c1, rfl, oo0, oo1, gne, q⟩
  have z1 := HB.out.size; have y0 := oo0.bound g0 rfl; have y1 := oo1.bound g1 rfl
  clear Xc Xf
  clear Rc Rf
  replace X := X.later q
  replace R := R.later q
  replace HB := Lib.hid (HB.out.trans (q.mono HB.out.size))
  clear q
  obtain ⟨Rc, Rf⟩ := R.open
  go_wp2
  have zR := R.lt
  refine bodyPost_ret (v := .tuple #[.agg #[.int .i64 hi, .int .i64 wd, .bool wb, .slice (some ⟨g0, 0, none⟩) n c0, .slice (some ⟨g1, 0, none⟩) n c1], .bool true]) (by simp [results, Try.results39, go_sem, Rc]) rfl ⟨some ⟨g0, 0, none⟩, some ⟨g1, 0, none⟩, c0, c1, placed (swpF wd hi) n xs, placed (swpF wd hi) n ys, by rw [placed_length, placed_length]; first | rfl | (rw [HF.out]; rfl), (GotSheet.has ⟨(((((((oo0).lower (show w.heap.size ≤ _ by first | omega | exact z1 | exact Nat.le_trans z1 (Nat.le_trans z2 z3))).set (p := ⟨w.heap.size + 1, 0, none⟩) (ne_block (h := w.heap.size + 1) (by omega)) _).set (p := ⟨w.heap.size + 1, 1, none⟩) (ne_block (h := w.heap.size + 1) (by omega)) _).set (p := ⟨w.heap.size + 1, 2, none⟩) (ne_block (h := w.heap.size + 1) (by omega)) _).set (p := ⟨w.heap.size + 1, 3, none⟩) (ne_block (h := w.heap.size + 1) (by omega)) _).set (p := ⟨w.heap.size + 1, 4, none⟩) (ne_block (h := w.heap.size + 1) (by omega)) _), (((((((oo1).lower (show w.heap.size ≤ _ by first | omega | exact z1 | exact Nat.le_trans z1 (Nat.le_trans z2 z3))).set (p := ⟨w.heap.size + 1, 0, none⟩) (ne_block (h := w.heap.size + 1) (by omega)) _).set (p := ⟨w.heap.size + 1, 1, none⟩) (ne_block (h := w.heap.size + 1) (by omega)) _).set (p := ⟨w.heap.size + 1, 2, none⟩) (ne_block (h := w.heap.size + 1) (by omega)) _).set (p := ⟨w.heap.size + 1, 3, none⟩) (ne_block (h := w.heap.size + 1) (by omega)) _).set (p := ⟨w.heap.size + 1, 4, none⟩) (ne_block (h := w.heap.size + 1) (by omega)) _), apart_ne gne, is_placed qa n256, is_placed qb n256, (((((HB.out.setCell (p := ⟨w.heap.size + 1, 0, none⟩) (by simp <;> omega) _).setCell (p := ⟨w.heap.size + 1, 1, none⟩) (by simp <;> omega) _).setCell (p := ⟨w.heap.size + 1, 2, none⟩) (by simp <;> omega) _).setCell (p := ⟨w.heap.size + 1, 3, none⟩) (by simp <;> omega) _).setCell (p := ⟨w.heap.size + 1, 4, none⟩) (by simp <;> omega) _)⟩)⟩

set_option maxHeartbeats 8000000 in
set_option maxRecDepth 100000 in
theorem implShiftSheetL (wd hi : Int) (wb : Bool) (a b : Option Addr) (ca cb : Nat) (xs ys : List Nat) (dx dy : Int) (w : World) (ha : RowV w a (fvals xs)) (hb : RowV w b (fvals ys)) (qa : ∀ z ∈ xs, z < 2 ^ 32) (qb : ∀ z ∈ ys, z < 2 ^ 32) (hx : xs.length ≤ maxLen) (hy : ys.length ≤ maxLen) (w1 : (Lit.int .i64 dx).wf = true) (w2 : (Lit.int .i64 dy).wf = true) :
    Calls Try.prog 44 #[.agg #[.int .i64 wd, .int .i64 hi, .bool wb, .slice a xs.length ca, .slice b ys.length cb], .int .i64 dx, .int .i64 dy] w (GaveS w.heap.size w (validB wd hi xs ys && (wb && shiftB dx dy)) wd hi wb (placed (shfF wd hi dx dy) (wd * hi).toNat xs) (placed (shfF wd hi dx dy) (wd * hi).toNat ys)) := by
  rcases hs : validB wd hi xs ys with _ | _
  · skip
    have HF : Hid ((validB wd hi xs ys && (wb && shiftB dx dy)) = false) := Lib.hid (by rw [hs]; rfl)
    have H_hs := Lib.hid hs; clear hs
    have X := Blk.new w #[.int .i64 wd, .int .i64 hi, .bool wb, .slice a xs.length ca, .slice b ys.length cb] 27
    have R := Blk.new1 w (.cells #[.int .i64 wd, .int .i64 hi, .bool wb, .slice a xs.length ca, .slice b ys.length cb] 27) #[.int .i64 0, .int .i64 0, .bool false, .slice none 0 0, .slice none 0 0] 27
    replace X := X.alloc (.cells #[.int .i64 0, .int .i64 0, .bool false, .slice none 0 0, .slice none 0 0] 27)
    have HB : Hid (Below w.heap.size w ((w.alloc (.cells #[.int .i64 wd, .int .i64 hi, .bool wb, .slice a xs.length ca, .slice b ys.length cb] 27)).alloc (.cells #[.int .i64 0, .int .i64 0, .bool false, .slice none 0 0, .slice none 0 0] 27))) := Lib.hid (((Below.refl w.heap.size w).alloc (by simp <;> omega) _).alloc (by simp <;> omega) _)
    go_enter Try.func44, Try.ntmps44
    go_wp2_with fail
    generalize ((w.alloc (.cells #[.int .i64 wd, .int .i64 hi, .bool wb, .slice a xs.length ca, .slice b ys.length cb] 27)).alloc (.cells #[.int .i64 0, .int .i64 0, .bool false, .slice none 0 0, .slice none 0 0] 27)) = u1 at *
    refine (implValidSheet _ _ _ _ _ _ _ _ _ _ (ha.later HB.out) (hb.later HB.out) hx hy).mono ?_
    rintro r u2 ⟨rfl, q⟩
    replace X := X.later q
    replace R := R.later q
    replace HB := Lib.hid (HB.out.trans (q.mono HB.out.size))
    clear q
    rw [H_hs.out]
    obtain ⟨Xc, Xf⟩ := X.open
    obtain ⟨Rc, Rf⟩ := R.open
    go_wp2
    refine bodyPost_ret (v := .tuple #[.agg #[.int .i64 0, .int .i64 0, .bool false, .slice none 0 0, .slice none 0 0], .bool false]) (by simp [results, Try.results44, go_sem, Rc]) rfl ⟨none, none, 0, 0, [], [], by first | rfl | (rw [HF.out]; rfl), by first | exact GotSheet.none (((((HB.out.setCell (p := ⟨w.heap.size + 1, 0, none⟩) (by simp <;> omega) _).setCell (p := ⟨w.heap.size + 1, 1, none⟩) (by simp <;> omega) _).setCell (p := ⟨w.heap.size + 1, 2, none⟩) (by simp <;> omega) _).setCell (p := ⟨w.heap.size + 1, 3, none⟩) (by simp <;> omega) _).setCell (p := ⟨w.heap.size + 1, 4, none⟩) (by simp <;> omega) _) | (rw [HF.out]; exact GotSheet.none (((((HB.out.setCell (p := ⟨w.heap.size + 1, 0, none⟩) (by simp <;> omega) _).setCell (p := ⟨w.heap.size + 1, 1, none⟩) (by simp <;> omega) _).setCell (p := ⟨w.heap.size + 1, 2, none⟩) (by simp <;> omega) _).setCell (p := ⟨w.heap.size + 1, 3, none⟩) (by simp <;> omega) _).setCell (p := ⟨w.heap.size + 1, 4, none⟩) (by simp <;> omega) _))⟩
  rcases hw0 : wb with _ | _
  · skip
    have HF : Hid ((validB wd hi xs ys && (wb && shiftB dx dy)) = false) := Lib.hid (by rw [hs, hw0]; rfl)
    have H_hs := Lib.hid hs; clear hs
    subst hw0
    have X := Blk.new w #[.int .i64 wd, .int .i64 hi, .bool false, .slice a xs.length ca, .slice b ys.length cb] 27
    have R := Blk.new1 w (.cells #[.int .i64 wd, .int .i64 hi, .bool false, .slice a xs.length ca, .slice b ys.length cb] 27) #[.int .i64 0, .int .i64 0, .bool false, .slice none 0 0, .slice none 0 0] 27
    replace X := X.alloc (.cells #[.int .i64 0, .int .i64 0, .bool false, .slice none 0 0, .slice none 0 0] 27)
    have HB : Hid (Below w.heap.size w ((w.alloc (.cells #[.int .i64 wd, .int .i64 hi, .bool false, .slice a xs.length ca, .slice b ys.length cb] 27)).alloc (.cells #[.int .i64 0, .int .i64 0, .bool false, .slice none 0 0, .slice none 0 0] 27))) := Lib.hid (((Below.refl w.heap.size w).alloc (by simp <;> omega) _).alloc (by simp <;> omega) _)
    go_enter Try.func44, Try.ntmps44
    go_wp2_with fail
    generalize ((w.alloc (.cells #[.int .i64 wd, .int .i64 hi, .bool false, .slice a xs.length ca, .slice b ys.length cb] 27)).alloc (.cells #[.int .i64 0, .int .i64 0, .bool false, .slice none 0 0, .slice none 0 0] 27)) = u1 at *
    refine (implValidSheet _ _ _ _ _ _ _ _ _ _ (ha.later HB.out) (hb.later HB.out) hx hy).mono ?_
    rintro r u2 ⟨rfl, q⟩
    replace X := X.later q
    replace R := R.later q
    replace HB := Lib.hid (HB.out.trans (q.mono HB.out.size))
    clear q
    rw [H_hs.out]
    obtain ⟨Xc, Xf⟩ := X.open
    go_wp2_with fail
    refine (implIsShift _ _ _ _ _ _ _ _ _ _ _ _).mono ?_
    rintro r u3 ⟨rfl, q⟩
    clear Xc Xf
    replace X := X.later q
    replace R := R.later q
    replace HB := Lib.hid (HB.out.trans (q.mono HB.out.size))
    clear q
    rw [show (false && shiftB dx dy) = false from rfl]
    obtain ⟨Xc, Xf⟩ := X.open
    obtain ⟨Rc, Rf⟩ := R.open
    go_wp2
    refine bodyPost_ret (v := .tuple #[.agg #[.int .i64 0, .int .i64 0, .bool false, .slice none 0 0, .slice none 0 0], .bool false]) (by simp [results, Try.results44, go_sem, Rc]) rfl ⟨none, none, 0, 0, [], [], by first | rfl | (rw [HF.out]; rfl), by first | exact GotSheet.none (((((HB.out.setCell (p := ⟨w.heap.size + 1, 0, none⟩) (by simp <;> omega) _).setCell (p := ⟨w.heap.size + 1, 1, none⟩) (by simp <;> omega) _).setCell (p := ⟨w.heap.size + 1, 2, none⟩) (by simp <;> omega) _).setCell (p := ⟨w.heap.size + 1, 3, none⟩) (by simp <;> omega) _).setCell (p := ⟨w.heap.size + 1, 4, none⟩) (by simp <;> omega) _) | (rw [HF.out]; exact GotSheet.none (((((HB.out.setCell (p := ⟨w.heap.size + 1, 0, none⟩) (by simp <;> omega) _).setCell (p := ⟨w.heap.size + 1, 1, none⟩) (by simp <;> omega) _).setCell (p := ⟨w.heap.size + 1, 2, none⟩) (by simp <;> omega) _).setCell (p := ⟨w.heap.size + 1, 3, none⟩) (by simp <;> omega) _).setCell (p := ⟨w.heap.size + 1, 4, none⟩) (by simp <;> omega) _))⟩
  rcases hsf : shiftB dx dy with _ | _
  · skip
    have HF : Hid ((validB wd hi xs ys && (wb && shiftB dx dy)) = false) := Lib.hid (by rw [hs, hw0, hsf]; rfl)
    have H_hs := Lib.hid hs; clear hs
    have H_hsf := Lib.hid hsf; clear hsf
    subst hw0
    have X := Blk.new w #[.int .i64 wd, .int .i64 hi, .bool true, .slice a xs.length ca, .slice b ys.length cb] 27
    have R := Blk.new1 w (.cells #[.int .i64 wd, .int .i64 hi, .bool true, .slice a xs.length ca, .slice b ys.length cb] 27) #[.int .i64 0, .int .i64 0, .bool false, .slice none 0 0, .slice none 0 0] 27
    replace X := X.alloc (.cells #[.int .i64 0, .int .i64 0, .bool false, .slice none 0 0, .slice none 0 0] 27)
    have HB : Hid (Below w.heap.size w ((w.alloc (.cells #[.int .i64 wd, .int .i64 hi, .bool true, .slice a xs.length ca, .slice b ys.length cb] 27)).alloc (.cells #[.int .i64 0, .int .i64 0, .bool false, .slice none 0 0, .slice none 0 0] 27))) := Lib.hid (((Below.refl w.heap.size w).alloc (by simp <;> omega) _).alloc (by simp <;> omega) _)
    go_enter Try.func44, Try.ntmps44
    go_wp2_with fail
    generalize ((w.alloc (.cells #[.int .i64 wd, .int .i64 hi, .bool true, .slice a xs.length ca, .slice b ys.length cb] 27)).alloc (.cells #[.int .i64 0, .int .i64 0, .bool false, .slice none 0 0, .slice none 0 0] 27)) = u1 at *
    refine (implValidSheet _ _ _ _ _ _ _ _ _ _ (ha.later HB.out) (hb.later HB.out) hx hy).mono ?_
    rintro r u2 ⟨rfl, q⟩
    replace X := X.later q
    replace R := R.later q
    replace HB := Lib.hid (HB.out.trans (q.mono HB.out.size))
    clear q
    rw [H_hs.out]
    obtain ⟨Xc, Xf⟩ := X.open
    go_wp2_with fail
    refine (implIsShift _ _ _ _ _ _ _ _ _ _ _ _).mono ?_
    rintro r u3 ⟨rfl, q⟩
    clear Xc Xf
    replace X := X.later q
    replace R := R.later q
    replace HB := Lib.hid (HB.out.trans (q.mono HB.out.size))
    clear q
    rw [show (true && shiftB dx dy) = false from H_hsf.out]
    obtain ⟨Xc, Xf⟩ := X.open
    obtain ⟨Rc, Rf⟩ := R.open
    go_wp2
    refine bodyPost_ret (v := .tuple #[.agg #[.int .i64 0, .int .i64 0, .bool false, .slice none 0 0, .slice none 0 0], .bool false]) (by simp [results, Try.results44, go_sem, Rc]) rfl ⟨none, none, 0, 0, [], [], by first | rfl | (rw [HF.out]; rfl), by first | exact GotSheet.none (((((HB.out.setCell (p := ⟨w.heap.size + 1, 0, none⟩) (by simp <;> omega) _).setCell (p := ⟨w.heap.size + 1, 1, none⟩) (by simp <;> omega) _).setCell (p := ⟨w.heap.size + 1, 2, none⟩) (by simp <;> omega) _).setCell (p := ⟨w.heap.size + 1, 3, none⟩) (by simp <;> omega) _).setCell (p := ⟨w.heap.size + 1, 4, none⟩) (by simp <;> omega) _) | (rw [HF.out]; exact GotSheet.none (((((HB.out.setCell (p := ⟨w.heap.size + 1, 0, none⟩) (by simp <;> omega) _).setCell (p := ⟨w.heap.size + 1, 1, none⟩) (by simp <;> omega) _).setCell (p := ⟨w.heap.size + 1, 2, none⟩) (by simp <;> omega) _).setCell (p := ⟨w.heap.size + 1, 3, none⟩) (by simp <;> omega) _).setCell (p := ⟨w.heap.size + 1, 4, none⟩) (by simp <;> omega) _))⟩
  obtain ⟨s1, s2, s3, s4, hm2, lx, ly⟩ := valid_parts hs
  obtain ⟨n, hn⟩ := Int.eq_ofNat_of_zero_le (show 0 ≤ wd * hi by omega)
  have hxn : xs.length = n := by omega
  have hyn : ys.length = n := by omega
  have n256 : n ≤ 256 := by omega
  have HF : Hid ((validB wd hi xs ys && (wb && shiftB dx dy)) = true) := Lib.hid (by rw [hs, hw0, hsf]; rfl)
  obtain ⟨e1, e2, e3, e4⟩ := shift_in hsf
  have H_hsf := Lib.hid hsf; clear hsf; subst hw0
  have H_hs := Lib.hid hs; clear hs hm2 lx ly
  have HN := Lib.hid hn; have HX := Lib.hid hxn; have HY := Lib.hid hyn
  rw [show (wd * hi).toNat = n by rw [hn]; rfl]
  have CV : ∀ u, RowV u a (fvals xs) → RowV u b (fvals ys) → Calls Try.prog 76 #[.agg #[.int .i64 wd, .int .i64 hi, .bool true, .slice a n ca, .slice b n cb]] u fun e w' => e = .returned (.bool true) ∧ Below u.heap.size u w' := fun u h1 h2 => by
    have := implValidSheet wd hi true a b ca cb xs ys u h1 h2 hx hy
    rw [hxn, hyn, H_hs.out] at this; exact this
  have HCV := Lib.hid CV; clear CV
  rw [hxn, hyn]; clear hn hxn hyn
  have X := Blk.new w #[.int .i64 wd, .int .i64 hi, .bool true, .slice a n ca, .slice b n cb] 27
  have R := Blk.new1 w (.cells #[.int .i64 wd, .int .i64 hi, .bool true, .slice a n ca, .slice b n cb] 27) #[.int .i64 0, .int .i64 0, .bool false, .slice none 0 0, .slice none 0 0] 27
  replace X := X.alloc (.cells #[.int .i64 0, .int .i64 0, .bool false, .slice none 0 0, .slice none 0 0] 27)
  have HB : Hid (Below w.heap.size w ((w.alloc (.cells #[.int .i64 wd, .int .i64 hi, .bool true, .slice a n ca, .slice b n cb] 27)).alloc (.cells #[.int .i64 0, .int .i64 0, .bool false, .slice none 0 0, .slice none 0 0] 27))) := Lib.hid (((Below.refl w.heap.size w).alloc (by simp <;> omega) _).alloc (by simp <;> omega) _)
  go_enter Try.func44, Try.ntmps44
  go_wp2_with fail
  generalize ((w.alloc (.cells #[.int .i64 wd, .int .i64 hi, .bool true, .slice a n ca, .slice b n cb] 27)).alloc (.cells #[.int .i64 0, .int .i64 0, .bool false, .slice none 0 0, .slice none 0 0] 27)) = u1 at *
  have zr := R.lt
  refine (HCV.out _ (ha.later HB.out) (hb.later HB.out)).mono ?_
  rintro r u2 ⟨rfl, q⟩
  replace X := X.later q
  replace R := R.later q
  replace HB := Lib.hid (HB.out.trans (q.mono HB.out.size))
  clear q
  obtain ⟨Xc, Xf⟩ := X.open
  go_wp2_with fail
  refine (implIsShift _ _ _ _ _ _ _ _ _ _ _ _).mono ?_
  rintro r u3 ⟨rfl, q⟩
  clear Xc Xf
  replace X := X.later q
  replace R := R.later q
  replace HB := Lib.hid (HB.out.trans (q.mono HB.out.size))
  clear q
  rw [show (true && shiftB dx dy) = true from H_hsf.out]
  have zR2 := R.lt
  have b6 := HB.out; have hR : w.heap.size ≤ w.heap.size + 1 := by omega
  obtain ⟨Xc, Xf⟩ := X.open
  go_wp2_with fail
  clear Xc Xf
  have neX : w.heap.size ≠ w.heap.size + 1 := by omega
  have tk0 : True := trivial
  have tk1 : True := trivial
  have tk2 : True := trivial
  go_region_held3 (fun w' => (∀ i, w'.cell? ⟨w.heap.size, i, none⟩ = (#[.int .i64 wd, .int .i64 hi, .bool true, .slice a n ca, .slice b n cb] : Array Value)[i]?) ∧ u3.grownBy w' (some (w.heap.size + 1))) (first | with_reducible exact keepR1_start X | with_reducible exact keepR1_later X neX (by assumption) (by assumption) | exact keepR1_set5 X neX (by assumption) _ _ _ _ _)
    (first
      | (go_at_call 53; have _t := tk0; clear _t tk0; (with_reducible refine (implShapeOf _ _ _ _ _ _ _ _ _ _).mono ?_); rintro r u4 ⟨rfl, qa0⟩)
      | (go_at_call 87; have _t := tk1; clear _t tk1; (with_reducible refine (impl_shiftCells _ _ _ _ _ _).mono ?_); rintro r u5 ⟨gh, gb, rfl, HH, HC, qa1⟩)
      | (go_at_call 78; have _t := tk2; clear _t tk2; (with_reducible refine (implSheet_shf _ _ _ gh gb _ _ _ _ _ _ _ _ (shfF wd hi dx dy) n _ (row_heldR1 ha b6 hR (by assumption)) (row_heldR1 hb b6 hR (by assumption)) s1 s2 s3 s4 HH HC e1 e2 e3 e4 HN.out HX.out HY.out (shfF_impl s1 s3 HN.out)).mono ?_); rintro r u6 ⟨g0, g1, c0, c1, rfl, oo0, oo1, gne, qa2⟩; obtain ⟨Rc, Rf⟩ := (R.later (below_next (below_next (below_next (below_drew u3) qa0) qa1) qa2)).open))
  go_wp2
  have z1 := HB.out.size; have z2 : u3.heap.size ≤ u4.heap.size := qa0.size; have z3 : u4.heap.size ≤ u5.heap.size := qa1.size
  have y0 : u5.heap.size ≤ g0 := oo0.bound g0 rfl; have y1 : u5.heap.size ≤ g1 := oo1.bound g1 rfl
  have zR := R.lt
  refine bodyPost_ret (v := .tuple #[.agg #[.int .i64 wd, .int .i64 hi, .bool true, .slice (some ⟨g0, 0, none⟩) n c0, .slice (some ⟨g1, 0, none⟩) n c1], .bool true]) (by simp [results, Try.results44, go_sem, Rc]) rfl ⟨some ⟨g0, 0, none⟩, some ⟨g1, 0, none⟩, c0, c1, placed (shfF wd hi dx dy) n xs, placed (shfF wd hi dx dy) n ys, by rw [placed_length, placed_length]; first | rfl | (rw [HF.out]; rfl), ⟨(((((((oo0).lower (show w.heap.size ≤ _ by first | omega | exact z1 | exact Nat.le_trans z1 (Nat.le_trans z2 z3))).set (p := ⟨w.heap.size + 1, 0, none⟩) (ne_block (h := w.heap.size + 1) (by omega)) _).set (p := ⟨w.heap.size + 1, 1, none⟩) (ne_block (h := w.heap.size + 1) (by omega)) _).set (p := ⟨w.heap.size + 1, 2, none⟩) (ne_block (h := w.heap.size + 1) (by omega)) _).set (p := ⟨w.heap.size + 1, 3, none⟩) (ne_block (h := w.heap.size + 1) (by omega)) _).set (p := ⟨w.heap.size + 1, 4, none⟩) (ne_block (h := w.heap.size + 1) (by omega)) _), (((((((oo1).lower (show w.heap.size ≤ _ by first | omega | exact z1 | exact Nat.le_trans z1 (Nat.le_trans z2 z3))).set (p := ⟨w.heap.size + 1, 0, none⟩) (ne_block (h := w.heap.size + 1) (by omega)) _).set (p := ⟨w.heap.size + 1, 1, none⟩) (ne_block (h := w.heap.size + 1) (by omega)) _).set (p := ⟨w.heap.size + 1, 2, none⟩) (ne_block (h := w.heap.size + 1) (by omega)) _).set (p := ⟨w.heap.size + 1, 3, none⟩) (ne_block (h := w.heap.size + 1) (by omega)) _).set (p := ⟨w.heap.size + 1, 4, none⟩) (ne_block (h := w.heap.size + 1) (by omega)) _), apart_ne gne, is_placed qa n256, is_placed qb n256, ((((((HB.out.trans ((below_next (below_next (below_next (below_drew u3) qa0) qa1) qa2).mono HB.out.size)).setCell (p := ⟨w.heap.size + 1, 0, none⟩) (by simp <;> omega) _).setCell (p := ⟨w.heap.size + 1, 1, none⟩) (by simp <;> omega) _).setCell (p := ⟨w.heap.size + 1, 2, none⟩) (by simp <;> omega) _).setCell (p := ⟨w.heap.size + 1, 3, none⟩) (by simp <;> omega) _).setCell (p := ⟨w.heap.size + 1, 4, none⟩) (by simp <;> omega) _)⟩⟩

set_option maxHeartbeats 8000000 in
set_option maxRecDepth 100000 in
theorem specShiftSheetL (wd hi : Int) (wb : Bool) (a b : Option Addr) (ca cb : Nat) (xs ys : List Nat) (dx dy : Int) (w : World) (ha : RowV w a (fvals xs)) (hb : RowV w b (fvals ys)) (qa : ∀ z ∈ xs, z < 2 ^ 32) (qb : ∀ z ∈ ys, z < 2 ^ 32) (hx : xs.length ≤ maxLen) (hy : ys.length ≤ maxLen) (w1 : (Lit.int .i64 dx).wf = true) (w2 : (Lit.int .i64 dy).wf = true) :
    Calls Try.prog 43 #[.agg #[.int .i64 wd, .int .i64 hi, .bool wb, .slice a xs.length ca, .slice b ys.length cb], .int .i64 dx, .int .i64 dy] w (HasS w (validB wd hi xs ys && (wb && shiftB dx dy)) wd hi wb (placed (shfF wd hi dx dy) (wd * hi).toNat xs) (placed (shfF wd hi dx dy) (wd * hi).toNat ys)) := by
  rcases hs : validB wd hi xs ys with _ | _
  · skip
    have HF : Hid ((validB wd hi xs ys && (wb && shiftB dx dy)) = false) := Lib.hid (by rw [hs]; rfl)
    have H_hs := Lib.hid hs; clear hs
    have X := Blk.new w #[.int .i64 wd, .int .i64 hi, .bool wb, .slice a xs.length ca, .slice b ys.length cb] 27
    have R := Blk.new1 w (.cells #[.int .i64 wd, .int .i64 hi, .bool wb, .slice a xs.length ca, .slice b ys.length cb] 27) #[.int .i64 0, .int .i64 0, .bool false, .slice none 0 0, .slice none 0 0] 27
    replace X := X.alloc (.cells #[.int .i64 0, .int .i64 0, .bool false, .slice none 0 0, .slice none 0 0] 27)
    have HB : Hid (Below w.heap.size w ((w.alloc (.cells #[.int .i64 wd, .int .i64 hi, .bool wb, .slice a xs.length ca, .slice b ys.length cb] 27)).alloc (.cells #[.int .i64 0, .int .i64 0, .bool false, .slice none 0 0, .slice none 0 0] 27))) := Lib.hid (((Below.refl w.heap.size w).alloc (by simp <;> omega) _).alloc (by simp <;> omega) _)
    go_enter Try.func43, Try.ntmps43
    go_wp2_with fail
    generalize ((w.alloc (.cells #[.int .i64 wd, .int .i64 hi, .bool wb, .slice a xs.length ca, .slice b ys.length cb] 27)).alloc (.cells #[.int .i64 0, .int .i64 0, .bool false, .slice none 0 0, .slice none 0 0] 27)) = u1 at *
    refine (specIs _ _ _ _ _ _ _ _ _ _ _ X (ha.later HB.out) (hb.later HB.out) hx hy).mono ?_
    rintro r u2 ⟨rfl, nq, hw⟩
    have q : Below u1.heap.size u1 u2 := by rw [hw]; exact below_drewN (Below.refl _ _) _
    clear hw
    replace X := X.later q
    replace R := R.later q
    replace HB := Lib.hid (HB.out.trans (q.mono HB.out.size))
    clear q
    rw [H_hs.out]
    obtain ⟨Xc, Xf⟩ := X.open
    obtain ⟨Rc, Rf⟩ := R.open
    go_wp2
    refine bodyPost_ret (v := .tuple #[.agg #[.int .i64 0, .int .i64 0, .bool false, .slice none 0 0, .slice none 0 0], .bool false]) (by simp [results, Try.results43, go_sem, Rc]) rfl ⟨none, none, 0, 0, [], [], by first | rfl | (rw [HF.out]; rfl), by first | exact HasSheet.none (((((HB.out.setCell (p := ⟨w.heap.size + 1, 0, none⟩) (by simp <;> omega) _).setCell (p := ⟨w.heap.size + 1, 1, none⟩) (by simp <;> omega) _).setCell (p := ⟨w.heap.size + 1, 2, none⟩) (by simp <;> omega) _).setCell (p := ⟨w.heap.size + 1, 3, none⟩) (by simp <;> omega) _).setCell (p := ⟨w.heap.size + 1, 4, none⟩) (by simp <;> omega) _) | (rw [HF.out]; exact HasSheet.none (((((HB.out.setCell (p := ⟨w.heap.size + 1, 0, none⟩) (by simp <;> omega) _).setCell (p := ⟨w.heap.size + 1, 1, none⟩) (by simp <;> omega) _).setCell (p := ⟨w.heap.size + 1, 2, none⟩) (by simp <;> omega) _).setCell (p := ⟨w.heap.size + 1, 3, none⟩) (by simp <;> omega) _).setCell (p := ⟨w.heap.size + 1, 4, none⟩) (by simp <;> omega) _))⟩
  rcases hw0 : wb with _ | _
  · skip
    have HF : Hid ((validB wd hi xs ys && (wb && shiftB dx dy)) = false) := Lib.hid (by rw [hs, hw0]; rfl)
    have H_hs := Lib.hid hs; clear hs
    subst hw0
    have X := Blk.new w #[.int .i64 wd, .int .i64 hi, .bool false, .slice a xs.length ca, .slice b ys.length cb] 27
    have R := Blk.new1 w (.cells #[.int .i64 wd, .int .i64 hi, .bool false, .slice a xs.length ca, .slice b ys.length cb] 27) #[.int .i64 0, .int .i64 0, .bool false, .slice none 0 0, .slice none 0 0] 27
    replace X := X.alloc (.cells #[.int .i64 0, .int .i64 0, .bool false, .slice none 0 0, .slice none 0 0] 27)
    have HB : Hid (Below w.heap.size w ((w.alloc (.cells #[.int .i64 wd, .int .i64 hi, .bool false, .slice a xs.length ca, .slice b ys.length cb] 27)).alloc (.cells #[.int .i64 0, .int .i64 0, .bool false, .slice none 0 0, .slice none 0 0] 27))) := Lib.hid (((Below.refl w.heap.size w).alloc (by simp <;> omega) _).alloc (by simp <;> omega) _)
    go_enter Try.func43, Try.ntmps43
    go_wp2_with fail
    generalize ((w.alloc (.cells #[.int .i64 wd, .int .i64 hi, .bool false, .slice a xs.length ca, .slice b ys.length cb] 27)).alloc (.cells #[.int .i64 0, .int .i64 0, .bool false, .slice none 0 0, .slice none 0 0] 27)) = u1 at *
    refine (specIs _ _ _ _ _ _ _ _ _ _ _ X (ha.later HB.out) (hb.later HB.out) hx hy).mono ?_
    rintro r u2 ⟨rfl, nq, hw⟩
    have q : Below u1.heap.size u1 u2 := by rw [hw]; exact below_drewN (Below.refl _ _) _
    clear hw
    replace X := X.later q
    replace R := R.later q
    replace HB := Lib.hid (HB.out.trans (q.mono HB.out.size))
    clear q
    rw [H_hs.out]
    obtain ⟨Xc, Xf⟩ := X.open
    clear Xc Xf
    obtain ⟨Xc, Xf⟩ := X.open
    obtain ⟨Rc, Rf⟩ := R.open
    go_wp2
    refine bodyPost_ret (v := .tuple #[.agg #[.int .i64 0, .int .i64 0, .bool false, .slice none 0 0, .slice none 0 0], .bool false]) (by simp [results, Try.results43, go_sem, Rc]) rfl ⟨none, none, 0, 0, [], [], by first | rfl | (rw [HF.out]; rfl), by first | exact HasSheet.none (((((HB.out.setCell (p := ⟨w.heap.size + 1, 0, none⟩) (by simp <;> omega) _).setCell (p := ⟨w.heap.size + 1, 1, none⟩) (by simp <;> omega) _).setCell (p := ⟨w.heap.size + 1, 2, none⟩) (by simp <;> omega) _).setCell (p := ⟨w.heap.size + 1, 3, none⟩) (by simp <;> omega) _).setCell (p := ⟨w.heap.size + 1, 4, none⟩) (by simp <;> omega) _) | (rw [HF.out]; exact HasSheet.none (((((HB.out.setCell (p := ⟨w.heap.size + 1, 0, none⟩) (by simp <;> omega) _).setCell (p := ⟨w.heap.size + 1, 1, none⟩) (by simp <;> omega) _).setCell (p := ⟨w.heap.size + 1, 2, none⟩) (by simp <;> omega) _).setCell (p := ⟨w.heap.size + 1, 3, none⟩) (by simp <;> omega) _).setCell (p := ⟨w.heap.size + 1, 4, none⟩) (by simp <;> omega) _))⟩
  rcases hsf : shiftB dx dy with _ | _
  · skip
    have HF : Hid ((validB wd hi xs ys && (wb && shiftB dx dy)) = false) := Lib.hid (by rw [hs, hw0, hsf]; rfl)
    have H_hs := Lib.hid hs; clear hs
    have H_hsf := Lib.hid hsf; clear hsf
    subst hw0
    have X := Blk.new w #[.int .i64 wd, .int .i64 hi, .bool true, .slice a xs.length ca, .slice b ys.length cb] 27
    have R := Blk.new1 w (.cells #[.int .i64 wd, .int .i64 hi, .bool true, .slice a xs.length ca, .slice b ys.length cb] 27) #[.int .i64 0, .int .i64 0, .bool false, .slice none 0 0, .slice none 0 0] 27
    replace X := X.alloc (.cells #[.int .i64 0, .int .i64 0, .bool false, .slice none 0 0, .slice none 0 0] 27)
    have HB : Hid (Below w.heap.size w ((w.alloc (.cells #[.int .i64 wd, .int .i64 hi, .bool true, .slice a xs.length ca, .slice b ys.length cb] 27)).alloc (.cells #[.int .i64 0, .int .i64 0, .bool false, .slice none 0 0, .slice none 0 0] 27))) := Lib.hid (((Below.refl w.heap.size w).alloc (by simp <;> omega) _).alloc (by simp <;> omega) _)
    go_enter Try.func43, Try.ntmps43
    go_wp2_with fail
    generalize ((w.alloc (.cells #[.int .i64 wd, .int .i64 hi, .bool true, .slice a xs.length ca, .slice b ys.length cb] 27)).alloc (.cells #[.int .i64 0, .int .i64 0, .bool false, .slice none 0 0, .slice none 0 0] 27)) = u1 at *
    refine (specIs _ _ _ _ _ _ _ _ _ _ _ X (ha.later HB.out) (hb.later HB.out) hx hy).mono ?_
    rintro r u2 ⟨rfl, nq, hw⟩
    have q : Below u1.heap.size u1 u2 := by rw [hw]; exact below_drewN (Below.refl _ _) _
    clear hw
    replace X := X.later q
    replace R := R.later q
    replace HB := Lib.hid (HB.out.trans (q.mono HB.out.size))
    clear q
    rw [H_hs.out]
    obtain ⟨Xc, Xf⟩ := X.open
    go_wp2_with fail
    refine (specShift _ _ _).mono ?_
    rintro r _ ⟨rfl, rfl⟩
    rw [H_hsf.out]
    clear Xc Xf
    obtain ⟨Rc, Rf⟩ := R.open
    clear Rc Rf
    obtain ⟨Xc, Xf⟩ := X.open
    obtain ⟨Rc, Rf⟩ := R.open
    go_wp2
    refine bodyPost_ret (v := .tuple #[.agg #[.int .i64 0, .int .i64 0, .bool false, .slice none 0 0, .slice none 0 0], .bool false]) (by simp [results, Try.results43, go_sem, Rc]) rfl ⟨none, none, 0, 0, [], [], by first | rfl | (rw [HF.out]; rfl), by first | exact HasSheet.none (((((HB.out.setCell (p := ⟨w.heap.size + 1, 0, none⟩) (by simp <;> omega) _).setCell (p := ⟨w.heap.size + 1, 1, none⟩) (by simp <;> omega) _).setCell (p := ⟨w.heap.size + 1, 2, none⟩) (by simp <;> omega) _).setCell (p := ⟨w.heap.size + 1, 3, none⟩) (by simp <;> omega) _).setCell (p := ⟨w.heap.size + 1, 4, none⟩) (by simp <;> omega) _) | (rw [HF.out]; exact HasSheet.none (((((HB.out.setCell (p := ⟨w.heap.size + 1, 0, none⟩) (by simp <;> omega) _).setCell (p := ⟨w.heap.size + 1, 1, none⟩) (by simp <;> omega) _).setCell (p := ⟨w.heap.size + 1, 2, none⟩) (by simp <;> omega) _).setCell (p := ⟨w.heap.size + 1, 3, none⟩) (by simp <;> omega) _).setCell (p := ⟨w.heap.size + 1, 4, none⟩) (by simp <;> omega) _))⟩
  obtain ⟨s1, s2, s3, s4, hm2, lx, ly⟩ := valid_parts hs
  obtain ⟨n, hn⟩ := Int.eq_ofNat_of_zero_le (show 0 ≤ wd * hi by omega)
  have hxn : xs.length = n := by omega
  have hyn : ys.length = n := by omega
  have n256 : n ≤ 256 := by omega
  have HF : Hid ((validB wd hi xs ys && (wb && shiftB dx dy)) = true) := Lib.hid (by rw [hs, hw0, hsf]; rfl)
  obtain ⟨e1, e2, e3, e4⟩ := shift_in hsf
  have H_hsf := Lib.hid hsf; clear hsf; subst hw0
  have H_hs := Lib.hid hs; clear hs hm2 lx ly
  have HN := Lib.hid hn; have HX := Lib.hid hxn; have HY := Lib.hid hyn
  rw [show (wd * hi).toNat = n by rw [hn]; rfl]
  have CV : ∀ u, Blk u w.heap.size #[.int .i64 wd, .int .i64 hi, .bool true, .slice a n ca, .slice b n cb] 27 → RowV u a (fvals xs) → RowV u b (fvals ys) → Calls Try.prog 66 #[.pointer (some ⟨w.heap.size, 0, none⟩)] u fun e w' => e = .returned (.bool true) ∧ Below u.heap.size u w' := fun u X h1 h2 => by
    have := specIs w.heap.size wd hi true a b ca cb xs ys u (by rw [hxn, hyn]; exact X) h1 h2 hx hy
    rw [H_hs.out] at this
    exact this.mono fun e w' ⟨h, nq, hw⟩ => ⟨h, by rw [hw]; exact below_drewN (Below.refl _ _) _⟩
  have HCV := Lib.hid CV; clear CV
  rw [hxn, hyn]; clear hn hxn hyn
  have X := Blk.new w #[.int .i64 wd, .int .i64 hi, .bool true, .slice a n ca, .slice b n cb] 27
  have R := Blk.new1 w (.cells #[.int .i64 wd, .int .i64 hi, .bool true, .slice a n ca, .slice b n cb] 27) #[.int .i64 0, .int .i64 0, .bool false, .slice none 0 0, .slice none 0 0] 27
  replace X := X.alloc (.cells #[.int .i64 0, .int .i64 0, .bool false, .slice none 0 0, .slice none 0 0] 27)
  have HB : Hid (Below w.heap.size w ((w.alloc (.cells #[.int .i64 wd, .int .i64 hi, .bool true, .slice a n ca, .slice b n cb] 27)).alloc (.cells #[.int .i64 0, .int .i64 0, .bool false, .slice none 0 0, .slice none 0 0] 27))) := Lib.hid (((Below.refl w.heap.size w).alloc (by simp <;> omega) _).alloc (by simp <;> omega) _)
  go_enter Try.func43, Try.ntmps43
  go_wp2_with fail
  generalize ((w.alloc (.cells #[.int .i64 wd, .int .i64 hi, .bool true, .slice a n ca, .slice b n cb] 27)).alloc (.cells #[.int .i64 0, .int .i64 0, .bool false, .slice none 0 0, .slice none 0 0] 27)) = u1 at *
  have zr := R.lt
  refine (HCV.out _ X (ha.later HB.out) (hb.later HB.out)).mono ?_
  rintro r u2 ⟨rfl, q⟩
  replace X := X.later q
  replace R := R.later q
  replace HB := Lib.hid (HB.out.trans (q.mono HB.out.size))
  clear q
  obtain ⟨Xc, Xf⟩ := X.open
  go_wp2_with fail
  refine (specShift _ _ _).mono ?_
  rintro r _ ⟨rfl, rfl⟩
  rw [H_hsf.out]
  clear Xc Xf
  have zR2 := R.lt
  obtain ⟨Xc, Xf⟩ := X.open
  obtain ⟨Rc, Rf⟩ := R.open
  have n0 : wd ≠ 0 := by omega
  have n1 : hi ≠ 0 := by omega
  have t1 : dx.tmod wd < wd := Int.tmod_lt_of_pos _ (by omega)
  have t2 : -wd < dx.tmod wd := Int.lt_tmod_of_pos _ (by omega)
  have t3 : dy.tmod hi < hi := Int.tmod_lt_of_pos _ (by omega)
  have t4 : -hi < dy.tmod hi := Int.lt_tmod_of_pos _ (by omega)
  have b6 := HB.out; have hR : w.heap.size ≤ w.heap.size + 1 := by omega
  go_wp2_with fail
  clear Xc Xf
  clear Rc Rf
  have neX : w.heap.size ≠ w.heap.size + 1 := by omega
  have tk0 : True := trivial
  go_region_held3 (fun w' => (∀ i, w'.cell? ⟨w.heap.size, i, none⟩ = (#[.int .i64 wd, .int .i64 hi, .bool true, .slice a n ca, .slice b n cb] : Array Value)[i]?) ∧ u2.grownBy w' (some (w.heap.size + 1))) (first | with_reducible exact keepR1_start X | with_reducible exact keepR1_later X neX (by assumption) (by assumption) | exact keepR1_set5 X neX (by assumption) _ _ _ _ _)
    (first
      | (go_at_call 75; have _t := tk0; clear _t tk0; (with_reducible refine (specSheet3 _ _ _ _ _ _ _ _ _ _ _ _ _ _ (shfF wd hi dx dy) n _ (blk_heldR1 X neX (by assumption)) (row_heldR1 ha b6 hR (by assumption)) (row_heldR1 hb b6 hR (by assumption)) s1 s2 s3 s4 t2 t1 t4 t3 HN.out HX.out HY.out (shfF_spec s1 s3 HN.out)).mono ?_); rintro r u3 ⟨g0, g1, c0, c1, rfl, oo0, oo1, gne, qa0⟩; obtain ⟨Rc, Rf⟩ := (R.later (below_next (below_drew u2) qa0)).open))
  go_wp2
  have z1 := HB.out.size
  have y0 : u2.heap.size ≤ g0 := oo0.bound g0 rfl; have y1 : u2.heap.size ≤ g1 := oo1.bound g1 rfl
  have zR := R.lt
  refine bodyPost_ret (v := .tuple #[.agg #[.int .i64 wd, .int .i64 hi, .bool true, .slice (some ⟨g0, 0, none⟩) n c0, .slice (some ⟨g1, 0, none⟩) n c1], .bool true]) (by simp [results, Try.results43, go_sem, Rc]) rfl ⟨some ⟨g0, 0, none⟩, some ⟨g1, 0, none⟩, c0, c1, placed (shfF wd hi dx dy) n xs, placed (shfF wd hi dx dy) n ys, by rw [placed_length, placed_length]; first | rfl | (rw [HF.out]; rfl), (GotSheet.has ⟨(((((((oo0).lower (show w.heap.size ≤ _ by first | omega | exact z1 | exact Nat.le_trans z1 (Nat.le_trans z2 z3))).set (p := ⟨w.heap.size + 1, 0, none⟩) (ne_block (h := w.heap.size + 1) (by omega)) _).set (p := ⟨w.heap.size + 1, 1, none⟩) (ne_block (h := w.heap.size + 1) (by omega)) _).set (p := ⟨w.heap.size + 1, 2, none⟩) (ne_block (h := w.heap.size + 1) (by omega)) _).set (p := ⟨w.heap.size + 1, 3, none⟩) (ne_block (h := w.heap.size + 1) (by omega)) _).set (p := ⟨w.heap.size + 1, 4, none⟩) (ne_block (h := w.heap.size + 1) (by omega)) _), (((((((oo1).lower (show w.heap.size ≤ _ by first | omega | exact z1 | exact Nat.le_trans z1 (Nat.le_trans z2 z3))).set (p := ⟨w.heap.size + 1, 0, none⟩) (ne_block (h := w.heap.size + 1) (by omega)) _).set (p := ⟨w.heap.size + 1, 1, none⟩) (ne_block (h := w.heap.size + 1) (by omega)) _).set (p := ⟨w.heap.size + 1, 2, none⟩) (ne_block (h := w.heap.size + 1) (by omega)) _).set (p := ⟨w.heap.size + 1, 3, none⟩) (ne_block (h := w.heap.size + 1) (by omega)) _).set (p := ⟨w.heap.size + 1, 4, none⟩) (ne_block (h := w.heap.size + 1) (by omega)) _), apart_ne gne, is_placed qa n256, is_placed qb n256, ((((((HB.out.trans ((below_next (below_drew u2) qa0).mono HB.out.size)).setCell (p := ⟨w.heap.size + 1, 0, none⟩) (by simp <;> omega) _).setCell (p := ⟨w.heap.size + 1, 1, none⟩) (by simp <;> omega) _).setCell (p := ⟨w.heap.size + 1, 2, none⟩) (by simp <;> omega) _).setCell (p := ⟨w.heap.size + 1, 3, none⟩) (by simp <;> omega) _).setCell (p := ⟨w.heap.size + 1, 4, none⟩) (by simp <;> omega) _)⟩)⟩

end Go.Proofs.Ytpnfgchifclhlaa
