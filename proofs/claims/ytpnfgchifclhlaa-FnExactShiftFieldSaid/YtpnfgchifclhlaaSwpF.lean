/- Mirrored, exchanged and shifted fields: the program's and the model's. Conditions: none beyond those of each theorem. -/
import Derived.Test.YtpnfgchifclhlaaMirS
import Derived.Test.YtpnfgchifclhlaaBu5
namespace Go.Proofs.Ytpnfgchifclhlaa
open Go Ieee Go.RowKit
set_option linter.unusedVariables false

def GaveF (w : World) (b : Bool) (z0 z1 z2 : List Nat) (r : Ending) (w' : World) : Prop :=
  ∃ (a0 a1 a2 : Option Addr) (c0 c1 c2 : Nat) (y0 y1 y2 : List Nat), r = .returned (.tuple #[.agg #[.slice a0 y0.length c0, .slice a1 y1.length c1, .slice a2 y2.length c2], .bool b]) ∧ GotField w.heap.size w w' (ifL b z0) (ifL b z1) (ifL b z2) a0 a1 a2 y0 y1 y2

def OwnF (w : World) (b : Bool) (z0 z1 z2 : List Nat) (r : Ending) (w' : World) : Prop :=
  ∃ (a0 a1 a2 : Option Addr) (c0 c1 c2 : Nat) (y0 y1 y2 : List Nat), r = .returned (.tuple #[.agg #[.slice a0 y0.length c0, .slice a1 y1.length c1, .slice a2 y2.length c2], .bool b]) ∧ OwnField w w' (ifL b z0) (ifL b z1) (ifL b z2) a0 a1 a2 y0 y1 y2

theorem GaveF.own {w w' : World} {b : Bool} {z0 z1 z2 : List Nat} {r : Ending} (h : GaveF w b z0 z1 z2 r w') : OwnF w b z0 z1 z2 r w' := by
  obtain ⟨a0, a1, a2, c0, c1, c2, y0, y1, y2, hr, hg⟩ := h
  exact ⟨a0, a1, a2, c0, c1, c2, y0, y1, y2, hr, hg.own⟩

set_option maxHeartbeats 8000000 in
set_option maxRecDepth 100000 in
theorem implSwapFieldL (wd hi : Int) (wb : Bool) (a b : Option Addr) (ca cb : Nat) (xs ys : List Nat) (a0 a1 a2 : Option Addr) (c0 c1 c2 : Nat) (e x y : List Nat) (w : World) (ha : RowV w a (fvals xs)) (hb : RowV w b (fvals ys)) (qa : ∀ z ∈ xs, z < 2 ^ 32) (qb : ∀ z ∈ ys, z < 2 ^ 32) (hx : xs.length ≤ maxLen) (hy : ys.length ≤ maxLen) (h0 : RowV w a0 (fvals e)) (h1 : RowV w a1 (fvals x)) (h2 : RowV w a2 (fvals y)) (q0 : ∀ z ∈ e, z < 2 ^ 32) (q1 : ∀ z ∈ x, z < 2 ^ 32) (q2 : ∀ z ∈ y, z < 2 ^ 32) (m0 : e.length ≤ maxLen) (m1 : x.length ≤ maxLen) (m2 : y.length ≤ maxLen) :
    Calls Try.prog 42 #[.agg #[.int .i64 wd, .int .i64 hi, .bool wb, .slice a xs.length ca, .slice b ys.length cb], .agg #[.slice a0 e.length c0, .slice a1 x.length c1, .slice a2 y.length c2]] w (GaveF w (fieldB wd hi wb xs ys e x y) (placed (swpF wd hi) (wd * hi).toNat e) (turned (placed (swpF wd hi) (wd * hi).toNat y)) (turned (placed (swpF wd hi) (wd * hi).toNat x))) := by
  have hfb := valB_split wd hi wb xs ys e x y; have HFB := Lib.hid hfb; clear hfb
  rcases hs : validB wd hi xs ys with _ | _
  · skip
    have hfbv : fieldB wd hi wb xs ys e x y = false := by rw [HFB.out, hs]; rfl
    have HBV := Lib.hid hfbv
    have H_fb := Lib.hid hfbv; clear hfbv
    have H_hs := Lib.hid hs; clear hs
    rw [HBV.out]
    have X := Blk.new w #[.int .i64 wd, .int .i64 hi, .bool wb, .slice a xs.length ca, .slice b ys.length cb] 27
    have Y := Blk.new1 w (.cells #[.int .i64 wd, .int .i64 hi, .bool wb, .slice a xs.length ca, .slice b ys.length cb] 27) #[.slice a0 e.length c0, .slice a1 x.length c1, .slice a2 y.length c2] 39
    replace X := X.alloc (.cells #[.slice a0 e.length c0, .slice a1 x.length c1, .slice a2 y.length c2] 39)
    have R := Blk.new2 w (.cells #[.int .i64 wd, .int .i64 hi, .bool wb, .slice a xs.length ca, .slice b ys.length cb] 27) (.cells #[.slice a0 e.length c0, .slice a1 x.length c1, .slice a2 y.length c2] 39) #[.slice none 0 0, .slice none 0 0, .slice none 0 0] 39
    replace X := X.alloc (.cells #[.slice none 0 0, .slice none 0 0, .slice none 0 0] 39)
    replace Y := Y.alloc (.cells #[.slice none 0 0, .slice none 0 0, .slice none 0 0] 39)
    have HB : Hid (Below w.heap.size w (((w.alloc (.cells #[.int .i64 wd, .int .i64 hi, .bool wb, .slice a xs.length ca, .slice b ys.length cb] 27)).alloc (.cells #[.slice a0 e.length c0, .slice a1 x.length c1, .slice a2 y.length c2] 39)).alloc (.cells #[.slice none 0 0, .slice none 0 0, .slice none 0 0] 39))) := Lib.hid ((((Below.refl w.heap.size w).alloc (by simp <;> omega) _).alloc (by simp <;> omega) _).alloc (by simp <;> omega) _)
    go_enter Try.func42, Try.ntmps42
    go_wp2_with fail
    generalize (((w.alloc (.cells #[.int .i64 wd, .int .i64 hi, .bool wb, .slice a xs.length ca, .slice b ys.length cb] 27)).alloc (.cells #[.slice a0 e.length c0, .slice a1 x.length c1, .slice a2 y.length c2] 39)).alloc (.cells #[.slice none 0 0, .slice none 0 0, .slice none 0 0] 39)) = u1 at *
    refine (implIsField _ _ _ _ _ _ _ _ _ _ _ _ _ _ _ _ _ _ _ (ha.later HB.out) (hb.later HB.out) hx hy (h0.later HB.out) (h1.later HB.out) (h2.later HB.out) m0 m1 m2).mono ?_
    rintro r u2 ⟨rfl, q⟩
    replace X := X.later q
    replace Y := Y.later q
    replace R := R.later q
    replace HB := Lib.hid (HB.out.trans (q.mono HB.out.size))
    clear q
    rw [H_fb.out]
    obtain ⟨Xc, Xf⟩ := X.open
    obtain ⟨Rc, Rf⟩ := R.open
    go_wp2
    refine bodyPost_ret (v := .tuple #[.agg #[.slice none 0 0, .slice none 0 0, .slice none 0 0], .bool false]) (by simp [results, Try.results42, go_sem, Rc]) rfl ⟨none, none, none, 0, 0, 0, [], [], [], rfl, GotField.none (((HB.out.setCell (p := ⟨w.heap.size + 1 + 1, 0, none⟩) (by first | omega | (simp <;> omega)) _).setCell (p := ⟨w.heap.size + 1 + 1, 1, none⟩) (by first | omega | (simp <;> omega)) _).setCell (p := ⟨w.heap.size + 1 + 1, 2, none⟩) (by first | omega | (simp <;> omega)) _)⟩
  rcases hf : fitsB wd hi wb e x y with _ | _
  · skip
    have hfbv : fieldB wd hi wb xs ys e x y = false := by rw [HFB.out, hs, hf]; rfl
    have HBV := Lib.hid hfbv
    have H_fb := Lib.hid hfbv; clear hfbv
    have H_hs := Lib.hid hs; clear hs
    have H_hf := Lib.hid hf; clear hf
    rw [HBV.out]
    have X := Blk.new w #[.int .i64 wd, .int .i64 hi, .bool wb, .slice a xs.length ca, .slice b ys.length cb] 27
    have Y := Blk.new1 w (.cells #[.int .i64 wd, .int .i64 hi, .bool wb, .slice a xs.length ca, .slice b ys.length cb] 27) #[.slice a0 e.length c0, .slice a1 x.length c1, .slice a2 y.length c2] 39
    replace X := X.alloc (.cells #[.slice a0 e.length c0, .slice a1 x.length c1, .slice a2 y.length c2] 39)
    have R := Blk.new2 w (.cells #[.int .i64 wd, .int .i64 hi, .bool wb, .slice a xs.length ca, .slice b ys.length cb] 27) (.cells #[.slice a0 e.length c0, .slice a1 x.length c1, .slice a2 y.length c2] 39) #[.slice none 0 0, .slice none 0 0, .slice none 0 0] 39
    replace X := X.alloc (.cells #[.slice none 0 0, .slice none 0 0, .slice none 0 0] 39)
    replace Y := Y.alloc (.cells #[.slice none 0 0, .slice none 0 0, .slice none 0 0] 39)
    have HB : Hid (Below w.heap.size w (((w.alloc (.cells #[.int .i64 wd, .int .i64 hi, .bool wb, .slice a xs.length ca, .slice b ys.length cb] 27)).alloc (.cells #[.slice a0 e.length c0, .slice a1 x.length c1, .slice a2 y.length c2] 39)).alloc (.cells #[.slice none 0 0, .slice none 0 0, .slice none 0 0] 39))) := Lib.hid ((((Below.refl w.heap.size w).alloc (by simp <;> omega) _).alloc (by simp <;> omega) _).alloc (by simp <;> omega) _)
    go_enter Try.func42, Try.ntmps42
    go_wp2_with fail
    generalize (((w.alloc (.cells #[.int .i64 wd, .int .i64 hi, .bool wb, .slice a xs.length ca, .slice b ys.length cb] 27)).alloc (.cells #[.slice a0 e.length c0, .slice a1 x.length c1, .slice a2 y.length c2] 39)).alloc (.cells #[.slice none 0 0, .slice none 0 0, .slice none 0 0] 39)) = u1 at *
    refine (implIsField _ _ _ _ _ _ _ _ _ _ _ _ _ _ _ _ _ _ _ (ha.later HB.out) (hb.later HB.out) hx hy (h0.later HB.out) (h1.later HB.out) (h2.later HB.out) m0 m1 m2).mono ?_
    rintro r u2 ⟨rfl, q⟩
    replace X := X.later q
    replace Y := Y.later q
    replace R := R.later q
    replace HB := Lib.hid (HB.out.trans (q.mono HB.out.size))
    clear q
    rw [H_fb.out]
    obtain ⟨Xc, Xf⟩ := X.open
    obtain ⟨Rc, Rf⟩ := R.open
    go_wp2
    refine bodyPost_ret (v := .tuple #[.agg #[.slice none 0 0, .slice none 0 0, .slice none 0 0], .bool false]) (by simp [results, Try.results42, go_sem, Rc]) rfl ⟨none, none, none, 0, 0, 0, [], [], [], rfl, GotField.none (((HB.out.setCell (p := ⟨w.heap.size + 1 + 1, 0, none⟩) (by first | omega | (simp <;> omega)) _).setCell (p := ⟨w.heap.size + 1 + 1, 1, none⟩) (by first | omega | (simp <;> omega)) _).setCell (p := ⟨w.heap.size + 1 + 1, 2, none⟩) (by first | omega | (simp <;> omega)) _)⟩
  have hfbv : fieldB wd hi wb xs ys e x y = true := by rw [HFB.out, hs, hf]; rfl
  obtain ⟨s1, s2, s3, s4, hm2, _, _⟩ := valid_parts hs
  obtain ⟨_, _, l0, l1, l2⟩ := field_parts hfbv
  obtain ⟨n, hn⟩ := Int.eq_ofNat_of_zero_le (show 0 ≤ wd * hi by omega)
  have E0 : e.length = n := by omega
  have E1 : x.length = n := by omega
  have E2 : y.length = n := by omega
  have n256 : n ≤ 256 := by omega
  have n0 : 0 < n := by
    have := Int.mul_le_mul s1 s3 (by omega) (by omega); omega
  have HBV := Lib.hid hfbv
  rw [hfbv]
  have H_fb := Lib.hid hfbv; clear hfbv
  have H_hs := Lib.hid hs; clear hs
  have H_hf := Lib.hid hf; clear hf
  clear hm2 l0 l1 l2
  have HN := Lib.hid hn; have HE0 := Lib.hid E0; have HE1 := Lib.hid E1; have HE2 := Lib.hid E2
  rw [show (wd * hi).toNat = n by rw [hn]; rfl]
  have CV : ∀ u, Below w.heap.size w u → Calls Try.prog 70 #[.agg #[.int .i64 wd, .int .i64 hi, .bool wb, .slice a xs.length ca, .slice b ys.length cb], .agg #[.slice a0 n c0, .slice a1 n c1, .slice a2 n c2]] u fun e w' => e = .returned (.bool true) ∧ Below u.heap.size u w' := fun u hu => by
    have := implIsField wd hi wb a b ca cb xs ys a0 a1 a2 c0 c1 c2 e x y u (ha.later hu) (hb.later hu) hx hy (h0.later hu) (h1.later hu) (h2.later hu) m0 m1 m2
    rw [E0, E1, E2, H_fb.out] at this; exact this
  have HCV := Lib.hid CV; clear CV
  rw [E0, E1, E2]; clear E0 E1 E2 hn
  have X := Blk.new w #[.int .i64 wd, .int .i64 hi, .bool wb, .slice a xs.length ca, .slice b ys.length cb] 27
  have Y := Blk.new1 w (.cells #[.int .i64 wd, .int .i64 hi, .bool wb, .slice a xs.length ca, .slice b ys.length cb] 27) #[.slice a0 n c0, .slice a1 n c1, .slice a2 n c2] 39
  replace X := X.alloc (.cells #[.slice a0 n c0, .slice a1 n c1, .slice a2 n c2] 39)
  have R := Blk.new2 w (.cells #[.int .i64 wd, .int .i64 hi, .bool wb, .slice a xs.length ca, .slice b ys.length cb] 27) (.cells #[.slice a0 n c0, .slice a1 n c1, .slice a2 n c2] 39) #[.slice none 0 0, .slice none 0 0, .slice none 0 0] 39
  replace X := X.alloc (.cells #[.slice none 0 0, .slice none 0 0, .slice none 0 0] 39)
  replace Y := Y.alloc (.cells #[.slice none 0 0, .slice none 0 0, .slice none 0 0] 39)
  have HB : Hid (Below w.heap.size w (((w.alloc (.cells #[.int .i64 wd, .int .i64 hi, .bool wb, .slice a xs.length ca, .slice b ys.length cb] 27)).alloc (.cells #[.slice a0 n c0, .slice a1 n c1, .slice a2 n c2] 39)).alloc (.cells #[.slice none 0 0, .slice none 0 0, .slice none 0 0] 39))) := Lib.hid ((((Below.refl w.heap.size w).alloc (by simp <;> omega) _).alloc (by simp <;> omega) _).alloc (by simp <;> omega) _)
  go_enter Try.func42, Try.ntmps42
  go_wp2_with fail
  generalize (((w.alloc (.cells #[.int .i64 wd, .int .i64 hi, .bool wb, .slice a xs.length ca, .slice b ys.length cb] 27)).alloc (.cells #[.slice a0 n c0, .slice a1 n c1, .slice a2 n c2] 39)).alloc (.cells #[.slice none 0 0, .slice none 0 0, .slice none 0 0] 39)) = u1 at *
  have zr := R.lt
  refine (HCV.out _ HB.out).mono ?_
  rintro r u2 ⟨rfl, q⟩
  replace X := X.later q
  replace Y := Y.later q
  replace R := R.later q
  replace HB := Lib.hid (HB.out.trans (q.mono HB.out.size))
  clear q
  have zR2 := R.lt
  obtain ⟨Xc, Xf⟩ := X.open
  go_wp2_with fail
  refine (implShapeOf _ _ _ _ _ _ _ _ _ _).mono ?_
  rintro r u3 ⟨rfl, q⟩
  clear Xc Xf
  replace X := X.later q
  replace Y := Y.later q
  replace R := R.later q
  replace HB := Lib.hid (HB.out.trans (q.mono HB.out.size))
  clear q
  go_wp2_with fail
  refine (impl_swapCells _ _ _ _).mono ?_
  rintro r u4 ⟨rfl, q⟩
  replace X := X.later q
  replace Y := Y.later q
  replace R := R.later q
  replace HB := Lib.hid (HB.out.trans (q.mono HB.out.size))
  clear q
  have zR4 := R.lt
  have V := Blk.new u4 #[.int .i64 wd, .int .i64 hi, .bool wb, .int .i64 hi, .int .i64 wd, .bool wb, .func (.func 108) #[] #[]] 89
  have q := below_new u4 (.cells #[.int .i64 wd, .int .i64 hi, .bool wb, .int .i64 hi, .int .i64 wd, .bool wb, .func (.func 108) #[] #[]] 89)
  replace X := X.later q
  replace Y := Y.later q
  replace R := R.later q
  replace HB := Lib.hid (HB.out.trans (q.mono HB.out.size))
  clear q
  obtain ⟨Vc, Vf⟩ := V.open
  obtain ⟨Yc, Yf⟩ := Y.open
  go_upto_region 4 with (fail)
  generalize u4.alloc (.cells #[.int .i64 wd, .int .i64 hi, .bool wb, .int .i64 hi, .int .i64 wd, .bool wb, .func (.func 108) #[] #[]] 89) = u5 at *
  have szv := V.lt; have szu : u4.heap.size < u5.heap.size := V.lt
  have zR := R.lt; have b6 := HB.out; have hR : w.heap.size ≤ w.heap.size + 1 + 1 := by omega
  clear Vc Vf
  clear Yc Yf
  have pl : ∀ f zs, 0 < (placed f n zs).length := fun f zs => by rw [placed_length]; exact n0
  have tl : ∀ f zs, 0 < (turned (placed f n zs)).length := fun f zs => by rw [turned_length, placed_length]; exact n0
  have PL := Lib.hid pl; have TL := Lib.hid tl; clear pl tl
  have neV : u4.heap.size ≠ w.heap.size + 1 + 1 := by omega
  have neY : w.heap.size + 1 ≠ w.heap.size + 1 + 1 := by omega
  have tk0 : True := trivial; have tk1 : True := trivial; have tk2 : True := trivial
  go_region_held3 (fun w' => (∀ i, w'.cell? ⟨u4.heap.size, i, none⟩ = (#[.int .i64 wd, .int .i64 hi, .bool wb, .int .i64 hi, .int .i64 wd, .bool wb, .func (.func 108) #[] #[]] : Array Value)[i]?) ∧ (∀ i, w'.cell? ⟨w.heap.size + 1, i, none⟩ = (#[.slice a0 n c0, .slice a1 n c1, .slice a2 n c2] : Array Value)[i]?) ∧ u5.grownBy w' (some (w.heap.size + 1 + 1))) (first | with_reducible exact keepR2_start V Y | with_reducible exact keepR2_later V Y neV neY (by assumption) (by assumption) | exact keepR2_set3 V Y neV neY (by assumption) _ _ _)
    (first
      | (go_at_call 81; have _t := tk0; clear _t tk0; (with_reducible refine (implList_swp _ _ _ _ _ _ (swpF wd hi) n _ (row_heldR2 h0 b6 hR (by assumption)) s1 s2 s3 s4 HN.out HE0.out (swpF_impl s3 HN.out)).mono ?_); intro r u6 hg0; obtain ⟨g0, k0, rfl, oo0, gl0, gt0, qa0⟩ := gotL_some hg0 (PL.out _ _); clear hg0)
      | (go_at_call 82; have _t := tk1; clear _t tk1; (with_reducible refine (implOpp_swp _ _ _ _ _ _ (swpF wd hi) n _ (row_heldR2 h2 b6 hR (by assumption)) s1 s2 s3 s4 HN.out HE2.out (swpF_impl s3 HN.out)).mono ?_); intro r u7 hg1; obtain ⟨g1, k1, rfl, oo1, gl1, gt1, qa1⟩ := gotL_some hg1 (TL.out _ _); clear hg1)
      | (go_at_call 82; have _t := tk2; clear _t tk2; (with_reducible refine (implOpp_swp _ _ _ _ _ _ (swpF wd hi) n _ (row_heldR2 h1 b6 hR (by assumption)) s1 s2 s3 s4 HN.out HE1.out (swpF_impl s3 HN.out)).mono ?_); intro r u8 hg2; obtain ⟨g2, k2, rfl, oo2, gl2, gt2, qa2⟩ := gotL_some hg2 (TL.out _ _); clear hg2; obtain ⟨Rc, Rf⟩ := (R.later (below_next (below_next (below_next (below_drew u5) qa0) qa1) qa2)).open))
  go_wp2
  have z1 := HB.out.size; have z2 : u5.heap.size ≤ u6.heap.size := qa0.size; have z3 : u6.heap.size ≤ u7.heap.size := qa1.size; have z4 : u7.heap.size ≤ u8.heap.size := qa2.size
  have y0 : u5.heap.size ≤ g0 := gl0; have y1 : u6.heap.size ≤ g1 := gl1; have y2 : u7.heap.size ≤ g2 := gl2
  refine bodyPost_ret (v := .tuple #[.agg #[.slice (some ⟨g0, 0, none⟩) n k0, .slice (some ⟨g1, 0, none⟩) n k1, .slice (some ⟨g2, 0, none⟩) n k2], .bool true]) (by simp [results, Try.results42, go_sem, Rc]) rfl ⟨some ⟨g0, 0, none⟩, some ⟨g1, 0, none⟩, some ⟨g2, 0, none⟩, k0, k1, k2, placed (swpF wd hi) n e, turned (placed (swpF wd hi) n y), turned (placed (swpF wd hi) n x), by simp only [turned_length, placed_length], (by exact ⟨(((((oo0.later (below_next qa1 qa2)).lower (show w.heap.size ≤ _ by first | omega | exact z1 | exact Nat.le_trans z1 z2 | exact Nat.le_trans z1 (Nat.le_trans z2 z3))).set (p := ⟨w.heap.size + 1 + 1, 0, none⟩) (ne_block (h := w.heap.size + 1 + 1) (by omega)) _).set (p := ⟨w.heap.size + 1 + 1, 1, none⟩) (ne_block (h := w.heap.size + 1 + 1) (by omega)) _).set (p := ⟨w.heap.size + 1 + 1, 2, none⟩) (ne_block (h := w.heap.size + 1 + 1) (by omega)) _), (((((oo1.later qa2).lower (show w.heap.size ≤ _ by first | omega | exact z1 | exact Nat.le_trans z1 z2 | exact Nat.le_trans z1 (Nat.le_trans z2 z3))).set (p := ⟨w.heap.size + 1 + 1, 0, none⟩) (ne_block (h := w.heap.size + 1 + 1) (by omega)) _).set (p := ⟨w.heap.size + 1 + 1, 1, none⟩) (ne_block (h := w.heap.size + 1 + 1) (by omega)) _).set (p := ⟨w.heap.size + 1 + 1, 2, none⟩) (ne_block (h := w.heap.size + 1 + 1) (by omega)) _), (((((oo2).lower (show w.heap.size ≤ _ by first | omega | exact z1 | exact Nat.le_trans z1 z2 | exact Nat.le_trans z1 (Nat.le_trans z2 z3))).set (p := ⟨w.heap.size + 1 + 1, 0, none⟩) (ne_block (h := w.heap.size + 1 + 1) (by omega)) _).set (p := ⟨w.heap.size + 1 + 1, 1, none⟩) (ne_block (h := w.heap.size + 1 + 1) (by omega)) _).set (p := ⟨w.heap.size + 1 + 1, 2, none⟩) (ne_block (h := w.heap.size + 1 + 1) (by omega)) _), apart_ne (by omega), apart_ne (by omega), apart_ne (by omega), is_placed q0 n256, is_turned q2 n256, is_turned q1 n256, ((((HB.out.trans ((below_next (below_next (below_next (below_drew u5) qa0) qa1) qa2).mono HB.out.size)).setCell (p := ⟨w.heap.size + 1 + 1, 0, none⟩) (by simp <;> omega) _).setCell (p := ⟨w.heap.size + 1 + 1, 1, none⟩) (by simp <;> omega) _).setCell (p := ⟨w.heap.size + 1 + 1, 2, none⟩) (by simp <;> omega) _)⟩)⟩

set_option maxHeartbeats 8000000 in
set_option maxRecDepth 100000 in
theorem specSwapFieldL (wd hi : Int) (wb : Bool) (a b : Option Addr) (ca cb : Nat) (xs ys : List Nat) (a0 a1 a2 : Option Addr) (c0 c1 c2 : Nat) (e x y : List Nat) (w : World) (ha : RowV w a (fvals xs)) (hb : RowV w b (fvals ys)) (qa : ∀ z ∈ xs, z < 2 ^ 32) (qb : ∀ z ∈ ys, z < 2 ^ 32) (hx : xs.length ≤ maxLen) (hy : ys.length ≤ maxLen) (h0 : RowV w a0 (fvals e)) (h1 : RowV w a1 (fvals x)) (h2 : RowV w a2 (fvals y)) (q0 : ∀ z ∈ e, z < 2 ^ 32) (q1 : ∀ z ∈ x, z < 2 ^ 32) (q2 : ∀ z ∈ y, z < 2 ^ 32) (m0 : e.length ≤ maxLen) (m1 : x.length ≤ maxLen) (m2 : y.length ≤ maxLen) :
    Calls Try.prog 41 #[.agg #[.int .i64 wd, .int .i64 hi, .bool wb, .slice a xs.length ca, .slice b ys.length cb], .agg #[.slice a0 e.length c0, .slice a1 x.length c1, .slice a2 y.length c2]] w (OwnF w (fieldB wd hi wb xs ys e x y) (placed (swpF wd hi) (wd * hi).toNat e) (turned (placed (swpF wd hi) (wd * hi).toNat y)) (turned (placed (swpF wd hi) (wd * hi).toNat x))) := by
  have hfb := valB_split wd hi wb xs ys e x y; have HFB := Lib.hid hfb; clear hfb
  rcases hs : validB wd hi xs ys with _ | _
  · skip
    have hfbv : fieldB wd hi wb xs ys e x y = false := by rw [HFB.out, hs]; rfl
    have HBV := Lib.hid hfbv
    have H_fb := Lib.hid hfbv; clear hfbv
    have H_hs := Lib.hid hs; clear hs
    rw [HBV.out]
    have X := Blk.new w #[.int .i64 wd, .int .i64 hi, .bool wb, .slice a xs.length ca, .slice b ys.length cb] 27
    have Y := Blk.new1 w (.cells #[.int .i64 wd, .int .i64 hi, .bool wb, .slice a xs.length ca, .slice b ys.length cb] 27) #[.slice a0 e.length c0, .slice a1 x.length c1, .slice a2 y.length c2] 39
    replace X := X.alloc (.cells #[.slice a0 e.length c0, .slice a1 x.length c1, .slice a2 y.length c2] 39)
    have R := Blk.new2 w (.cells #[.int .i64 wd, .int .i64 hi, .bool wb, .slice a xs.length ca, .slice b ys.length cb] 27) (.cells #[.slice a0 e.length c0, .slice a1 x.length c1, .slice a2 y.length c2] 39) #[.slice none 0 0, .slice none 0 0, .slice none 0 0] 39
    replace X := X.alloc (.cells #[.slice none 0 0, .slice none 0 0, .slice none 0 0] 39)
    replace Y := Y.alloc (.cells #[.slice none 0 0, .slice none 0 0, .slice none 0 0] 39)
    have HB : Hid (Below w.heap.size w (((w.alloc (.cells #[.int .i64 wd, .int .i64 hi, .bool wb, .slice a xs.length ca, .slice b ys.length cb] 27)).alloc (.cells #[.slice a0 e.length c0, .slice a1 x.length c1, .slice a2 y.length c2] 39)).alloc (.cells #[.slice none 0 0, .slice none 0 0, .slice none 0 0] 39))) := Lib.hid ((((Below.refl w.heap.size w).alloc (by simp <;> omega) _).alloc (by simp <;> omega) _).alloc (by simp <;> omega) _)
    go_enter Try.func41, Try.ntmps41
    go_wp2_with fail
    generalize (((w.alloc (.cells #[.int .i64 wd, .int .i64 hi, .bool wb, .slice a xs.length ca, .slice b ys.length cb] 27)).alloc (.cells #[.slice a0 e.length c0, .slice a1 x.length c1, .slice a2 y.length c2] 39)).alloc (.cells #[.slice none 0 0, .slice none 0 0, .slice none 0 0] 39)) = u1 at *
    refine (specIs _ _ _ _ _ _ _ _ _ _ _ X (ha.later HB.out) (hb.later HB.out) hx hy).mono ?_
    rintro r u2 ⟨rfl, nq, hw⟩
    have q : Below u1.heap.size u1 u2 := by rw [hw]; exact below_drewN (Below.refl _ _) _
    clear hw
    replace X := X.later q
    replace Y := Y.later q
    replace R := R.later q
    replace HB := Lib.hid (HB.out.trans (q.mono HB.out.size))
    clear q
    rw [H_hs.out]
    obtain ⟨Xc, Xf⟩ := X.open
    obtain ⟨Rc, Rf⟩ := R.open
    go_wp2
    refine bodyPost_ret (v := .tuple #[.agg #[.slice none 0 0, .slice none 0 0, .slice none 0 0], .bool false]) (by simp [results, Try.results41, go_sem, Rc]) rfl ⟨none, none, none, 0, 0, 0, [], [], [], rfl, OwnField.none (((HB.out.setCell (p := ⟨w.heap.size + 1 + 1, 0, none⟩) (by first | omega | (simp <;> omega)) _).setCell (p := ⟨w.heap.size + 1 + 1, 1, none⟩) (by first | omega | (simp <;> omega)) _).setCell (p := ⟨w.heap.size + 1 + 1, 2, none⟩) (by first | omega | (simp <;> omega)) _)⟩
  rcases hf : fitsB wd hi wb e x y with _ | _
  · skip
    have hfbv : fieldB wd hi wb xs ys e x y = false := by rw [HFB.out, hs, hf]; rfl
    obtain ⟨s1, s2, s3, s4, t1, t2⟩ := sides_mul (valid_sides hs)
    have HBV := Lib.hid hfbv
    have H_fb := Lib.hid hfbv; clear hfbv
    have H_hs := Lib.hid hs; clear hs
    have H_hf := Lib.hid hf; clear hf
    rw [HBV.out]
    have X := Blk.new w #[.int .i64 wd, .int .i64 hi, .bool wb, .slice a xs.length ca, .slice b ys.length cb] 27
    have Y := Blk.new1 w (.cells #[.int .i64 wd, .int .i64 hi, .bool wb, .slice a xs.length ca, .slice b ys.length cb] 27) #[.slice a0 e.length c0, .slice a1 x.length c1, .slice a2 y.length c2] 39
    replace X := X.alloc (.cells #[.slice a0 e.length c0, .slice a1 x.length c1, .slice a2 y.length c2] 39)
    have R := Blk.new2 w (.cells #[.int .i64 wd, .int .i64 hi, .bool wb, .slice a xs.length ca, .slice b ys.length cb] 27) (.cells #[.slice a0 e.length c0, .slice a1 x.length c1, .slice a2 y.length c2] 39) #[.slice none 0 0, .slice none 0 0, .slice none 0 0] 39
    replace X := X.alloc (.cells #[.slice none 0 0, .slice none 0 0, .slice none 0 0] 39)
    replace Y := Y.alloc (.cells #[.slice none 0 0, .slice none 0 0, .slice none 0 0] 39)
    have HB : Hid (Below w.heap.size w (((w.alloc (.cells #[.int .i64 wd, .int .i64 hi, .bool wb, .slice a xs.length ca, .slice b ys.length cb] 27)).alloc (.cells #[.slice a0 e.length c0, .slice a1 x.length c1, .slice a2 y.length c2] 39)).alloc (.cells #[.slice none 0 0, .slice none 0 0, .slice none 0 0] 39))) := Lib.hid ((((Below.refl w.heap.size w).alloc (by simp <;> omega) _).alloc (by simp <;> omega) _).alloc (by simp <;> omega) _)
    go_enter Try.func41, Try.ntmps41
    go_wp2_with fail
    generalize (((w.alloc (.cells #[.int .i64 wd, .int .i64 hi, .bool wb, .slice a xs.length ca, .slice b ys.length cb] 27)).alloc (.cells #[.slice a0 e.length c0, .slice a1 x.length c1, .slice a2 y.length c2] 39)).alloc (.cells #[.slice none 0 0, .slice none 0 0, .slice none 0 0] 39)) = u1 at *
    refine (specIs _ _ _ _ _ _ _ _ _ _ _ X (ha.later HB.out) (hb.later HB.out) hx hy).mono ?_
    rintro r u2 ⟨rfl, nq, hw⟩
    have q : Below u1.heap.size u1 u2 := by rw [hw]; exact below_drewN (Below.refl _ _) _
    clear hw
    replace X := X.later q
    replace Y := Y.later q
    replace R := R.later q
    replace HB := Lib.hid (HB.out.trans (q.mono HB.out.size))
    clear q
    rw [H_hs.out]
    go_wp2_with fail
    refine (specFits _ _ _ _ _ _ _ _ _ _ _ _ _ _ _ _ _ _ _ _ _ X Y s1 s2 s3 s4 (h0.later HB.out) (h1.later HB.out) (h2.later HB.out) m0 m1 m2).mono ?_
    rintro r u3 ⟨rfl, nq, hw⟩
    have q : Below u2.heap.size u2 u3 := by rw [hw]; exact below_drewN (Below.refl _ _) _
    clear hw
    replace X := X.later q
    replace Y := Y.later q
    replace R := R.later q
    replace HB := Lib.hid (HB.out.trans (q.mono HB.out.size))
    clear q
    rw [H_hf.out]
    obtain ⟨Xc, Xf⟩ := X.open
    obtain ⟨Rc, Rf⟩ := R.open
    go_wp2
    refine bodyPost_ret (v := .tuple #[.agg #[.slice none 0 0, .slice none 0 0, .slice none 0 0], .bool false]) (by simp [results, Try.results41, go_sem, Rc]) rfl ⟨none, none, none, 0, 0, 0, [], [], [], rfl, OwnField.none (((HB.out.setCell (p := ⟨w.heap.size + 1 + 1, 0, none⟩) (by first | omega | (simp <;> omega)) _).setCell (p := ⟨w.heap.size + 1 + 1, 1, none⟩) (by first | omega | (simp <;> omega)) _).setCell (p := ⟨w.heap.size + 1 + 1, 2, none⟩) (by first | omega | (simp <;> omega)) _)⟩
  have hfbv : fieldB wd hi wb xs ys e x y = true := by rw [HFB.out, hs, hf]; rfl
  obtain ⟨s1, s2, s3, s4, hm2, _, _⟩ := valid_parts hs
  obtain ⟨_, _, l0, l1, l2⟩ := field_parts hfbv
  obtain ⟨n, hn⟩ := Int.eq_ofNat_of_zero_le (show 0 ≤ wd * hi by omega)
  have E0 : e.length = n := by omega
  have E1 : x.length = n := by omega
  have E2 : y.length = n := by omega
  have n256 : n ≤ 256 := by omega
  have n0 : 0 < n := by
    have := Int.mul_le_mul s1 s3 (by omega) (by omega); omega
  have HBV := Lib.hid hfbv
  rw [hfbv]
  have H_fb := Lib.hid hfbv; clear hfbv
  have H_hs := Lib.hid hs; clear hs
  have H_hf := Lib.hid hf; clear hf
  clear hm2 l0 l1 l2
  have HN := Lib.hid hn; have HE0 := Lib.hid E0; have HE1 := Lib.hid E1; have HE2 := Lib.hid E2
  rw [show (wd * hi).toNat = n by rw [hn]; rfl]
  have CV : ∀ u, Below w.heap.size w u → Blk u w.heap.size #[.int .i64 wd, .int .i64 hi, .bool wb, .slice a xs.length ca, .slice b ys.length cb] 27 → Calls Try.prog 66 #[.pointer (some ⟨w.heap.size, 0, none⟩)] u fun e w' => e = .returned (.bool true) ∧ Below u.heap.size u w' := fun u hu X => by
    have := specIs w.heap.size wd hi wb a b ca cb xs ys u X (ha.later hu) (hb.later hu) hx hy
    rw [H_hs.out] at this
    exact this.mono fun e w' ⟨h, nq, hw⟩ => ⟨h, by rw [hw]; exact below_drewN (Below.refl _ _) _⟩
  have CV2 : ∀ u, Below w.heap.size w u → Blk u w.heap.size #[.int .i64 wd, .int .i64 hi, .bool wb, .slice a xs.length ca, .slice b ys.length cb] 27 → Blk u (w.heap.size + 1) #[.slice a0 n c0, .slice a1 n c1, .slice a2 n c2] 39 → Calls Try.prog 67 #[.pointer (some ⟨w.heap.size, 0, none⟩), .pointer (some ⟨w.heap.size + 1, 0, none⟩)] u fun e w' => e = .returned (.bool true) ∧ Below u.heap.size u w' := fun u hu X Y => by
    have := specFits w.heap.size (w.heap.size + 1) wd hi wb a b ca cb xs ys a0 a1 a2 c0 c1 c2 e x y u X (by rw [E0, E1, E2]; exact Y) s1 s2 s3 s4 (h0.later hu) (h1.later hu) (h2.later hu) m0 m1 m2
    rw [H_hf.out] at this
    exact this.mono fun e w' ⟨h, nq, hw⟩ => ⟨h, by rw [hw]; exact below_drewN (Below.refl _ _) _⟩
  have HCV2 := Lib.hid CV2; clear CV2
  have HCV := Lib.hid CV; clear CV
  rw [E0, E1, E2]; clear E0 E1 E2 hn
  have X := Blk.new w #[.int .i64 wd, .int .i64 hi, .bool wb, .slice a xs.length ca, .slice b ys.length cb] 27
  have Y := Blk.new1 w (.cells #[.int .i64 wd, .int .i64 hi, .bool wb, .slice a xs.length ca, .slice b ys.length cb] 27) #[.slice a0 n c0, .slice a1 n c1, .slice a2 n c2] 39
  replace X := X.alloc (.cells #[.slice a0 n c0, .slice a1 n c1, .slice a2 n c2] 39)
  have R := Blk.new2 w (.cells #[.int .i64 wd, .int .i64 hi, .bool wb, .slice a xs.length ca, .slice b ys.length cb] 27) (.cells #[.slice a0 n c0, .slice a1 n c1, .slice a2 n c2] 39) #[.slice none 0 0, .slice none 0 0, .slice none 0 0] 39
  replace X := X.alloc (.cells #[.slice none 0 0, .slice none 0 0, .slice none 0 0] 39)
  replace Y := Y.alloc (.cells #[.slice none 0 0, .slice none 0 0, .slice none 0 0] 39)
  have HB : Hid (Below w.heap.size w (((w.alloc (.cells #[.int .i64 wd, .int .i64 hi, .bool wb, .slice a xs.length ca, .slice b ys.length cb] 27)).alloc (.cells #[.slice a0 n c0, .slice a1 n c1, .slice a2 n c2] 39)).alloc (.cells #[.slice none 0 0, .slice none 0 0, .slice none 0 0] 39))) := Lib.hid ((((Below.refl w.heap.size w).alloc (by simp <;> omega) _).alloc (by simp <;> omega) _).alloc (by simp <;> omega) _)
  go_enter Try.func41, Try.ntmps41
  go_wp2_with fail
  generalize (((w.alloc (.cells #[.int .i64 wd, .int .i64 hi, .bool wb, .slice a xs.length ca, .slice b ys.length cb] 27)).alloc (.cells #[.slice a0 n c0, .slice a1 n c1, .slice a2 n c2] 39)).alloc (.cells #[.slice none 0 0, .slice none 0 0, .slice none 0 0] 39)) = u1 at *
  have zr := R.lt
  refine (HCV.out _ HB.out X).mono ?_
  rintro r u2 ⟨rfl, q⟩
  replace X := X.later q
  replace Y := Y.later q
  replace R := R.later q
  replace HB := Lib.hid (HB.out.trans (q.mono HB.out.size))
  clear q
  go_wp2_with fail
  refine (HCV2.out _ HB.out X Y).mono ?_
  rintro r u3 ⟨rfl, q⟩
  replace X := X.later q
  replace Y := Y.later q
  replace R := R.later q
  replace HB := Lib.hid (HB.out.trans (q.mono HB.out.size))
  clear q
  have zR2 := R.lt
  have pl : ∀ f zs, 0 < (placed f n zs).length := fun f zs => by rw [placed_length]; exact n0
  have tl : ∀ f zs, 0 < (turned (placed f n zs)).length := fun f zs => by rw [turned_length, placed_length]; exact n0
  have PL := Lib.hid pl; have TL := Lib.hid tl; clear pl tl
  have C0 : ∀ u, Below w.heap.size w u → Calls Try.prog 79 #[.slice a0 n c0, .int .i64 hi, .int .i64 wd, .int .i64 2, .int .i64 0, .int .i64 0] u (GotL u n (placed (swpF wd hi) n e)) := fun u hu => by
    have := specPlace2 a0 c0 e hi wd 0 0 (swpF wd hi) n u (h0.later hu) s3 s4 s1 s2 (by rw [Int.mul_comm]; exact HN.out) HE0.out (swpF_spec s3 HN.out)
    rw [HE0.out] at this; exact this
  have CC0 := Lib.hid C0; clear C0
  have C1 : ∀ u, Below w.heap.size w u → Calls Try.prog 79 #[.slice a2 n c2, .int .i64 hi, .int .i64 wd, .int .i64 2, .int .i64 0, .int .i64 0] u (GotL u n (placed (swpF wd hi) n y)) := fun u hu => by
    have := specPlace2 a2 c2 y hi wd 0 0 (swpF wd hi) n u (h2.later hu) s3 s4 s1 s2 (by rw [Int.mul_comm]; exact HN.out) HE2.out (swpF_spec s3 HN.out)
    rw [HE2.out] at this; exact this
  have CC1 := Lib.hid C1; clear C1
  have C2 : ∀ u, Below w.heap.size w u → Calls Try.prog 79 #[.slice a1 n c1, .int .i64 hi, .int .i64 wd, .int .i64 2, .int .i64 0, .int .i64 0] u (GotL u n (placed (swpF wd hi) n x)) := fun u hu => by
    have := specPlace2 a1 c1 x hi wd 0 0 (swpF wd hi) n u (h1.later hu) s3 s4 s1 s2 (by rw [Int.mul_comm]; exact HN.out) HE1.out (swpF_spec s3 HN.out)
    rw [HE1.out] at this; exact this
  have CC2 := Lib.hid C2; clear C2
  obtain ⟨Xc, Xf⟩ := X.open
  obtain ⟨Yc, Yf⟩ := Y.open
  go_wp2_with fail
  refine (CC0.out _ HB.out).mono ?_
  intro r u4 hgot
  obtain ⟨g0, k0, rfl, W0, gl0, gt0, q⟩ := gotL_some hgot (PL.out _ _); clear hgot
  have zq0 := q.size
  replace W0 := Lib.hid W0
  clear Xc Xf
  clear Yc Yf
  replace X := X.later q
  replace Y := Y.later q
  replace R := R.later q
  replace HB := Lib.hid (HB.out.trans (q.mono HB.out.size))
  clear q
  have BX := Blk.new u4 #[.slice (some ⟨g0, 0, none⟩) n k0, .slice none 0 0, .slice none 0 0] 39
  have q := below_new u4 (.cells #[.slice (some ⟨g0, 0, none⟩) n k0, .slice none 0 0, .slice none 0 0] 39)
  replace X := X.later q
  replace Y := Y.later q
  replace R := R.later q
  replace W0 := Lib.hid (W0.out.later q)
  replace HB := Lib.hid (HB.out.trans (q.mono HB.out.size))
  clear q
  go_upto_region 4 with (fail)
  generalize u4.alloc (.cells #[.slice (some ⟨g0, 0, none⟩) n k0, .slice none 0 0, .slice none 0 0] 39) = u5 at *
  have zb : u4.heap.size < u5.heap.size := BX.lt
  obtain ⟨Xc, Xf⟩ := X.open
  obtain ⟨Yc, Yf⟩ := Y.open
  go_wp2_with fail
  refine (CC1.out _ HB.out).mono ?_
  intro r u6 hgot
  obtain ⟨gg1, k1, rfl, W1, gl1, gt1, q⟩ := gotL_some hgot (PL.out _ _); clear hgot
  have zq1 := q.size
  replace W1 := Lib.hid W1
  clear Xc Xf
  clear Yc Yf
  replace X := X.later q
  replace Y := Y.later q
  replace R := R.later q
  replace BX := BX.later q
  replace W0 := Lib.hid (W0.out.later q)
  replace HB := Lib.hid (HB.out.trans (q.mono HB.out.size))
  clear q
  go_wp2_with fail
  refine (specTurned _ _ _ n _ W1.out.row (placed_length _ _ _) n0 n256).mono ?_
  intro r u7 hgot
  clear W1 gl1 gt1
  obtain ⟨g1, k1, rfl, W1, gl1, gt1, q⟩ := gotL_some hgot (TL.out _ _); clear hgot
  have zt1 := q.size
  replace W1 := Lib.hid W1
  replace X := X.later q
  replace Y := Y.later q
  replace R := R.later q
  replace BX := BX.later q
  replace W0 := Lib.hid (W0.out.later q)
  replace HB := Lib.hid (HB.out.trans (q.mono HB.out.size))
  clear q
  obtain ⟨BXc, BXf⟩ := BX.open
  go_upto_region 5 with (fail)
  clear BXc BXf
  have ot := out_set u7 u4.heap.size 1 (.slice (some ⟨g1, 0, none⟩) n k1)
  replace X := X.out ot (by omega)
  replace Y := Y.out ot (by omega)
  replace R := R.out ot (by omega)
  replace W0 := Lib.hid (W0.out.outside ot (lo := _) (hi := _) (fun x hx => by cases hx; exact ⟨Nat.le_refl g0, Nat.lt_succ_self g0⟩) (by omega))
  replace W1 := Lib.hid (W1.out.outside ot (lo := _) (hi := _) (fun x hx => by cases hx; exact ⟨Nat.le_refl g1, Nat.lt_succ_self g1⟩) (by omega))
  replace BX : Blk (u7.setCell ⟨u4.heap.size, 1, none⟩ (.slice (some ⟨g1, 0, none⟩) n k1)) u4.heap.size #[.slice (some ⟨g0, 0, none⟩) n k0, .slice (some ⟨g1, 0, none⟩) n k1, .slice none 0 0] 39 := BX.set 1 _
  replace HB := Lib.hid (HB.out.setCell (p := ⟨u4.heap.size, 1, none⟩) (by dsimp only; omega) (.slice (some ⟨g1, 0, none⟩) n k1))
  clear ot
  have ts8 : u7.heap.size ≤ (u7.setCell ⟨u4.heap.size, 1, none⟩ (.slice (some ⟨g1, 0, none⟩) n k1)).heap.size := by simp
  generalize u7.setCell ⟨u4.heap.size, 1, none⟩ (.slice (some ⟨g1, 0, none⟩) n k1) = u8 at *
  obtain ⟨Xc, Xf⟩ := X.open
  obtain ⟨Yc, Yf⟩ := Y.open
  go_wp2_with fail
  refine (CC2.out _ HB.out).mono ?_
  intro r u9 hgot
  obtain ⟨gg2, k2, rfl, W2, gl2, gt2, q⟩ := gotL_some hgot (PL.out _ _); clear hgot
  have zq2 := q.size
  replace W2 := Lib.hid W2
  clear Xc Xf
  clear Yc Yf
  replace X := X.later q
  replace Y := Y.later q
  replace R := R.later q
  replace BX := BX.later q
  replace W0 := Lib.hid (W0.out.later q)
  replace W1 := Lib.hid (W1.out.later q)
  replace HB := Lib.hid (HB.out.trans (q.mono HB.out.size))
  clear q
  go_wp2_with fail
  refine (specTurned _ _ _ n _ W2.out.row (placed_length _ _ _) n0 n256).mono ?_
  intro r u10 hgot
  clear W2 gl2 gt2
  obtain ⟨g2, k2, rfl, W2, gl2, gt2, q⟩ := gotL_some hgot (TL.out _ _); clear hgot
  have zt2 := q.size
  replace W2 := Lib.hid W2
  replace X := X.later q
  replace Y := Y.later q
  replace R := R.later q
  replace BX := BX.later q
  replace W0 := Lib.hid (W0.out.later q)
  replace W1 := Lib.hid (W1.out.later q)
  replace HB := Lib.hid (HB.out.trans (q.mono HB.out.size))
  clear q
  obtain ⟨BXc, BXf⟩ := BX.open
  go_upto_region 6 with (fail)
  clear BXc BXf
  have ot := out_set u10 u4.heap.size 2 (.slice (some ⟨g2, 0, none⟩) n k2)
  replace X := X.out ot (by omega)
  replace Y := Y.out ot (by omega)
  replace R := R.out ot (by omega)
  replace W0 := Lib.hid (W0.out.outside ot (lo := _) (hi := _) (fun x hx => by cases hx; exact ⟨Nat.le_refl g0, Nat.lt_succ_self g0⟩) (by omega))
  replace W1 := Lib.hid (W1.out.outside ot (lo := _) (hi := _) (fun x hx => by cases hx; exact ⟨Nat.le_refl g1, Nat.lt_succ_self g1⟩) (by omega))
  replace W2 := Lib.hid (W2.out.outside ot (lo := _) (hi := _) (fun x hx => by cases hx; exact ⟨Nat.le_refl g2, Nat.lt_succ_self g2⟩) (by omega))
  replace BX : Blk (u10.setCell ⟨u4.heap.size, 2, none⟩ (.slice (some ⟨g2, 0, none⟩) n k2)) u4.heap.size #[.slice (some ⟨g0, 0, none⟩) n k0, .slice (some ⟨g1, 0, none⟩) n k1, .slice (some ⟨g2, 0, none⟩) n k2] 39 := BX.set 2 _
  replace HB := Lib.hid (HB.out.setCell (p := ⟨u4.heap.size, 2, none⟩) (by dsimp only; omega) (.slice (some ⟨g2, 0, none⟩) n k2))
  clear ot
  have ts11 : u10.heap.size ≤ (u10.setCell ⟨u4.heap.size, 2, none⟩ (.slice (some ⟨g2, 0, none⟩) n k2)).heap.size := by simp
  generalize u10.setCell ⟨u4.heap.size, 2, none⟩ (.slice (some ⟨g2, 0, none⟩) n k2) = u11 at *
  obtain ⟨BXc, BXf⟩ := BX.open
  obtain ⟨Rc, Rf⟩ := R.open
  go_wp2
  have z9 := HB.out.size
  refine bodyPost_ret (v := .tuple #[.agg #[.slice (some ⟨g0, 0, none⟩) n k0, .slice (some ⟨g1, 0, none⟩) n k1, .slice (some ⟨g2, 0, none⟩) n k2], .bool true]) (by simp [results, Try.results41, go_sem, Rc]) rfl ⟨some ⟨g0, 0, none⟩, some ⟨g1, 0, none⟩, some ⟨g2, 0, none⟩, k0, k1, k2, placed (swpF wd hi) n e, turned (placed (swpF wd hi) n y), turned (placed (swpF wd hi) n x), by simp only [turned_length, placed_length], (GotField.own ⟨((((W0.out.lower (show w.heap.size ≤ _ by omega)).set (p := ⟨w.heap.size + 1 + 1, 0, none⟩) (ne_block (h := w.heap.size + 1 + 1) (by omega)) _).set (p := ⟨w.heap.size + 1 + 1, 1, none⟩) (ne_block (h := w.heap.size + 1 + 1) (by omega)) _).set (p := ⟨w.heap.size + 1 + 1, 2, none⟩) (ne_block (h := w.heap.size + 1 + 1) (by omega)) _), ((((W1.out.lower (show w.heap.size ≤ _ by omega)).set (p := ⟨w.heap.size + 1 + 1, 0, none⟩) (ne_block (h := w.heap.size + 1 + 1) (by omega)) _).set (p := ⟨w.heap.size + 1 + 1, 1, none⟩) (ne_block (h := w.heap.size + 1 + 1) (by omega)) _).set (p := ⟨w.heap.size + 1 + 1, 2, none⟩) (ne_block (h := w.heap.size + 1 + 1) (by omega)) _), ((((W2.out.lower (show w.heap.size ≤ _ by omega)).set (p := ⟨w.heap.size + 1 + 1, 0, none⟩) (ne_block (h := w.heap.size + 1 + 1) (by omega)) _).set (p := ⟨w.heap.size + 1 + 1, 1, none⟩) (ne_block (h := w.heap.size + 1 + 1) (by omega)) _).set (p := ⟨w.heap.size + 1 + 1, 2, none⟩) (ne_block (h := w.heap.size + 1 + 1) (by omega)) _), apart_ne (by omega), apart_ne (by omega), apart_ne (by omega), is_placed q0 n256, is_turned q2 n256, is_turned q1 n256, (((HB.out.setCell (p := ⟨w.heap.size + 1 + 1, 0, none⟩) (by first | omega | (simp <;> omega)) _).setCell (p := ⟨w.heap.size + 1 + 1, 1, none⟩) (by first | omega | (simp <;> omega)) _).setCell (p := ⟨w.heap.size + 1 + 1, 2, none⟩) (by first | omega | (simp <;> omega)) _)⟩)⟩

end Go.Proofs.Ytpnfgchifclhlaa
