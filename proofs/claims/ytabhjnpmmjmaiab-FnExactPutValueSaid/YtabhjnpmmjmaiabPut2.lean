/- A value that is put: the model's. Conditions: none beyond those of each theorem. -/
import Derived.Test.YtabhjnpmmjmaiabPut
namespace Go.Proofs.Ytabhjnpmmjmaiab
open Go Ieee Go.RowKit
set_option linter.unusedVariables false

set_option maxHeartbeats 8000000 in
set_option maxRecDepth 100000 in
theorem specPutValueL (wd hi : Int) (wb : Bool) (a b : Option Addr) (ca cb : Nat) (xs ys : List Nat) (a0 a1 a2 : Option Addr) (c0 c1 c2 : Nat) (e x y : List Nat) (u v : Int) (z : Nat) (w : World) (ha : RowV w a (fvals xs)) (hb : RowV w b (fvals ys)) (qa : ∀ z ∈ xs, z < 2 ^ 32) (qb : ∀ z ∈ ys, z < 2 ^ 32) (hx : xs.length ≤ maxLen) (hy : ys.length ≤ maxLen) (h0 : RowV w a0 (fvals e)) (h1 : RowV w a1 (fvals x)) (h2 : RowV w a2 (fvals y)) (q0 : ∀ z ∈ e, z < 2 ^ 32) (q1 : ∀ z ∈ x, z < 2 ^ 32) (q2 : ∀ z ∈ y, z < 2 ^ 32) (m0 : e.length ≤ maxLen) (m1 : x.length ≤ maxLen) (m2 : y.length ≤ maxLen) (wu : (Lit.int .i64 u).wf = true) (wv : (Lit.int .i64 v).wf = true) (wz : z < 2 ^ 32) :
    Calls Try.prog 40 #[.agg #[.int .i64 wd, .int .i64 hi, .bool wb, .slice a xs.length ca, .slice b ys.length cb], .agg #[.slice a0 e.length c0, .slice a1 x.length c1, .slice a2 y.length c2], .int .i64 u, .int .i64 v, .float .f32 z] w fun r w' => ∃ (a0 a1 a2 : Option Addr) (c0 c1 c2 : Nat) (y0 y1 y2 : List Nat), r = .returned (.tuple #[.agg #[.slice a0 y0.length c0, .slice a1 y1.length c1, .slice a2 y2.length c2], .bool (putB wd hi wb xs ys e x y u v z)]) ∧ OwnField w w' (putE wd hi wb xs ys e x y u v z) (putO wd hi wb xs ys e x y u v z x) (putO wd hi wb xs ys e x y u v z y) a0 a1 a2 y0 y1 y2 := by
  have hp0 : putB wd hi wb xs ys e x y u v z = (fieldB wd hi wb xs ys e x y && (cellB wd hi u v && !(bordB wb wd hi u v && nzB z))) := rfl
  have HP0 := Lib.hid hp0; clear hp0
  have hm : putB wd hi wb xs ys e x y u v z = false → putE wd hi wb xs ys e x y u v z = [] ∧ putO wd hi wb xs ys e x y u v z x = [] ∧ putO wd hi wb xs ys e x y u v z y = [] := fun h => by unfold putE putO; rw [h]; exact ⟨rfl, rfl, rfl⟩
  have HM := Lib.hid hm; clear hm
  have hk : putB wd hi wb xs ys e x y u v z = true → putE wd hi wb xs ys e x y u v z = (cl e).set (u + wd * v).toNat (canon .f32 z) ∧ putO wd hi wb xs ys e x y u v z x = cl x ∧ putO wd hi wb xs ys e x y u v z y = cl y := fun h => by unfold putE putO; rw [h]; exact ⟨rfl, rfl, rfl⟩
  have HK := Lib.hid hk; clear hk
  have Hqa := Lib.hid qa; clear qa
  have Hqb := Lib.hid qb; clear qb
  have Hq0 := Lib.hid q0; clear q0
  have Hq1 := Lib.hid q1; clear q1
  have Hq2 := Lib.hid q2; clear q2
  have X := Blk.new w #[.int .i64 wd, .int .i64 hi, .bool wb, .slice a xs.length ca, .slice b ys.length cb] 27
  have Y := Blk.new1 w (.cells #[.int .i64 wd, .int .i64 hi, .bool wb, .slice a xs.length ca, .slice b ys.length cb] 27) #[.slice a0 e.length c0, .slice a1 x.length c1, .slice a2 y.length c2] 41
  replace X := X.alloc (.cells #[.slice a0 e.length c0, .slice a1 x.length c1, .slice a2 y.length c2] 41)
  have R := Blk.new2 w (.cells #[.int .i64 wd, .int .i64 hi, .bool wb, .slice a xs.length ca, .slice b ys.length cb] 27) (.cells #[.slice a0 e.length c0, .slice a1 x.length c1, .slice a2 y.length c2] 41) #[.slice none 0 0, .slice none 0 0, .slice none 0 0] 41
  replace X := X.alloc (.cells #[.slice none 0 0, .slice none 0 0, .slice none 0 0] 41)
  replace Y := Y.alloc (.cells #[.slice none 0 0, .slice none 0 0, .slice none 0 0] 41)
  have HB : Hid (Below w.heap.size w (((w.alloc (.cells #[.int .i64 wd, .int .i64 hi, .bool wb, .slice a xs.length ca, .slice b ys.length cb] 27)).alloc (.cells #[.slice a0 e.length c0, .slice a1 x.length c1, .slice a2 y.length c2] 41)).alloc (.cells #[.slice none 0 0, .slice none 0 0, .slice none 0 0] 41))) := Lib.hid ((((Below.refl w.heap.size w).alloc (by simp <;> omega) _).alloc (by simp <;> omega) _).alloc (by simp <;> omega) _)
  go_enter Try.func40, Try.ntmps40
  go_wp2_with fail
  generalize (((w.alloc (.cells #[.int .i64 wd, .int .i64 hi, .bool wb, .slice a xs.length ca, .slice b ys.length cb] 27)).alloc (.cells #[.slice a0 e.length c0, .slice a1 x.length c1, .slice a2 y.length c2] 41)).alloc (.cells #[.slice none 0 0, .slice none 0 0, .slice none 0 0] 41)) = u1 at *
  have zr0 := R.lt
  refine (specIs _ _ _ _ _ _ _ _ _ _ _ X (ha.later HB.out) (hb.later HB.out) hx hy).mono ?_
  rintro r u2 ⟨rfl, nq, hw⟩
  have q : Below u1.heap.size u1 u2 := by rw [hw]; exact below_drewN (Below.refl _ _) _
  have sz2 : u1.heap.size ≤ u2.heap.size := q.size
  clear hw
  replace X := X.later q
  replace Y := Y.later q
  replace R := R.later q
  replace HB := Lib.hid (HB.out.trans (q.mono HB.out.size))
  clear q
  have hfb := valB_split wd hi wb xs ys e x y; have HFB := Lib.hid hfb; clear hfb
  rcases hs : validB wd hi xs ys with _ | _
  · skip
    have hn : putB wd hi wb xs ys e x y u v z = false := by rw [HP0.out, HFB.out, hs]; rfl
    obtain ⟨n0, n1, n2⟩ := HM.out hn
    have N0 := Lib.hid n0; have N1 := Lib.hid n1; have N2 := Lib.hid n2; have NN := Lib.hid hn; clear n0 n1 n2 hn
    obtain ⟨Rc, Rf⟩ := R.open
    go_wp2
    refine bodyPost_ret (v := .tuple #[.agg #[.slice none 0 0, .slice none 0 0, .slice none 0 0], .bool false]) (by simp [results, Try.results40, go_sem, Rc]) rfl ⟨none, none, none, 0, 0, 0, [], [], [], by rw [NN.out]; rfl, by rw [N0.out, N1.out, N2.out]; exact OwnField.none (((HB.out.setCell (p := ⟨w.heap.size + 1 + 1, 0, none⟩) (by first | omega | (simp <;> omega)) _).setCell (p := ⟨w.heap.size + 1 + 1, 1, none⟩) (by first | omega | (simp <;> omega)) _).setCell (p := ⟨w.heap.size + 1 + 1, 2, none⟩) (by first | omega | (simp <;> omega)) _)⟩
  obtain ⟨s1, s2, s3, s4, t1, t2⟩ := sides_mul (valid_sides hs)
  go_wp2_with fail
  refine (specFits _ _ _ _ _ _ _ _ _ _ _ _ _ _ _ _ _ _ _ _ _ X Y s1 s2 s3 s4 (h0.later HB.out) (h1.later HB.out) (h2.later HB.out) m0 m1 m2).mono ?_
  rintro r u3 ⟨rfl, nq, hw⟩
  have q : Below u2.heap.size u2 u3 := by rw [hw]; exact below_drewN (Below.refl _ _) _
  have sz3 : u2.heap.size ≤ u3.heap.size := q.size
  clear hw
  replace X := X.later q
  replace Y := Y.later q
  replace R := R.later q
  replace HB := Lib.hid (HB.out.trans (q.mono HB.out.size))
  clear q
  rcases hf : fitsB wd hi wb e x y with _ | _
  · skip
    have hn : putB wd hi wb xs ys e x y u v z = false := by rw [HP0.out, HFB.out, hs, hf]; rfl
    obtain ⟨n0, n1, n2⟩ := HM.out hn
    have N0 := Lib.hid n0; have N1 := Lib.hid n1; have N2 := Lib.hid n2; have NN := Lib.hid hn; clear n0 n1 n2 hn
    obtain ⟨Rc, Rf⟩ := R.open
    go_wp2
    refine bodyPost_ret (v := .tuple #[.agg #[.slice none 0 0, .slice none 0 0, .slice none 0 0], .bool false]) (by simp [results, Try.results40, go_sem, Rc]) rfl ⟨none, none, none, 0, 0, 0, [], [], [], by rw [NN.out]; rfl, by rw [N0.out, N1.out, N2.out]; exact OwnField.none (((HB.out.setCell (p := ⟨w.heap.size + 1 + 1, 0, none⟩) (by first | omega | (simp <;> omega)) _).setCell (p := ⟨w.heap.size + 1 + 1, 1, none⟩) (by first | omega | (simp <;> omega)) _).setCell (p := ⟨w.heap.size + 1 + 1, 2, none⟩) (by first | omega | (simp <;> omega)) _)⟩
  go_wp2_with fail
  refine (specCell _ _ _ _ _ _ _ _ _ X s1 s2 s3 s4).mono ?_
  rintro r w' ⟨rfl, rfl⟩
  rcases hc : cellB wd hi u v with _ | _
  · skip
    have hn : putB wd hi wb xs ys e x y u v z = false := by rw [HP0.out, HFB.out, hs, hf, hc]; rfl
    obtain ⟨n0, n1, n2⟩ := HM.out hn
    have N0 := Lib.hid n0; have N1 := Lib.hid n1; have N2 := Lib.hid n2; have NN := Lib.hid hn; clear n0 n1 n2 hn
    obtain ⟨Rc, Rf⟩ := R.open
    go_wp2
    refine bodyPost_ret (v := .tuple #[.agg #[.slice none 0 0, .slice none 0 0, .slice none 0 0], .bool false]) (by simp [results, Try.results40, go_sem, Rc]) rfl ⟨none, none, none, 0, 0, 0, [], [], [], by rw [NN.out]; rfl, by rw [N0.out, N1.out, N2.out]; exact OwnField.none (((HB.out.setCell (p := ⟨w.heap.size + 1 + 1, 0, none⟩) (by first | omega | (simp <;> omega)) _).setCell (p := ⟨w.heap.size + 1 + 1, 1, none⟩) (by first | omega | (simp <;> omega)) _).setCell (p := ⟨w.heap.size + 1 + 1, 2, none⟩) (by first | omega | (simp <;> omega)) _)⟩
  go_wp2_with fail
  refine (specBorder _ _ _ _ _ _ _ _ _ X s1 s2 s3 s4).mono ?_
  rintro r w' ⟨rfl, rfl⟩
  rcases bd : bordB wb wd hi u v with _ | _
  · skip
    have hn : putB wd hi wb xs ys e x y u v z = true := by rw [HP0.out, HFB.out, hs, hf, hc, bd]; rfl
    obtain ⟨n0, n1, n2⟩ := HK.out hn
    have N0 := Lib.hid n0; have N1 := Lib.hid n1; have N2 := Lib.hid n2; have NN := Lib.hid hn; clear n0 n1 n2 hn
    obtain ⟨_, _, l0, l1, l2⟩ := field_parts (by rw [HFB.out, hs, hf]; rfl)
    have L0 := Lib.hid l0; have L1 := Lib.hid l1; have L2 := Lib.hid l2; clear l0 l1 l2
    obtain ⟨i1, i2, i3, i4⟩ := index_in hc t2; obtain ⟨j1, j2, j3, j4⟩ := cell_in hc
    obtain ⟨j, hj⟩ := Int.eq_ofNat_of_zero_le i2
    obtain ⟨n, hnn⟩ := Int.eq_ofNat_of_zero_le (show 0 ≤ wd * hi by omega)
    have E0 : e.length = n := by have := L0.out; omega
    have E1 : x.length = n := by have := L1.out; omega
    have E2 : y.length = n := by have := L2.out; omega
    have hje : j < n := by omega
    have n0 : 0 < n := by omega
    have n256 : n ≤ 256 := by omega
    have ij : (j : Int) < (n : Int) := by omega
    have HJ := Lib.hid hj; have HN := Lib.hid hnn; clear hnn
    have HE0 := Lib.hid E0; have HE1 := Lib.hid E1; have HE2 := Lib.hid E2; clear E0 E1 E2
    obtain ⟨pe, oe, rfl, ze⟩ := h0 0 _ (fvals_get (show 0 < e.length by rw [HE0.out]; exact n0))
    obtain ⟨px, ox, rfl, zx⟩ := h1 0 _ (fvals_get (show 0 < x.length by rw [HE1.out]; exact n0))
    obtain ⟨py, oy, rfl, zy⟩ := h2 0 _ (fvals_get (show 0 < y.length by rw [HE2.out]; exact n0))
    clear ze zx zy L0 L1 L2 t1 t2
    go_wp2_with fail
    refine (specOwn _ _ _ _ _ _ _ _ _ _ n _ _ _ _ Y (h0.later HB.out) (h1.later HB.out) (h2.later HB.out) HE0.out HE1.out HE2.out n0 n256).mono ?_
    rintro r u4 ⟨g0, g1, g2, k0, k1, k2, rfl, W0, W1, W2, y01, y12, q⟩
    have sz4 : u3.heap.size ≤ u4.heap.size := q.size
    replace X := X.later q
    replace Y := Y.later q
    replace R := R.later q
    replace HB := Lib.hid (HB.out.trans (q.mono HB.out.size))
    clear q
    have b0 := W0.bound g0 rfl; have z0 := (W0.span _ rfl).2; dsimp only at z0
    replace W0 := Lib.hid W0
    have b1 := W1.bound g1 rfl; have z1 := (W1.span _ rfl).2; dsimp only at z1
    replace W1 := Lib.hid W1
    have b2 := W2.bound g2 rfl; have z2 := (W2.span _ rfl).2; dsimp only at z2
    replace W2 := Lib.hid W2
    have O := Blk.new u4 #[.slice (some ⟨g0, 0, none⟩) n k0, .slice (some ⟨g1, 0, none⟩) n k1, .slice (some ⟨g2, 0, none⟩) n k2] 41
    have q := below_new u4 (.cells #[.slice (some ⟨g0, 0, none⟩) n k0, .slice (some ⟨g1, 0, none⟩) n k1, .slice (some ⟨g2, 0, none⟩) n k2] 41)
    replace X := X.later q
    replace Y := Y.later q
    replace R := R.later q
    replace W0 := Lib.hid (W0.out.later q)
    replace W1 := Lib.hid (W1.out.later q)
    replace W2 := Lib.hid (W2.out.later q)
    replace HB := Lib.hid (HB.out.trans (q.mono HB.out.size))
    clear q
    go_upto_region 4 with (fail)
    generalize u4.alloc (.cells #[.slice (some ⟨g0, 0, none⟩) n k0, .slice (some ⟨g1, 0, none⟩) n k1, .slice (some ⟨g2, 0, none⟩) n k2] 41) = u5 at *
    have sz5 : u4.heap.size < u5.heap.size := O.lt
    obtain ⟨cs, ct, _, wb0, wv⟩ := own_some W0.out
    obtain ⟨wc, wf⟩ := wb0.open
    have wj := wv j _ (fvals_get (show j < e.length by rw [HE0.out]; exact hje))
    have wc0 := wc j; rw [wj] at wc0; have wf0 := wf j
    clear wc wf wv wj wb0
    obtain ⟨Xc, Xf⟩ := X.open
    obtain ⟨Oc, Of⟩ := O.open
    go_upto_region 5 with (fail)
    clear Xc Xf
    clear Oc Of
    clear wc0 wf0
    have hset : u5.heap.size ≤ (u5.setCell ⟨g0, j, none⟩ (.float .f32 z)).heap.size := by simp
    have W9 := Lib.hid (own_put W0.out j (.float .f32 z) (by rw [fvals_length, HE0.out]; exact hje)); clear W0
    rw [fvals_set] at W9
    have ot := out_set u5 g0 j (.float .f32 z)
    replace R := R.out ot (by omega)
    replace O := O.out ot (by omega)
    replace W1 := Lib.hid (W1.out.outside ot (lo := _) (hi := _) (fun x hx => by cases hx; exact ⟨Nat.le_refl g1, Nat.lt_succ_self g1⟩) (by omega))
    replace W2 := Lib.hid (W2.out.outside ot (lo := _) (hi := _) (fun x hx => by cases hx; exact ⟨Nat.le_refl g2, Nat.lt_succ_self g2⟩) (by omega))
    replace HB := Lib.hid (HB.out.setCell (p := ⟨g0, j, none⟩) (by dsimp only; have := HB.out.size; omega) (.float .f32 z))
    clear ot X Y
    generalize u5.setCell ⟨g0, j, none⟩ (.float .f32 z) = u6 at *
    obtain ⟨Oc, Of⟩ := O.open; obtain ⟨Rc, Rf⟩ := R.open
    go_wp2
    refine bodyPost_ret (v := .tuple #[.agg #[.slice (some ⟨g0, 0, none⟩) n k0, .slice (some ⟨g1, 0, none⟩) n k1, .slice (some ⟨g2, 0, none⟩) n k2], .bool true]) (by simp [results, Try.results40, go_sem, Rc]) rfl ⟨some ⟨g0, 0, none⟩, some ⟨g1, 0, none⟩, some ⟨g2, 0, none⟩, k0, k1, k2, e.set j z, x, y, by rw [NN.out, List.length_set, HE0.out, HE1.out, HE2.out], by rw [N0.out, N1.out, N2.out, HJ.out, Int.toNat_natCast]; exact ⟨((((W9.out.lower (show w.heap.size ≤ _ by omega)).set (p := ⟨w.heap.size + 1 + 1, 0, none⟩) (ne_block (h := w.heap.size + 1 + 1) (by omega)) _).set (p := ⟨w.heap.size + 1 + 1, 1, none⟩) (ne_block (h := w.heap.size + 1 + 1) (by omega)) _).set (p := ⟨w.heap.size + 1 + 1, 2, none⟩) (ne_block (h := w.heap.size + 1 + 1) (by omega)) _), ((((W1.out.lower (show w.heap.size ≤ _ by omega)).set (p := ⟨w.heap.size + 1 + 1, 0, none⟩) (ne_block (h := w.heap.size + 1 + 1) (by omega)) _).set (p := ⟨w.heap.size + 1 + 1, 1, none⟩) (ne_block (h := w.heap.size + 1 + 1) (by omega)) _).set (p := ⟨w.heap.size + 1 + 1, 2, none⟩) (ne_block (h := w.heap.size + 1 + 1) (by omega)) _), ((((W2.out.lower (show w.heap.size ≤ _ by omega)).set (p := ⟨w.heap.size + 1 + 1, 0, none⟩) (ne_block (h := w.heap.size + 1 + 1) (by omega)) _).set (p := ⟨w.heap.size + 1 + 1, 1, none⟩) (ne_block (h := w.heap.size + 1 + 1) (by omega)) _).set (p := ⟨w.heap.size + 1 + 1, 2, none⟩) (ne_block (h := w.heap.size + 1 + 1) (by omega)) _), is_set Hq0.out (by rw [HE0.out]; exact n256) j z wz, Is.refl Hq1.out (by rw [HE1.out]; exact n256), Is.refl Hq2.out (by rw [HE2.out]; exact n256), (((HB.out.setCell (p := ⟨w.heap.size + 1 + 1, 0, none⟩) (by first | omega | (simp <;> omega)) _).setCell (p := ⟨w.heap.size + 1 + 1, 1, none⟩) (by first | omega | (simp <;> omega)) _).setCell (p := ⟨w.heap.size + 1 + 1, 2, none⟩) (by first | omega | (simp <;> omega)) _)⟩⟩
  rcases nz : nzB z with _ | _
  · skip
    have hn : putB wd hi wb xs ys e x y u v z = true := by rw [HP0.out, HFB.out, hs, hf, hc, bd, nz]; rfl
    obtain ⟨n0, n1, n2⟩ := HK.out hn
    have N0 := Lib.hid n0; have N1 := Lib.hid n1; have N2 := Lib.hid n2; have NN := Lib.hid hn; clear n0 n1 n2 hn
    unfold nzB at nz
    obtain ⟨_, _, l0, l1, l2⟩ := field_parts (by rw [HFB.out, hs, hf]; rfl)
    have L0 := Lib.hid l0; have L1 := Lib.hid l1; have L2 := Lib.hid l2; clear l0 l1 l2
    obtain ⟨i1, i2, i3, i4⟩ := index_in hc t2; obtain ⟨j1, j2, j3, j4⟩ := cell_in hc
    obtain ⟨j, hj⟩ := Int.eq_ofNat_of_zero_le i2
    obtain ⟨n, hnn⟩ := Int.eq_ofNat_of_zero_le (show 0 ≤ wd * hi by omega)
    have E0 : e.length = n := by have := L0.out; omega
    have E1 : x.length = n := by have := L1.out; omega
    have E2 : y.length = n := by have := L2.out; omega
    have hje : j < n := by omega
    have n0 : 0 < n := by omega
    have n256 : n ≤ 256 := by omega
    have ij : (j : Int) < (n : Int) := by omega
    have HJ := Lib.hid hj; have HN := Lib.hid hnn; clear hnn
    have HE0 := Lib.hid E0; have HE1 := Lib.hid E1; have HE2 := Lib.hid E2; clear E0 E1 E2
    obtain ⟨pe, oe, rfl, ze⟩ := h0 0 _ (fvals_get (show 0 < e.length by rw [HE0.out]; exact n0))
    obtain ⟨px, ox, rfl, zx⟩ := h1 0 _ (fvals_get (show 0 < x.length by rw [HE1.out]; exact n0))
    obtain ⟨py, oy, rfl, zy⟩ := h2 0 _ (fvals_get (show 0 < y.length by rw [HE2.out]; exact n0))
    clear ze zx zy L0 L1 L2 t1 t2
    go_wp2_with fail
    refine (specOwn _ _ _ _ _ _ _ _ _ _ n _ _ _ _ Y (h0.later HB.out) (h1.later HB.out) (h2.later HB.out) HE0.out HE1.out HE2.out n0 n256).mono ?_
    rintro r u7 ⟨g0, g1, g2, k0, k1, k2, rfl, W0, W1, W2, y01, y12, q⟩
    have sz7 : u3.heap.size ≤ u7.heap.size := q.size
    replace X := X.later q
    replace Y := Y.later q
    replace R := R.later q
    replace HB := Lib.hid (HB.out.trans (q.mono HB.out.size))
    clear q
    have b0 := W0.bound g0 rfl; have z0 := (W0.span _ rfl).2; dsimp only at z0
    replace W0 := Lib.hid W0
    have b1 := W1.bound g1 rfl; have z1 := (W1.span _ rfl).2; dsimp only at z1
    replace W1 := Lib.hid W1
    have b2 := W2.bound g2 rfl; have z2 := (W2.span _ rfl).2; dsimp only at z2
    replace W2 := Lib.hid W2
    have O := Blk.new u7 #[.slice (some ⟨g0, 0, none⟩) n k0, .slice (some ⟨g1, 0, none⟩) n k1, .slice (some ⟨g2, 0, none⟩) n k2] 41
    have q := below_new u7 (.cells #[.slice (some ⟨g0, 0, none⟩) n k0, .slice (some ⟨g1, 0, none⟩) n k1, .slice (some ⟨g2, 0, none⟩) n k2] 41)
    replace X := X.later q
    replace Y := Y.later q
    replace R := R.later q
    replace W0 := Lib.hid (W0.out.later q)
    replace W1 := Lib.hid (W1.out.later q)
    replace W2 := Lib.hid (W2.out.later q)
    replace HB := Lib.hid (HB.out.trans (q.mono HB.out.size))
    clear q
    go_upto_region 4 with (fail)
    generalize u7.alloc (.cells #[.slice (some ⟨g0, 0, none⟩) n k0, .slice (some ⟨g1, 0, none⟩) n k1, .slice (some ⟨g2, 0, none⟩) n k2] 41) = u8 at *
    have sz8 : u7.heap.size < u8.heap.size := O.lt
    obtain ⟨cs, ct, _, wb0, wv⟩ := own_some W0.out
    obtain ⟨wc, wf⟩ := wb0.open
    have wj := wv j _ (fvals_get (show j < e.length by rw [HE0.out]; exact hje))
    have wc0 := wc j; rw [wj] at wc0; have wf0 := wf j
    clear wc wf wv wj wb0
    obtain ⟨Xc, Xf⟩ := X.open
    obtain ⟨Oc, Of⟩ := O.open
    go_upto_region 5 with (fail)
    clear Xc Xf
    clear Oc Of
    clear wc0 wf0
    have hset : u8.heap.size ≤ (u8.setCell ⟨g0, j, none⟩ (.float .f32 z)).heap.size := by simp
    have W9 := Lib.hid (own_put W0.out j (.float .f32 z) (by rw [fvals_length, HE0.out]; exact hje)); clear W0
    rw [fvals_set] at W9
    have ot := out_set u8 g0 j (.float .f32 z)
    replace R := R.out ot (by omega)
    replace O := O.out ot (by omega)
    replace W1 := Lib.hid (W1.out.outside ot (lo := _) (hi := _) (fun x hx => by cases hx; exact ⟨Nat.le_refl g1, Nat.lt_succ_self g1⟩) (by omega))
    replace W2 := Lib.hid (W2.out.outside ot (lo := _) (hi := _) (fun x hx => by cases hx; exact ⟨Nat.le_refl g2, Nat.lt_succ_self g2⟩) (by omega))
    replace HB := Lib.hid (HB.out.setCell (p := ⟨g0, j, none⟩) (by dsimp only; have := HB.out.size; omega) (.float .f32 z))
    clear ot X Y
    generalize u8.setCell ⟨g0, j, none⟩ (.float .f32 z) = u9 at *
    obtain ⟨Oc, Of⟩ := O.open; obtain ⟨Rc, Rf⟩ := R.open
    go_wp2
    refine bodyPost_ret (v := .tuple #[.agg #[.slice (some ⟨g0, 0, none⟩) n k0, .slice (some ⟨g1, 0, none⟩) n k1, .slice (some ⟨g2, 0, none⟩) n k2], .bool true]) (by simp [results, Try.results40, go_sem, Rc]) rfl ⟨some ⟨g0, 0, none⟩, some ⟨g1, 0, none⟩, some ⟨g2, 0, none⟩, k0, k1, k2, e.set j z, x, y, by rw [NN.out, List.length_set, HE0.out, HE1.out, HE2.out], by rw [N0.out, N1.out, N2.out, HJ.out, Int.toNat_natCast]; exact ⟨((((W9.out.lower (show w.heap.size ≤ _ by omega)).set (p := ⟨w.heap.size + 1 + 1, 0, none⟩) (ne_block (h := w.heap.size + 1 + 1) (by omega)) _).set (p := ⟨w.heap.size + 1 + 1, 1, none⟩) (ne_block (h := w.heap.size + 1 + 1) (by omega)) _).set (p := ⟨w.heap.size + 1 + 1, 2, none⟩) (ne_block (h := w.heap.size + 1 + 1) (by omega)) _), ((((W1.out.lower (show w.heap.size ≤ _ by omega)).set (p := ⟨w.heap.size + 1 + 1, 0, none⟩) (ne_block (h := w.heap.size + 1 + 1) (by omega)) _).set (p := ⟨w.heap.size + 1 + 1, 1, none⟩) (ne_block (h := w.heap.size + 1 + 1) (by omega)) _).set (p := ⟨w.heap.size + 1 + 1, 2, none⟩) (ne_block (h := w.heap.size + 1 + 1) (by omega)) _), ((((W2.out.lower (show w.heap.size ≤ _ by omega)).set (p := ⟨w.heap.size + 1 + 1, 0, none⟩) (ne_block (h := w.heap.size + 1 + 1) (by omega)) _).set (p := ⟨w.heap.size + 1 + 1, 1, none⟩) (ne_block (h := w.heap.size + 1 + 1) (by omega)) _).set (p := ⟨w.heap.size + 1 + 1, 2, none⟩) (ne_block (h := w.heap.size + 1 + 1) (by omega)) _), is_set Hq0.out (by rw [HE0.out]; exact n256) j z wz, Is.refl Hq1.out (by rw [HE1.out]; exact n256), Is.refl Hq2.out (by rw [HE2.out]; exact n256), (((HB.out.setCell (p := ⟨w.heap.size + 1 + 1, 0, none⟩) (by first | omega | (simp <;> omega)) _).setCell (p := ⟨w.heap.size + 1 + 1, 1, none⟩) (by first | omega | (simp <;> omega)) _).setCell (p := ⟨w.heap.size + 1 + 1, 2, none⟩) (by first | omega | (simp <;> omega)) _)⟩⟩
  · skip
    have hn : putB wd hi wb xs ys e x y u v z = false := by rw [HP0.out, HFB.out, hs, hf, hc, bd, nz]; rfl
    obtain ⟨n0, n1, n2⟩ := HM.out hn
    have N0 := Lib.hid n0; have N1 := Lib.hid n1; have N2 := Lib.hid n2; have NN := Lib.hid hn; clear n0 n1 n2 hn
    unfold nzB at nz
    obtain ⟨Rc, Rf⟩ := R.open
    go_wp2
    refine bodyPost_ret (v := .tuple #[.agg #[.slice none 0 0, .slice none 0 0, .slice none 0 0], .bool false]) (by simp [results, Try.results40, go_sem, Rc]) rfl ⟨none, none, none, 0, 0, 0, [], [], [], by rw [NN.out]; rfl, by rw [N0.out, N1.out, N2.out]; exact OwnField.none (((HB.out.setCell (p := ⟨w.heap.size + 1 + 1, 0, none⟩) (by first | omega | (simp <;> omega)) _).setCell (p := ⟨w.heap.size + 1 + 1, 1, none⟩) (by first | omega | (simp <;> omega)) _).setCell (p := ⟨w.heap.size + 1 + 1, 2, none⟩) (by first | omega | (simp <;> omega)) _)⟩

end Go.Proofs.Ytabhjnpmmjmaiab
