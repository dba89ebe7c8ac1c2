/- The sums of all cells over steps: the program's answers. Conditions: those of each theorem. -/
import Derived.Test.YtedfbaeajofmnabTraceC
import Derived.Test.YtedfbaeajofmnabTraceM
import Derived.Test.YtedfbaeajofmnabBu15
namespace Go.Proofs.Ytedfbaeajofmnab
open Go Ieee Go.RowKit Go.Shelf
set_option linter.unusedVariables false

theorem lag_add {n : Nat} {xs zs L : List Nat} {A B : Nat → Option Nat} (ha : LAg n xs A) (hb : LAg n zs B) (h : Is L (addC xs zs)) : LAg n L (fun i => fop .add .f32 (A i) (B i)) := by
  have h1 := h.1
  have hl : L.length = n := by
    have := congrArg List.length h1
    unfold addC at this
    rw [cl_length, List.length_zipWith, ha.1, hb.1] at this
    omega
  refine ⟨hl, h.2, fun i hi => ?_⟩
  show nums L i = fop .add .f32 (A i) (B i)
  have e := congrArg (fun l : List (Option Nat) => l[i]?) h1
  unfold cl addC at e
  simp only [List.getElem?_map, List.getElem?_zipWith] at e
  rw [List.getElem?_eq_getElem (show i < L.length by omega), List.getElem?_eq_getElem (show i < xs.length by rw [ha.1]; omega), List.getElem?_eq_getElem (show i < zs.length by rw [hb.1]; omega)] at e
  simp only [Option.map_some, Option.some.injEq] at e
  rw [← ha.2.2 i hi, ← hb.2.2 i hi]
  unfold nums
  rw [getD_get (show i < L.length by omega), getD_get (show i < xs.length by rw [ha.1]; omega), getD_get (show i < zs.length by rw [hb.1]; omega)]
  exact e

theorem implAddN (n sg sc g0 c0 : Nat) (l : List Nat) (ea : Nat → Nat) (A B : Nat → Option Nat) (w : World) (h1 : RowV w (some ⟨sg, 0, none⟩) (fvals l)) (hA : LAg n l A) (h2 : RowV w (some ⟨g0, 0, none⟩) (fvals (firsts ea n))) (hB : Ag n ea B) (hn : n ≤ 256) :
    Calls Try.prog 63 #[.slice (some ⟨sg, 0, none⟩) n sc, .slice (some ⟨g0, 0, none⟩) n c0] w fun e w' => ∃ g l', e = .returned (.slice (some ⟨g, 0, none⟩) n n) ∧ OwnV w' w.heap.size (some ⟨g, 0, none⟩) (fvals l') ∧ LAg n l' (fun i => fop .add .f32 (A i) (B i)) ∧ Below w.heap.size w w' := by
  have h := implAddLists (some ⟨sg, 0, none⟩) sc l (some ⟨g0, 0, none⟩) c0 (firsts ea n) w h1 h2 (by rw [firsts_length, hA.1]) (by rw [hA.1]; exact hn)
  rw [firsts_length, hA.1] at h
  refine h.mono ?_
  rintro e w' ⟨g, l', rfl, ho, hi, b⟩
  have hl := lag_add hA (lag_firsts hB) hi
  exact ⟨g, l', by rw [hl.1], ho, hl, b⟩

set_option maxHeartbeats 16000000 in
set_option maxRecDepth 100000 in
theorem implSumOfStepsL (wd hi : Int) (wb : Bool) (a b : Option Addr) (ca cb : Nat) (xs ys : List Nat) (a0 a1 a2 : Option Addr) (c0 c1 c2 : Nat) (e x y : List Nat) (steps : Int) (w : World) (ha : RowV w a (fvals xs)) (hb : RowV w b (fvals ys)) (qa : ∀ z ∈ xs, z < 2 ^ 32) (qb : ∀ z ∈ ys, z < 2 ^ 32) (hx : xs.length ≤ maxLen) (hy : ys.length ≤ maxLen) (h0 : RowV w a0 (fvals e)) (h1 : RowV w a1 (fvals x)) (h2 : RowV w a2 (fvals y)) (q0 : ∀ z ∈ e, z < 2 ^ 32) (q1 : ∀ z ∈ x, z < 2 ^ 32) (q2 : ∀ z ∈ y, z < 2 ^ 32) (m0 : e.length ≤ maxLen) (m1 : x.length ≤ maxLen) (m2 : y.length ≤ maxLen) (ws : (Lit.int .i64 steps).wf = true) (hc0 : c0 = e.length := by rfl) (hc1 : c1 = x.length := by rfl) (hc2 : c2 = y.length := by rfl) :
    Calls Try.prog 33 #[.agg #[.int .i64 wd, .int .i64 hi, .bool wb, .slice a xs.length ca, .slice b ys.length cb], .agg #[.slice a0 e.length c0, .slice a1 x.length c1, .slice a2 y.length c2], .int .i64 steps] w (GaveLO w (runB wd hi wb xs ys e x y steps) (smM wd hi wb xs ys e x y steps)) := by
  subst hc0; subst hc1; subst hc2
  rcases hfv : fieldB wd hi wb xs ys e x y with _ | _
  · skip
    rw [show runB wd hi wb xs ys e x y steps = false from by unfold runB; rw [hfv]; rfl]
    have H_fb := Lib.hid hfv; clear hfv
    have X := Blk.new w #[.int .i64 wd, .int .i64 hi, .bool wb, .slice a xs.length ca, .slice b ys.length cb] 32
    have Y := Blk.new1 w (.cells #[.int .i64 wd, .int .i64 hi, .bool wb, .slice a xs.length ca, .slice b ys.length cb] 32) #[.slice a0 e.length e.length, .slice a1 x.length x.length, .slice a2 y.length y.length] 29
    replace X := X.alloc (.cells #[.slice a0 e.length e.length, .slice a1 x.length x.length, .slice a2 y.length y.length] 29)
    have HB : Hid (Below w.heap.size w ((w.alloc (.cells #[.int .i64 wd, .int .i64 hi, .bool wb, .slice a xs.length ca, .slice b ys.length cb] 32)).alloc (.cells #[.slice a0 e.length e.length, .slice a1 x.length x.length, .slice a2 y.length y.length] 29))) := Lib.hid (((Below.refl w.heap.size w).alloc (by simp <;> omega) _).alloc (by simp <;> omega) _)
    refine callsIn_wide.1 (callsIn_of_wp_marks (n := 0) Try.func33 rfl trivial (wpIn_wide.2 ?_))
    simp only [Try.ntmps33, List.size_toArray, List.length_cons, List.length_nil, Nat.reduceAdd, Nat.reduceSub, Array.replicate_succ, Array.replicate_zero, List.push_toArray, List.append_toArray, List.nil_append, List.cons_append]
    go_wp2_with fail
    generalize ((w.alloc (.cells #[.int .i64 wd, .int .i64 hi, .bool wb, .slice a xs.length ca, .slice b ys.length cb] 32)).alloc (.cells #[.slice a0 e.length e.length, .slice a1 x.length x.length, .slice a2 y.length y.length] 29)) = u1 at *
    obtain ⟨Xc, Xf⟩ := X.open
    obtain ⟨Yc, Yf⟩ := Y.open
    go_wp2_with fail
    refine (implIsField _ _ _ _ _ _ _ _ _ _ _ _ _ _ _ _ _ _ _ (ha.later HB.out) (hb.later HB.out) hx hy (h0.later HB.out) (h1.later HB.out) (h2.later HB.out) m0 m1 m2).mono ?_
    rintro r u2 ⟨rfl, q⟩
    clear Xc Xf
    clear Yc Yf
    replace X := X.later q
    replace Y := Y.later q
    replace HB := Lib.hid (HB.out.trans (q.mono HB.out.size))
    clear q
    rw [H_fb.out]
    go_wp2
    exact ⟨.tuple #[.slice none 0 0, .bool false], by simp [results, Try.results33, go_sem], gave_none HB.out⟩
  rcases hst : isRunB steps with _ | _
  · skip
    rw [show runB wd hi wb xs ys e x y steps = false from by unfold runB; rw [hst, Bool.and_false]]
    have H_fb := Lib.hid hfv; clear hfv; have HST := Lib.hid hst; clear hst
    have X := Blk.new w #[.int .i64 wd, .int .i64 hi, .bool wb, .slice a xs.length ca, .slice b ys.length cb] 32
    have Y := Blk.new1 w (.cells #[.int .i64 wd, .int .i64 hi, .bool wb, .slice a xs.length ca, .slice b ys.length cb] 32) #[.slice a0 e.length e.length, .slice a1 x.length x.length, .slice a2 y.length y.length] 29
    replace X := X.alloc (.cells #[.slice a0 e.length e.length, .slice a1 x.length x.length, .slice a2 y.length y.length] 29)
    have HB : Hid (Below w.heap.size w ((w.alloc (.cells #[.int .i64 wd, .int .i64 hi, .bool wb, .slice a xs.length ca, .slice b ys.length cb] 32)).alloc (.cells #[.slice a0 e.length e.length, .slice a1 x.length x.length, .slice a2 y.length y.length] 29))) := Lib.hid (((Below.refl w.heap.size w).alloc (by simp <;> omega) _).alloc (by simp <;> omega) _)
    refine callsIn_wide.1 (callsIn_of_wp_marks (n := 0) Try.func33 rfl trivial (wpIn_wide.2 ?_))
    simp only [Try.ntmps33, List.size_toArray, List.length_cons, List.length_nil, Nat.reduceAdd, Nat.reduceSub, Array.replicate_succ, Array.replicate_zero, List.push_toArray, List.append_toArray, List.nil_append, List.cons_append]
    go_wp2_with fail
    generalize ((w.alloc (.cells #[.int .i64 wd, .int .i64 hi, .bool wb, .slice a xs.length ca, .slice b ys.length cb] 32)).alloc (.cells #[.slice a0 e.length e.length, .slice a1 x.length x.length, .slice a2 y.length y.length] 29)) = u1 at *
    obtain ⟨Xc, Xf⟩ := X.open
    obtain ⟨Yc, Yf⟩ := Y.open
    go_wp2_with fail
    refine (implIsField _ _ _ _ _ _ _ _ _ _ _ _ _ _ _ _ _ _ _ (ha.later HB.out) (hb.later HB.out) hx hy (h0.later HB.out) (h1.later HB.out) (h2.later HB.out) m0 m1 m2).mono ?_
    rintro r u2 ⟨rfl, q⟩
    clear Xc Xf
    clear Yc Yf
    replace X := X.later q
    replace Y := Y.later q
    replace HB := Lib.hid (HB.out.trans (q.mono HB.out.size))
    clear q
    rw [H_fb.out]
    go_wp2_with fail
    refine (implIsRun _ _).mono ?_
    rintro r w5 ⟨rfl, rfl⟩
    rw [HST.out]
    go_wp2
    exact ⟨.tuple #[.slice none 0 0, .bool false], by simp [results, Try.results33, go_sem], gave_none HB.out⟩
  rw [show runB wd hi wb xs ys e x y steps = true from by unfold runB; rw [hst, hfv]; rfl]
  obtain ⟨m, k, n, rfl, rfl, hn, s1, s2, s3, s4, la, lb, l0, l1, l2, np, n256⟩ := field_nat hfv
  obtain ⟨b0, o0, rfl⟩ := row_at h0 (show 0 < e.length by omega)
  obtain ⟨b1, o1, rfl⟩ := row_at h1 (show 0 < x.length by omega)
  obtain ⟨b2, o2, rfl⟩ := row_at h2 (show 0 < y.length by omega)
  obtain ⟨ba, oa, rfl⟩ := row_at ha (show 0 < xs.length by omega)
  obtain ⟨bb, ob, rfl⟩ := row_at hb (show 0 < ys.length by omega)
  have HN := Lib.hid hn; have LA := Lib.hid la; have LB := Lib.hid lb; have L0 := Lib.hid l0; have L1 := Lib.hid l1; have L2 := Lib.hid l2; clear hn la lb l0 l1 l2
  have H_fb := Lib.hid hfv; clear hfv; have HST := Lib.hid hst
  obtain ⟨st0, st1⟩ : 0 ≤ steps ∧ steps ≤ 64 := of_decide_eq_true hst; clear hst
  obtain ⟨N, rfl⟩ := Int.eq_ofNat_of_zero_le st0
  have hN : N ≤ 64 := by omega
  have X := Blk.new w #[.int .i64 (m : Int), .int .i64 (k : Int), .bool wb, .slice (some ⟨ba, oa, none⟩) xs.length ca, .slice (some ⟨bb, ob, none⟩) ys.length cb] 32
  have Y := Blk.new1 w (.cells #[.int .i64 (m : Int), .int .i64 (k : Int), .bool wb, .slice (some ⟨ba, oa, none⟩) xs.length ca, .slice (some ⟨bb, ob, none⟩) ys.length cb] 32) #[.slice (some ⟨b0, o0, none⟩) e.length e.length, .slice (some ⟨b1, o1, none⟩) x.length x.length, .slice (some ⟨b2, o2, none⟩) y.length y.length] 29
  replace X := X.alloc (.cells #[.slice (some ⟨b0, o0, none⟩) e.length e.length, .slice (some ⟨b1, o1, none⟩) x.length x.length, .slice (some ⟨b2, o2, none⟩) y.length y.length] 29)
  have HB : Hid (Below w.heap.size w ((w.alloc (.cells #[.int .i64 (m : Int), .int .i64 (k : Int), .bool wb, .slice (some ⟨ba, oa, none⟩) xs.length ca, .slice (some ⟨bb, ob, none⟩) ys.length cb] 32)).alloc (.cells #[.slice (some ⟨b0, o0, none⟩) e.length e.length, .slice (some ⟨b1, o1, none⟩) x.length x.length, .slice (some ⟨b2, o2, none⟩) y.length y.length] 29))) := Lib.hid (((Below.refl w.heap.size w).alloc (by simp <;> omega) _).alloc (by simp <;> omega) _)
  refine callsIn_wide.1 (callsIn_of_wp_marks (n := 0) Try.func33 rfl trivial (wpIn_wide.2 ?_))
  simp only [Try.ntmps33, List.size_toArray, List.length_cons, List.length_nil, Nat.reduceAdd, Nat.reduceSub, Array.replicate_succ, Array.replicate_zero, List.push_toArray, List.append_toArray, List.nil_append, List.cons_append]
  go_wp2_with fail
  generalize ((w.alloc (.cells #[.int .i64 (m : Int), .int .i64 (k : Int), .bool wb, .slice (some ⟨ba, oa, none⟩) xs.length ca, .slice (some ⟨bb, ob, none⟩) ys.length cb] 32)).alloc (.cells #[.slice (some ⟨b0, o0, none⟩) e.length e.length, .slice (some ⟨b1, o1, none⟩) x.length x.length, .slice (some ⟨b2, o2, none⟩) y.length y.length] 29)) = u1 at *
  obtain ⟨Xc, Xf⟩ := X.open
  obtain ⟨Yc, Yf⟩ := Y.open
  go_wp2_with fail
  refine (implIsField _ _ _ _ _ _ _ _ _ _ _ _ _ _ _ _ _ _ _ (ha.later HB.out) (hb.later HB.out) hx hy (h0.later HB.out) (h1.later HB.out) (h2.later HB.out) m0 m1 m2).mono ?_
  rintro r u2 ⟨rfl, q⟩
  clear Xc Xf
  clear Yc Yf
  replace X := X.later q
  replace Y := Y.later q
  replace HB := Lib.hid (HB.out.trans (q.mono HB.out.size))
  clear q
  rw [H_fb.out]
  go_wp2_with fail
  refine (implIsRun _ _).mono ?_
  rintro r w5 ⟨rfl, rfl⟩
  rw [HST.out]
  obtain ⟨Xc, Xf⟩ := X.open
  go_wp2_with fail
  refine (implShapeOf _ _ _ _ _ _ _ _ _ _).mono ?_
  rintro r u3 ⟨rfl, q⟩
  clear Xc Xf
  replace X := X.later q
  replace Y := Y.later q
  replace HB := Lib.hid (HB.out.trans (q.mono HB.out.size))
  clear q
  have hmk : (m : Int) * (k : Int) = (n : Int) := by rw [HN.out]; exact (Int.natCast_mul m k).symm
  have szb := HB.out.size
  go_wp2_with fail
  refine (implZeros (m : Int) (k : Int) wb n _ hmk n256).mono ?_
  rintro r u4 ⟨zg, rfl, zo, q, zlt⟩
  replace X := X.later q
  replace Y := Y.later q
  replace HB := Lib.hid (HB.out.trans (q.mono HB.out.size))
  clear q
  have HZO := Lib.hid (zo.lower szb)
  clear zo
  have zgl : zg < u4.heap.size := (HZO.out.span _ rfl).2
  have xlt := X.lt
  have TB := Blk.new u4 #[.slice (some ⟨zg, 0, none⟩) n n] 22
  have q := below_new u4 (.cells #[.slice (some ⟨zg, 0, none⟩) n n] 22)
  replace X := X.later q
  replace Y := Y.later q
  replace HZO := Lib.hid (HZO.out.later q)
  replace HB := Lib.hid (HB.out.trans (q.mono HB.out.size))
  clear q
  obtain ⟨Xc, Xf⟩ := X.open
  obtain ⟨Yc, Yf⟩ := Y.open
  go_wp2_with fail
  generalize (u4.alloc (.cells #[.slice (some ⟨zg, 0, none⟩) n n] 22)) = u5 at *
  have tlt3 := TB.lt
  have zgl3 : zg < u5.heap.size := (HZO.out.span _ rfl).2
  refine (implFieldsBehind m k N ba oa ca bb ob cb b0 b1 b2 o0 o1 o2 wb xs ys e x y _).mono ?_
  rintro r u6 ⟨sb, fb, nb, rfl, SB, FB, NB, ls, ln, q⟩
  clear Xc Xf
  clear Yc Yf
  replace X := X.later q
  replace Y := Y.later q
  replace TB := TB.later q
  replace HZO := Lib.hid (HZO.out.later q)
  replace HB := Lib.hid (HB.out.trans (q.mono HB.out.size))
  clear q
  obtain ⟨tb, htb⟩ : ∃ tb, tb = u4.heap.size := ⟨_, rfl⟩
  rw [← htb] at TB tlt3
  go_wp2_with fail
  (try simp only [← htb])
  refine wp_range_open rfl (enters_of Try.func89 (by kernel_rfl) rfl) ?_
  intro rn L D rc W1 hrc hL hD hS wL wD q
  have sz4 := HB.out.size; have tlt := TB.lt; have nlt := NB.lt; have slt := SB.lt
  replace X := X.later q
  replace Y := Y.later q
  replace TB := TB.later q
  replace SB := SB.later q
  replace FB := FB.later q
  replace NB := NB.later q
  replace HZO := Lib.hid (HZO.out.later q)
  replace HB := Lib.hid (HB.out.trans (q.mono HB.out.size))
  clear q
  have hz1 : zg < tb := by omega
  have hz2 : tb < D := by omega
  have hz3 : D + 1 ≤ L := by omega
  have hz5 : L ≤ D + 1 := by omega
  have hz4 : W1.heap.size = D + 1 + 1 := by omega
  have hz6 : u6.heap.size ≤ D := by omega
  have hz7 : w.heap.size ≤ tb := by omega
  clear hL hD hS
  have HTR := Lib.hid htb; clear htb
  obtain ⟨J, hJ⟩ : ∃ J : Nat → Nat → World → Prop, J = fun gb j W => W1.heap.size ≤ gb ∧ ∃ (sg : Nat) (l : List Nat), sg ≠ gb ∧ LAg n l (sumT (fun j => runT wb m k (nums xs) (nums ys) ⟨nums e, nums x, nums y⟩ j) j) ∧ OwnV W w.heap.size (some ⟨sg, 0, none⟩) (fvals l) ∧ Blk W tb #[.slice (some ⟨sg, 0, none⟩) n n] 22 ∧ sg ≠ L ∧ sg ≠ tb ∧ W.heap[L]? = some (.loop (rc .ready none)) ∧ W.heap[D]? = some (.deferred (some [])) ∧ Below w.heap.size w W := ⟨_, rfl⟩
  have J0 : Hid (∀ gb W, W1.heap.size ≤ gb → gb < W.heap.size → Below W1.heap.size W1 W → J gb 0 W) := Lib.hid (by
    intro gb W g1 g2 b
    subst hJ
    exact ⟨g1, zg, List.replicate n 0, by omega, lag_zeros _ n, HZO.out.later b, TB.later b, by omega, by omega, (b.block L (by omega)).trans wL, (b.block D (by omega)).trans wD, HB.out.trans (b.mono (by omega))⟩)
  have JA : Hid (∀ gb j W W', J gb j W → W.grownBy W' (some gb) → J gb j W') := Lib.hid (by
    intro gb j W W' h hg
    subst hJ
    obtain ⟨g1, sg, l, z1, z2, z4, z5, za, zb, z8, z9, z10⟩ := h
    exact ⟨g1, sg, l, z1, z2, z4.grown hg (fun x hx => by cases hx; simp; omega), z5.grown hg (by simp; omega), za, zb, (hg.block L (Array.getElem?_eq_some_iff.1 z8).1 (by simp; omega)).trans z8, (hg.block D (Array.getElem?_eq_some_iff.1 z9).1 (by simp; omega)).trans z9, z10.grown hg z10.size (fun j hj => by cases hj; omega)⟩)
  have HY : Hid (∀ gb j W g0 g1 g2 c0 c1 c2 ea xa ya, j < N → J gb j W → W1.heap.size ≤ gb → gb < W.heap.size → Handed W1.heap.size n gb (runT wb m k (nums xs) (nums ys) ⟨nums e, nums x, nums y⟩ (j + 1)) W g0 g1 g2 ea xa ya → YieldAt Fence.wide 0 Try.prog L #[.agg #[.slice (some ⟨g0, 0, none⟩) n c0, .slice (some ⟨g1, 0, none⟩) n c1, .slice (some ⟨g2, 0, none⟩) n c2]] W fun e W' => (e = .returned (.bool true) ∧ J gb (j + 1) W' ∧ Keep (fun i => i = tb ∨ i = L) W W') ∨ (e = .returned (.bool false) ∧ (fun _ : World => False) W')) := by
    refine Lib.hid ?_
    intro gb j W g0 g1 g2 c0 c1 c2 ea xa ya hlt hj gl glt H3
    rw [hJ] at hj
    obtain ⟨g1_, sg, l, z1, z2, z4, z5, za, zb, z8, z9, z10⟩ := hj
    refine round_open hrc z8 rfl ?_
    have HRC := Lib.hid hrc; clear hrc; have HJD := Lib.hid hJ; clear hJ
    clear J0 JA HZO TB X Y SB FB NB wL wD HB
    simp only [List.zip_toArray, List.zip_cons_cons, List.zip_nil_right, List.foldl_toArray, List.foldl_cons, List.foldl_nil, List.setIfInBounds_toArray, List.set_cons_succ, List.set_cons_zero]
    refine in_region (by rintro ⟨_, _, h⟩; exact h) rfl ?_
    go_wp2_with fail
    refine ⟨(Below.heap_alloc _ _ _ (Array.getElem?_eq_some_iff.1 z8).1).trans z8, wpIn_block ?_⟩
    refine in_region (by rintro ⟨_, _, _, h⟩; exact h) rfl ?_
    have q := below_new W (.cells #[.slice (some ⟨g0, 0, none⟩) n c0, .slice (some ⟨g1, 0, none⟩) n c1, .slice (some ⟨g2, 0, none⟩) n c2] 29)
    have NW := Blk.new W #[.slice (some ⟨g0, 0, none⟩) n c0, .slice (some ⟨g1, 0, none⟩) n c1, .slice (some ⟨g2, 0, none⟩) n c2] 29
    have HK : Keep (fun i => i = tb ∨ i = L) W ((W.alloc (.cells #[.slice (some ⟨g0, 0, none⟩) n c0, .slice (some ⟨g1, 0, none⟩) n c1, .slice (some ⟨g2, 0, none⟩) n c2] 29)).putObj L (.loop (rc .busy none))) := (Keep.of_below q).putObj (.inr rfl) _
    have kl := (Array.getElem?_eq_some_iff.1 z8).1; have kd := (Array.getElem?_eq_some_iff.1 z9).1
    have e1 := H3.o0.later q
    replace z4 := z4.later q; replace z5 := z5.later q; replace z10 := z10.trans (q.mono z10.size)
    replace z9 := (q.block D kd).trans z9
    have zz := q.size; clear q
    have gp := grown_putObj (W.alloc (.cells #[.slice (some ⟨g0, 0, none⟩) n c0, .slice (some ⟨g1, 0, none⟩) n c1, .slice (some ⟨g2, 0, none⟩) n c2] 29)) L (.loop (rc .busy none))
    replace z4 := z4.grown gp (fun x hx => by cases hx; simp; omega); replace z5 := z5.putObj (o := .loop (rc .busy none)) (show tb ≠ L by omega)
    replace NW := NW.putObj (o := .loop (rc .busy none)) (show W.heap.size ≠ L by omega)
    replace z10 := z10.grown gp z10.size (fun j hj => by cases hj; omega)
    replace z9 := (gp.block D (by simp; omega) (by simp; omega)).trans z9
    replace z8 := putObj_same (o := .loop (rc .busy none)) (show L < (W.alloc (.cells #[.slice (some ⟨g0, 0, none⟩) n c0, .slice (some ⟨g1, 0, none⟩) n c1, .slice (some ⟨g2, 0, none⟩) n c2] 29)).heap.size by simp; omega)
    have f1 := e1.row.grown gp (fun x hx _ => by cases hx; have := H3.o0.bound g0 rfl; simp; omega)
    clear e1 gp zz
    have HE := Lib.hid H3.e; clear H3
    obtain ⟨nw, hnw⟩ : ∃ nw, nw = W.heap.size := ⟨_, rfl⟩
    generalize ((W.alloc (.cells #[.slice (some ⟨g0, 0, none⟩) n c0, .slice (some ⟨g1, 0, none⟩) n c1, .slice (some ⟨g2, 0, none⟩) n c2] 29)).putObj L (.loop (rc .busy none))) = v1 at *
    obtain ⟨z5c, z5f⟩ := z5.open; obtain ⟨nwc, nwf⟩ := NW.open
    go_wp2_with fail
    refine (implAddN n sg n g0 c0 l ea (sumT (fun j => runT wb m k (nums xs) (nums ys) ⟨nums e, nums x, nums y⟩ j) j) _ v1 z4.row z2 f1 HE.out n256).mono ?_
    rintro e9 v2 ⟨ng, l2, rfl, ow, lg, b⟩
    clear z5c z5f nwc nwf
    have HK2 := HK.trans (Keep.of_below b)
    have ngb := ow.bound ng rfl
    have gbv := Nat.lt_of_lt_of_le glt HK.size
    have lbv := Nat.lt_of_lt_of_le kl HK.size
    have tbv := z5.lt
    replace z5 := z5.later b; replace z10 := z10.trans (b.mono z10.size)
    have kl2 := (Array.getElem?_eq_some_iff.1 z8).1; have kd2 := (Array.getElem?_eq_some_iff.1 z9).1
    replace z8 := (b.block L kl2).trans z8; replace z9 := (b.block D kd2).trans z9
    have ngw := ow.lower (show w.heap.size ≤ v1.heap.size by omega)
    clear b ow f1 z4 NW HK
    obtain ⟨z5c, z5f⟩ := z5.open
    go_wp2_with fail
    have c9 := HK2.setCell (p := ⟨tb, 0, none⟩) (.inl rfl) (.slice (some ⟨ng, 0, none⟩) n n)
    have gp := grown_putObj (v2.setCell ⟨tb, 0, none⟩ (.slice (some ⟨ng, 0, none⟩) n n)) L (.loop (rc .ready none))
    have b10 : Below w.heap.size w (v2.setCell ⟨tb, 0, none⟩ (.slice (some ⟨ng, 0, none⟩) n n)) := z10.setCell (show w.heap.size ≤ (⟨tb, 0, none⟩ : Addr).block by dsimp only; omega) _
    have kD : (v2.setCell ⟨tb, 0, none⟩ (.slice (some ⟨ng, 0, none⟩) n n)).heap[D]? = some (.deferred (some [])) := (heap_setCell_other v2 ⟨tb, 0, none⟩ D _ (show D ≠ tb by omega)).trans z9
    have kL := (heap_setCell_other v2 ⟨tb, 0, none⟩ L (.slice (some ⟨ng, 0, none⟩) n n) (show L ≠ tb by omega)).trans z8
    have kLs : L < (v2.setCell ⟨tb, 0, none⟩ (.slice (some ⟨ng, 0, none⟩) n n)).heap.size := (Array.getElem?_eq_some_iff.1 kL).1
    refine ⟨kL, ?_, c9.putObj (.inr rfl) _⟩
    rw [HJD.out]
    exact ⟨g1_, ng, l2, by omega, lg, (ngw.set (fun x hx => by cases hx; dsimp only; omega) _).grown gp (fun x hx => by cases hx; simp; omega), (z5.set 0 _).putObj (by omega), by omega, by omega, putObj_same kLs, (World.putObj_heap_other (by omega)).trans kD, b10.grown gp b10.size (fun j hj => by cases hj; omega)⟩
  have sba := Lib.hid (show ba < w.heap.size from by
    obtain ⟨b', o', e', hc⟩ := ha 0 _ (fvals_get (show 0 < xs.length by rw [LA.out]; exact np))
    cases e'; exact lt_of_cell hc)
  have sbb := Lib.hid (show bb < w.heap.size from by
    obtain ⟨b', o', e', hc⟩ := hb 0 _ (fvals_get (show 0 < ys.length by rw [LB.out]; exact np))
    cases e'; exact lt_of_cell hc)
  have va := sba.out; have vb := sbb.out
  refine (iterFields m k n N sb fb nb ba oa ca bb ob cb b0 b1 b2 o0 o1 o2 wb xs ys e x y (fun i => i = tb ∨ i = L) L J (fun _ => False) W1 SB FB NB (ha.later HB.out) (hb.later HB.out) LA.out LB.out (h0.later HB.out) (h1.later HB.out) (h2.later HB.out) L0.out L1.out L2.out q0 q1 q2 s1 s2 s3 s4 HN hN (by omega) (by omega) (by omega) (by omega) (fun i hi => by omega) J0 JA HY).mono ?_
  rintro e9 W2 ⟨⟨v9, rfl⟩, ⟨gb, h9⟩ | h9⟩
  case inr => exact h9.elim
  rw [hJ] at h9
  obtain ⟨g1_, sg, l, z1, z2, z4, z5, za, zb, z8, z9, z10⟩ := h9
  refine ⟨v9, rfl, .inl ⟨z8, ?_⟩⟩
  have kl := (Array.getElem?_eq_some_iff.1 z8).1
  have gp := grown_putObj W2 L (.loop (rc .exhausted none))
  replace z4 := z4.grown gp (fun x hx => by cases hx; simp; omega); replace z5 := z5.putObj (o := .loop (rc .exhausted none)) (show tb ≠ L by omega)
  replace z10 := z10.grown gp z10.size (fun j hj => by cases hj; omega)
  replace z9 := (gp.block D (Array.getElem?_eq_some_iff.1 z9).1 (by simp; omega)).trans z9
  clear HY J0 JA gp z8
  generalize (W2.putObj L (.loop (rc .exhausted none))) = v2 at *
  obtain ⟨z5c, z5f⟩ := z5.open
  go_wp2
  refine ⟨by simp, .inl ⟨_, _, rfl, run_takeDeferred z9, ?_⟩⟩
  have gd := grown_putObj v2 D (.deferred none)
  have sgd : sg ≠ D := fun h => by
    subst h
    rcases z4 with ⟨h0, _⟩ | ⟨g, cs, t, h0, hg, hc, _⟩
    · cases h0
    · cases h0
      have hc2 : v2.heap[sg]? = some (.cells cs t (0, 0)) := hc
      rw [hc2] at z9; cases z9
  refine ⟨.tuple #[.slice (some ⟨sg, 0, none⟩) n n, .bool true], by simp [results, Try.results33, go_sem], ?_⟩
  refine ⟨some ⟨sg, 0, none⟩, n, l, by rw [z2.1], z4.grown gd (fun x hx => by cases hx; simp; omega), ?_, z10.grown gd z10.size (fun j hj => by cases hj; omega)⟩
  unfold smM ifO
  rw [oL_nat, ← HN.out]
  exact is_lag z2 n256

end Go.Proofs.Ytedfbaeajofmnab
