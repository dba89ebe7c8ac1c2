/- The fields behind steps, one after another: the program's function that is ranged over. Conditions: those of iterFields. -/
import Derived.Test.YtedfbaeajofmnabRange
import Derived.Test.YtedfbaeajofmnabBu22
namespace Go.Proofs.Ytedfbaeajofmnab
open Go Ieee Go.RowKit
set_option linter.unusedVariables false

/-- a field that is handed to a round: lists of their own, apart from block gb -/
structure Handed (B n gb : Nat) (t : Trip) (W : World) (g0 g1 g2 : Nat) (ea xa ya : Nat → Nat) : Prop where
  o0 : OwnV W B (some ⟨g0, 0, none⟩) (fvals (firsts ea n))
  o1 : OwnV W B (some ⟨g1, 0, none⟩) (fvals (firsts xa n))
  o2 : OwnV W B (some ⟨g2, 0, none⟩) (fvals (firsts ya n))
  n0 : g0 ≠ gb
  n1 : g1 ≠ gb
  n2 : g2 ≠ gb
  e : Ag n ea t.e
  x : Ag n xa t.x
  y : Ag n ya t.y

set_option maxHeartbeats 16000000 in
set_option maxRecDepth 100000 in
theorem iterFields (m k n N s f nb ba oa ca bb ob cb b0 b1 b2 o0 o1 o2 : Nat) (wb : Bool) (xs ys e x y : List Nat) (X : Nat → Prop) (l : Nat) (J : Nat → Nat → World → Prop) (Jx : World → Prop) (W0 : World) (T : Blk W0 s #[.int .i64 (m : Int), .int .i64 (k : Int), .bool wb, .slice (some ⟨ba, oa, none⟩) xs.length ca, .slice (some ⟨bb, ob, none⟩) ys.length cb] 32) (Fd : Blk W0 f #[.slice (some ⟨b0, o0, none⟩) e.length e.length, .slice (some ⟨b1, o1, none⟩) x.length x.length, .slice (some ⟨b2, o2, none⟩) y.length y.length] 29) (Nb : Blk W0 nb #[.int .i64 (N : Int)] 2)
    (ra : RowV W0 (some ⟨ba, oa, none⟩) (fvals xs)) (rb : RowV W0 (some ⟨bb, ob, none⟩) (fvals ys)) (la : xs.length = n) (lb : ys.length = n) (r0 : RowV W0 (some ⟨b0, o0, none⟩) (fvals e)) (r1 : RowV W0 (some ⟨b1, o1, none⟩) (fvals x)) (r2 : RowV W0 (some ⟨b2, o2, none⟩) (fvals y)) (l0 : e.length = n) (l1 : x.length = n) (l2 : y.length = n) (q0 : ∀ z ∈ e, z < 2 ^ 32) (q1 : ∀ z ∈ x, z < 2 ^ 32) (q2 : ∀ z ∈ y, z < 2 ^ 32)
    (h1 : 3 ≤ m) (h2 : m ≤ 16) (h3 : 3 ≤ k) (h4 : k ≤ 16) (hn : Hid (n = m * k)) (hN : N ≤ 64) (xs_ : ¬ X s) (xn : ¬ X nb) (xa_ : ¬ X ba) (xb_ : ¬ X bb) (Xl : ∀ i, X i → i < W0.heap.size)
    (J0 : Hid (∀ gb W, W0.heap.size ≤ gb → gb < W.heap.size → Below W0.heap.size W0 W → J gb 0 W)) (JA : Hid (∀ gb j W W', J gb j W → W.grownBy W' (some gb) → J gb j W'))
    (hY : Hid (∀ gb j W g0 g1 g2 c0 c1 c2 ea xa ya, j < N → J gb j W → W0.heap.size ≤ gb → gb < W.heap.size → Handed W0.heap.size n gb (runT wb m k (nums xs) (nums ys) ⟨nums e, nums x, nums y⟩ (j + 1)) W g0 g1 g2 ea xa ya → YieldAt Fence.wide 0 Try.prog l #[.agg #[.slice (some ⟨g0, 0, none⟩) n c0, .slice (some ⟨g1, 0, none⟩) n c1, .slice (some ⟨g2, 0, none⟩) n c2]] W fun e W' => (e = .returned (.bool true) ∧ J gb (j + 1) W' ∧ Keep X W W') ∨ (e = .returned (.bool false) ∧ Jx W'))) :
    Calls Try.prog 89 #[.func (.yield l) #[] #[], .pointer (some ⟨s, 0, none⟩), .pointer (some ⟨f, 0, none⟩), .pointer (some ⟨nb, 0, none⟩)] W0 fun e W' => (∃ v, e = .returned v) ∧ ((∃ gb, J gb N W') ∨ Jx W') := by
  have LA := Lib.hid la; have LB := Lib.hid lb; have L0 := Lib.hid l0; have L1 := Lib.hid l1; have L2 := Lib.hid l2; clear la lb l0 l1 l2
  have hNi : (N : Int) ≤ 64 := by omega
  have slt := T.lt; have nlt := Nb.lt
  obtain ⟨Tc, Tf⟩ := T.open
  go_enter Try.func89, Try.ntmps89
  go_wp2_with fail
  refine (implShapeOf _ _ _ _ _ _ _ _ _ _).mono ?_
  rintro r u1 ⟨rfl, q⟩
  clear Tc Tf
  replace T := T.later q; replace Fd := Fd.later q; replace Nb := Nb.later q; have HB := Lib.hid q; clear q
  have Z := Blk.new u1 #[.int .i64 (m : Int), .int .i64 (k : Int), .bool wb] 59
  have q := below_new u1 (.cells #[.int .i64 (m : Int), .int .i64 (k : Int), .bool wb] 59)
  have szu := HB.out.size
  replace T := T.later q; replace Fd := Fd.later q; replace Nb := Nb.later q; replace HB := Lib.hid (HB.out.trans (q.mono HB.out.size)); clear q
  obtain ⟨zb, hzb⟩ : ∃ zb, zb = u1.heap.size := ⟨_, rfl⟩
  have Z2 : Blk (u1.alloc (.cells #[.int .i64 (m : Int), .int .i64 (k : Int), .bool wb] 59)) zb #[.int .i64 (m : Int), .int .i64 (k : Int), .bool wb] 59 := by rw [hzb]; exact Z
  clear Z; have Z := Z2; clear Z2
  have zl : W0.heap.size ≤ zb := by omega
  go_upto_region 1 with (fail)
  generalize (u1.alloc (.cells #[.int .i64 (m : Int), .int .i64 (k : Int), .bool wb] 59)) = u2 at *
  rw [← hzb]; clear hzb szu
  obtain ⟨Zc, Zf⟩ := Z.open; obtain ⟨Fc, Ff⟩ := Fd.open
  go_wp2_with fail
  refine (implGridOf m k wb _ _ _ e x y _ (r0.later HB.out) (r1.later HB.out) (r2.later HB.out) (L0.out.trans hn.out) (L1.out.trans hn.out) (L2.out.trans hn.out) h1 h2 h3 h4).mono ?_
  rintro r u3 ⟨cs, rfl, gf, q⟩
  clear Zc Zf Fc Ff
  replace T := T.later q; replace Fd := Fd.later q; replace Nb := Nb.later q; replace Z := Z.later q; replace HB := Lib.hid (HB.out.trans (q.mono HB.out.size)); clear q
  have GS := Lib.hid gf; clear gf
  have HS2 : Hid ((Try.prog.info? 66).map (·.size) = some cs.size) := Lib.hid (by rw [GS.out.1.1]; exact grid_size)
  have HS3 : Hid (zgrid.size = cs.size) := Lib.hid (by rw [GS.out.1.1]; exact Array.size_replicate)
  have NB := Blk.new u3 zgrid 66
  have lz := Z.lt; have szu := HB.out.size
  go_upto_region 2 with (first
    | (refine wpList_alloc_big rfl _ rfl zgrid grid_zero ?_; (try simp only [World.size_alloc]))
    | (refine wpList_store_row rfl _ _ _ rfl u3.heap.size cs rfl rfl 66 zgrid NB HS2.out HS3.out GS.out.1.2 ?_)
    | fail)
  have q : Below u3.heap.size u3 ((u3.alloc (.cells zgrid 66)).setRow u3.heap.size cs) := below_setRow (below_new _ _) (Nat.le_refl _) _
  have G := NB.row cs; clear NB
  replace T := T.later q; replace Fd := Fd.later q; replace Nb := Nb.later q; replace Z := Z.later q; replace HB := Lib.hid (HB.out.trans (q.mono HB.out.size)); clear q
  obtain ⟨gb, hgb⟩ : ∃ gb, gb = u3.heap.size := ⟨_, rfl⟩
  have G2 : Blk ((u3.alloc (.cells zgrid 66)).setRow u3.heap.size cs) gb cs 66 := by rw [hgb]; exact G
  clear G; have G := G2; clear G2
  have gz : zb ≠ gb := by omega
  have gl : W0.heap.size ≤ gb := by omega
  have gs : s ≠ gb := by omega
  have gn : nb ≠ gb := by omega
  have glt := G.lt
  generalize ((u3.alloc (.cells zgrid 66)).setRow u3.heap.size cs) = u4 at *
  rw [← hgb]; clear hgb
  have sba := Lib.hid (show ba < W0.heap.size from by
    obtain ⟨b', o', e', hc⟩ := ra 0 _ (fvals_get (show 0 < xs.length by rw [LA.out, hn.out]; exact Nat.mul_pos (by omega) (by omega)))
    cases e'; exact lt_of_cell hc)
  have sbb := Lib.hid (show bb < W0.heap.size from by
    obtain ⟨b', o', e', hc⟩ := rb 0 _ (fvals_get (show 0 < ys.length by rw [LB.out, hn.out]; exact Nat.mul_pos (by omega) (by omega)))
    cases e'; exact lt_of_cell hc)
  have ga : ba ≠ gb := by have := sba.out; omega
  have gbb : bb ≠ gb := by have := sbb.out; omega
  have xz : ¬ X zb := fun h => by have := Xl _ h; omega
  have xg : ¬ X gb := fun h => by have := Xl _ h; omega
  clear Fd
  have A0 : Hid (Ag n (fun i => e.getD i 0) (runT wb m k (nums xs) (nums ys) ⟨nums e, nums x, nums y⟩ 0).e) := Lib.hid (ag_list (lag_self L0.out q0)); have A1 : Hid (Ag n (fun i => x.getD i 0) (runT wb m k (nums xs) (nums ys) ⟨nums e, nums x, nums y⟩ 0).x) := Lib.hid (ag_list (lag_self L1.out q1)); have A2 : Hid (Ag n (fun i => y.getD i 0) (runT wb m k (nums xs) (nums ys) ⟨nums e, nums x, nums y⟩ 0).y) := Lib.hid (ag_list (lag_self L2.out q2))
  have j0 := J0.out gb u4 gl glt HB.out
  have HJ0 := Lib.hid j0; clear j0
  have R1 := ra.later HB.out; have R2 := rb.later HB.out
  have szw := HB.out.size
  obtain ⟨Nc, Nf⟩ := Nb.open
  go_wp2
  clear Nc Nf
  go_loopw [13] (fun iv wr => ∃ (j : Nat) (cc : Array Value) (ea xa ya : Nat → Nat), j ≤ N ∧ iv = .int .i64 j ∧ GF cc m k ea xa ya ∧ Ag n ea (runT wb m k (nums xs) (nums ys) ⟨nums e, nums x, nums y⟩ j).e ∧ Ag n xa (runT wb m k (nums xs) (nums ys) ⟨nums e, nums x, nums y⟩ j).x ∧ Ag n ya (runT wb m k (nums xs) (nums ys) ⟨nums e, nums x, nums y⟩ j).y ∧ Blk wr gb cc 66 ∧ Blk wr s #[.int .i64 (m : Int), .int .i64 (k : Int), .bool wb, .slice (some ⟨ba, oa, none⟩) xs.length ca, .slice (some ⟨bb, ob, none⟩) ys.length cb] 32 ∧ Blk wr zb #[.int .i64 (m : Int), .int .i64 (k : Int), .bool wb] 59 ∧ RowV wr (some ⟨ba, oa, none⟩) (fvals xs) ∧ RowV wr (some ⟨bb, ob, none⟩) (fvals ys) ∧ W0.heap.size ≤ wr.heap.size ∧ J gb j wr) (fun iv _ => N - (intOf iv).toNat)
  case atStart => exact ⟨0, cs, _, _, _, Nat.zero_le _, rfl, GS.out, A0.out, A1.out, A2.out, G, T, Z, R1, R2, szw, HJ0.out⟩
  clear GS A0 A1 A2 G T Z R1 R2 HB HS2 HS3 HJ0 szw szu lz glt
  obtain ⟨j, cc, ea, xa, ya, hj, rfl, gs_, a0, a1, a2, G, T, Z, R1, R2, szw, hJ⟩ := hrel
  have GS := Lib.hid gs_; have A0 := Lib.hid a0; have A1 := Lib.hid a1; have A2 := Lib.hid a2; have HJ := Lib.hid hJ; clear gs_ a0 a1 a2 hJ
  have HS2 : Hid ((Try.prog.info? 66).map (·.size) = some cc.size) := Lib.hid (by rw [GS.out.1.1]; exact grid_size)
  by_cases hlt : j < N
  · skip
    have hji : (j : Int) < (N : Int) := by omega
    obtain ⟨Tc, Tf⟩ := T.open
    go_wp2_with (first | (refine wpList_load_row rfl _ _ rfl _ rfl 66 cc (0, 0) _ G Try.underlying66 rfl HS2.out ?_) | fail)
    refine (implStepped m k n wb _ _ ca cb xs ys cc ea xa ya _ _ _ wr R1 R2 LA.out LB.out GS.out A0.out A1.out A2.out h1 h2 h3 h4 hn).mono ?_
    rintro r v1 ⟨c2, e2, x2, y2, rfl, g2, p0, p1, p2, q⟩
    clear Tc Tf
    have glt := G.lt
    replace G := G.later q; replace T := T.later q; replace Z := Z.later q; replace R1 := R1.later q; replace R2 := R2.later q
    replace HJ := Lib.hid (JA.out gb j _ _ HJ.out (grown_next ⟨rfl, rfl, rfl, Nat.le_refl _, fun _ _ _ => rfl⟩ q))
    have sz1 := q.size; clear q
    have HSA : Hid ((Try.prog.info? 66).map (·.size) = some c2.size) := Lib.hid (by rw [g2.1.1]; exact grid_size)
    have HSB : Hid (cc.size = c2.size) := Lib.hid (by rw [GS.out.1.1, g2.1.1])
    replace GS := Lib.hid g2; replace A0 := Lib.hid p0; replace A1 := Lib.hid p1; replace A2 := Lib.hid p2; clear g2 p0 p1 p2
    go_upto_region 5 with (first | (refine wpList_store_row rfl _ _ _ rfl _ c2 rfl rfl 66 cc G HSA.out HSB.out GS.out.1.2 ?_) | fail)
    replace G := G.row c2; replace T := T.rowOther gs c2; replace Z := Z.rowOther gz c2
    have gw : v1.grownBy (v1.setRow gb c2) (some gb) := ⟨rfl, rfl, rfl, by simp, fun i hi hr => setRow_other v1 gb i c2 (fun h => hr (by rw [h]))⟩
    replace R1 := R1.grown gw (fun x hx _ h => ga (by cases hx; exact Option.some.inj h)); replace R2 := R2.grown gw (fun x hx _ h => gbb (by cases hx; exact Option.some.inj h))
    replace HJ := Lib.hid (JA.out gb j _ _ HJ.out gw)
    have sz2 : v1.heap.size = (v1.setRow gb c2).heap.size := by simp
    have glt2 := G.lt
    clear gw HS2
    generalize (v1.setRow gb c2) = v2 at *
    refine (wpIn_wide (n := 1)).1 (wpIn_region_lit (wide_head_n 4 ?hq ?_))
    case hq => rintro ⟨a9, w9, h9⟩; obtain ⟨⟨v9, h9⟩, _⟩ := h9; cases h9
    simp only [List.take_succ_cons, List.take_zero, List.drop_succ_cons, List.drop_zero]
    obtain ⟨Zc, Zf⟩ := Z.open
    go_wp2_with (first | (refine wpList_load_row rfl _ _ rfl _ rfl 66 c2 (0, 0) _ G Try.underlying66 rfl HSA.out ?_) | fail)
    refine (implFieldOf m k n wb c2 _ _ _ v2 GS.out h1 h2 h3 h4 hn).mono ?_
    rintro r v3 ⟨g0, g1, g2, c0, c1, cc2, rfl, nf⟩
    clear Zc Zf
    have q := nf.below
    have H3 : Handed W0.heap.size n gb (runT wb m k (nums xs) (nums ys) ⟨nums e, nums x, nums y⟩ (j + 1)) v3 g0 g1 g2 e2 x2 y2 := by
      have t0 := nf.o0.bound g0 rfl; have t1 := nf.o1.bound g1 rfl; have t2 := nf.o2.bound g2 rfl
      exact ⟨nf.o0.lower (by omega), nf.o1.lower (by omega), nf.o2.lower (by omega), by omega, by omega, by omega, A0.out, A1.out, A2.out⟩
    clear nf
    replace G := G.later q; replace T := T.later q; replace Z := Z.later q; replace R1 := R1.later q; replace R2 := R2.later q
    replace HJ := Lib.hid (JA.out gb j _ _ HJ.out (grown_next ⟨rfl, rfl, rfl, Nat.le_refl _, fun _ _ _ => rfl⟩ q))
    have sz3 := q.size; clear q
    have glt3 := G.lt
    obtain ⟨fn9, tmps9, assign9, body9, hy9, hR9⟩ := hY.out gb j v3 g0 g1 g2 c0 c1 cc2 e2 x2 y2 hlt HJ.out gl glt3 H3
    go_wp2
    change wpListIn _ _ _ _ _ _ _ _
    gi_wp2
    refine hR9.mono ?_
    rintro e9 v4 (⟨rfl, hJ9, hk⟩ | ⟨rfl, hx9⟩)
    · have HJ9 := Lib.hid hJ9; clear hJ9
      replace G := hk.blk G xg; replace T := hk.blk T xs_; replace Z := hk.blk Z xz
      replace R1 := hk.row R1 (fun x hx => by cases hx; exact xa_); replace R2 := hk.row R2 (fun x hx => by cases hx; exact xb_)
      have sz4 := hk.size; clear hk hy9 hR9 HJ
      gi_wp2
      go_wp2
      go_roundw
      case rel => exact ⟨j + 1, c2, e2, x2, y2, by omega, by go_num, GS.out, A0.out, A1.out, A2.out, G, T, Z, R1, R2, by omega, HJ9.out⟩
      case measure => simp [intOf]; omega
    · have HX9 := Lib.hid hx9; clear hx9 hy9 hR9
      gi_wp2
      go_wp2
      refine bodyPost_ret (results_none rfl _ _ _) rfl ?_
      exact ⟨⟨_, rfl⟩, .inr HX9.out⟩
  · skip
    obtain rfl : j = N := by omega
    go_wp2
    go_end0
    exact ⟨⟨_, rfl⟩, .inl ⟨gb, HJ.out⟩⟩

end Go.Proofs.Ytedfbaeajofmnab
