/- What happens in a cell over steps: the program's answers. Conditions: those of each theorem. -/
import Derived.Test.YtedfbaeajofmnabTraceC
import Derived.Test.YtedfbaeajofmnabTraceM
namespace Go.Proofs.Ytedfbaeajofmnab
open Go Ieee Go.RowKit Go.Shelf
set_option linter.unusedVariables false

set_option maxHeartbeats 16000000 in
set_option maxRecDepth 100000 in
theorem implTraceOfL (wd hi : Int) (wb : Bool) (a b : Option Addr) (ca cb : Nat) (xs ys : List Nat) (a0 a1 a2 : Option Addr) (c0 c1 c2 : Nat) (e x y : List Nat) (u v steps : Int) (w : World) (ha : RowV w a (fvals xs)) (hb : RowV w b (fvals ys)) (qa : ∀ z ∈ xs, z < 2 ^ 32) (qb : ∀ z ∈ ys, z < 2 ^ 32) (hx : xs.length ≤ maxLen) (hy : ys.length ≤ maxLen) (h0 : RowV w a0 (fvals e)) (h1 : RowV w a1 (fvals x)) (h2 : RowV w a2 (fvals y)) (q0 : ∀ z ∈ e, z < 2 ^ 32) (q1 : ∀ z ∈ x, z < 2 ^ 32) (q2 : ∀ z ∈ y, z < 2 ^ 32) (m0 : e.length ≤ maxLen) (m1 : x.length ≤ maxLen) (m2 : y.length ≤ maxLen) (wu : (Lit.int .i64 u).wf = true) (wv : (Lit.int .i64 v).wf = true) (ws : (Lit.int .i64 steps).wf = true) (hc0 : c0 = e.length := by rfl) (hc1 : c1 = x.length := by rfl) (hc2 : c2 = y.length := by rfl) :
    Calls Try.prog 26 #[.agg #[.int .i64 wd, .int .i64 hi, .bool wb, .slice a xs.length ca, .slice b ys.length cb], .agg #[.slice a0 e.length c0, .slice a1 x.length c1, .slice a2 y.length c2], .int .i64 u, .int .i64 v, .int .i64 steps] w (GaveLO w (trB wd hi wb xs ys e x y u v steps) (trM wd hi wb xs ys e x y u v steps)) := by
  subst hc0; subst hc1; subst hc2
  have HTB : Hid (trB wd hi wb xs ys e x y u v steps = (runB wd hi wb xs ys e x y steps && cellB wd hi u v)) := Lib.hid rfl
  rcases hcv : cellB wd hi u v with _ | _
  · skip
    rw [HTB.out, hcv, Bool.and_false]
    have H_c := Lib.hid hcv; clear hcv
    have X := Blk.new w #[.int .i64 wd, .int .i64 hi, .bool wb, .slice a xs.length ca, .slice b ys.length cb] 32
    have Y := Blk.new1 w (.cells #[.int .i64 wd, .int .i64 hi, .bool wb, .slice a xs.length ca, .slice b ys.length cb] 32) #[.slice a0 e.length e.length, .slice a1 x.length x.length, .slice a2 y.length y.length] 29
    replace X := X.alloc (.cells #[.slice a0 e.length e.length, .slice a1 x.length x.length, .slice a2 y.length y.length] 29)
    have HB : Hid (Below w.heap.size w ((w.alloc (.cells #[.int .i64 wd, .int .i64 hi, .bool wb, .slice a xs.length ca, .slice b ys.length cb] 32)).alloc (.cells #[.slice a0 e.length e.length, .slice a1 x.length x.length, .slice a2 y.length y.length] 29))) := Lib.hid (((Below.refl w.heap.size w).alloc (by simp <;> omega) _).alloc (by simp <;> omega) _)
    go_enter Try.func26, Try.ntmps26
    go_wp2_with fail
    generalize ((w.alloc (.cells #[.int .i64 wd, .int .i64 hi, .bool wb, .slice a xs.length ca, .slice b ys.length cb] 32)).alloc (.cells #[.slice a0 e.length e.length, .slice a1 x.length x.length, .slice a2 y.length y.length] 29)) = u1 at *
    obtain ⟨Xc, Xf⟩ := X.open
    go_wp2_with fail
    refine (implShapeOf _ _ _ _ _ _ _ _ _ _).mono ?_
    rintro r u2 ⟨rfl, q⟩
    clear Xc Xf
    replace X := X.later q
    replace Y := Y.later q
    replace HB := Lib.hid (HB.out.trans (q.mono HB.out.size))
    clear q
    have Z := Blk.new u2 #[.int .i64 wd, .int .i64 hi, .bool wb] 59
    have q := below_new u2 (.cells #[.int .i64 wd, .int .i64 hi, .bool wb] 59)
    replace X := X.later q
    replace Y := Y.later q
    replace HB := Lib.hid (HB.out.trans (q.mono HB.out.size))
    clear q
    have C := Blk.new1 u2 (.cells #[.int .i64 wd, .int .i64 hi, .bool wb] 59) #[.int .i64 u, .int .i64 v] 79
    have q := below_new (u2.alloc (.cells #[.int .i64 wd, .int .i64 hi, .bool wb] 59)) (.cells #[.int .i64 u, .int .i64 v] 79)
    replace X := X.later q
    replace Y := Y.later q
    replace Z := Z.later q
    replace HB := Lib.hid (HB.out.trans (q.mono HB.out.size))
    clear q
    obtain ⟨Zc, Zf⟩ := Z.open
    obtain ⟨Cc, Cf⟩ := C.open
    go_wp2_with fail
    generalize ((u2.alloc (.cells #[.int .i64 wd, .int .i64 hi, .bool wb] 59)).alloc (.cells #[.int .i64 u, .int .i64 v] 79)) = u3 at *
    refine (implHasAny _ _ _ _ _ _).mono ?_
    rintro r u4 ⟨rfl, q⟩
    clear Zc Zf
    clear Cc Cf
    replace X := X.later q
    replace Y := Y.later q
    replace Z := Z.later q
    replace C := C.later q
    replace HB := Lib.hid (HB.out.trans (q.mono HB.out.size))
    clear q
    rw [H_c.out]
    go_wp2
    go_ret2
    exact gave_none HB.out
  have H_c := Lib.hid hcv; clear hcv
  rcases hrv : runB wd hi wb xs ys e x y steps with _ | _
  · skip
    rw [HTB.out, hrv, Bool.false_and]
    have HRN := Lib.hid hrv; clear hrv
    have X := Blk.new w #[.int .i64 wd, .int .i64 hi, .bool wb, .slice a xs.length ca, .slice b ys.length cb] 32
    have Y := Blk.new1 w (.cells #[.int .i64 wd, .int .i64 hi, .bool wb, .slice a xs.length ca, .slice b ys.length cb] 32) #[.slice a0 e.length e.length, .slice a1 x.length x.length, .slice a2 y.length y.length] 29
    replace X := X.alloc (.cells #[.slice a0 e.length e.length, .slice a1 x.length x.length, .slice a2 y.length y.length] 29)
    have HB : Hid (Below w.heap.size w ((w.alloc (.cells #[.int .i64 wd, .int .i64 hi, .bool wb, .slice a xs.length ca, .slice b ys.length cb] 32)).alloc (.cells #[.slice a0 e.length e.length, .slice a1 x.length x.length, .slice a2 y.length y.length] 29))) := Lib.hid (((Below.refl w.heap.size w).alloc (by simp <;> omega) _).alloc (by simp <;> omega) _)
    go_enter Try.func26, Try.ntmps26
    go_wp2_with fail
    generalize ((w.alloc (.cells #[.int .i64 wd, .int .i64 hi, .bool wb, .slice a xs.length ca, .slice b ys.length cb] 32)).alloc (.cells #[.slice a0 e.length e.length, .slice a1 x.length x.length, .slice a2 y.length y.length] 29)) = u1 at *
    obtain ⟨Xc, Xf⟩ := X.open
    go_wp2_with fail
    refine (implShapeOf _ _ _ _ _ _ _ _ _ _).mono ?_
    rintro r u2 ⟨rfl, q⟩
    clear Xc Xf
    replace X := X.later q
    replace Y := Y.later q
    replace HB := Lib.hid (HB.out.trans (q.mono HB.out.size))
    clear q
    have Z := Blk.new u2 #[.int .i64 wd, .int .i64 hi, .bool wb] 59
    have q := below_new u2 (.cells #[.int .i64 wd, .int .i64 hi, .bool wb] 59)
    replace X := X.later q
    replace Y := Y.later q
    replace HB := Lib.hid (HB.out.trans (q.mono HB.out.size))
    clear q
    have C := Blk.new1 u2 (.cells #[.int .i64 wd, .int .i64 hi, .bool wb] 59) #[.int .i64 u, .int .i64 v] 79
    have q := below_new (u2.alloc (.cells #[.int .i64 wd, .int .i64 hi, .bool wb] 59)) (.cells #[.int .i64 u, .int .i64 v] 79)
    replace X := X.later q
    replace Y := Y.later q
    replace Z := Z.later q
    replace HB := Lib.hid (HB.out.trans (q.mono HB.out.size))
    clear q
    obtain ⟨Zc, Zf⟩ := Z.open
    obtain ⟨Cc, Cf⟩ := C.open
    go_wp2_with fail
    generalize ((u2.alloc (.cells #[.int .i64 wd, .int .i64 hi, .bool wb] 59)).alloc (.cells #[.int .i64 u, .int .i64 v] 79)) = u3 at *
    refine (implHasAny _ _ _ _ _ _).mono ?_
    rintro r u4 ⟨rfl, q⟩
    clear Zc Zf
    clear Cc Cf
    replace X := X.later q
    replace Y := Y.later q
    replace Z := Z.later q
    replace C := C.later q
    replace HB := Lib.hid (HB.out.trans (q.mono HB.out.size))
    clear q
    rw [H_c.out]
    obtain ⟨Xc, Xf⟩ := X.open
    obtain ⟨Yc, Yf⟩ := Y.open
    go_wp2_with fail
    refine (implTraceNo _ _ _ _ _ _ _ _ _ _ _ _ 0 0 0 _ _ _ steps _ _ _ (ha.later HB.out) (hb.later HB.out) hx hy (h0.later HB.out) (h1.later HB.out) (h2.later HB.out) m0 m1 m2 HRN.out).mono ?_
    rintro r u5 ⟨rfl, q⟩
    clear Xc Xf
    clear Yc Yf
    replace X := X.later q
    replace Y := Y.later q
    replace Z := Z.later q
    replace C := C.later q
    replace HB := Lib.hid (HB.out.trans (q.mono HB.out.size))
    clear q
    go_wp2
    go_ret2
    exact gave_none HB.out
  rw [HTB.out, hrv, H_c.out, Bool.and_true]
  have hfv : fieldB wd hi wb xs ys e x y = true := by unfold runB at hrv; simp only [Bool.and_eq_true] at hrv; exact hrv.1
  have hst : isRunB steps = true := by unfold runB at hrv; simp only [Bool.and_eq_true] at hrv; exact hrv.2
  clear hrv HTB
  obtain ⟨m, k, n, rfl, rfl, hn, s1, s2, s3, s4, la, lb, l0, l1, l2, np, n256⟩ := field_nat hfv
  obtain ⟨b0, o0, rfl⟩ := row_at h0 (show 0 < e.length by omega)
  obtain ⟨b1, o1, rfl⟩ := row_at h1 (show 0 < x.length by omega)
  obtain ⟨b2, o2, rfl⟩ := row_at h2 (show 0 < y.length by omega)
  obtain ⟨ba, oa, rfl⟩ := row_at ha (show 0 < xs.length by omega)
  obtain ⟨bb, ob, rfl⟩ := row_at hb (show 0 < ys.length by omega)
  have HN := Lib.hid hn; have LA := Lib.hid la; have LB := Lib.hid lb; have L0 := Lib.hid l0; have L1 := Lib.hid l1; have L2 := Lib.hid l2; clear hn la lb l0 l1 l2
  have H_fb := Lib.hid hfv; clear hfv
  obtain ⟨st0, st1⟩ : 0 ≤ steps ∧ steps ≤ 64 := of_decide_eq_true hst; clear hst
  obtain ⟨N, rfl⟩ := Int.eq_ofNat_of_zero_le st0
  obtain ⟨j1, j2, j3, j4⟩ := cell_in H_c.out
  have hmk : (m : Int) * (k : Int) ≤ 256 := by have := HN.out; have e9 : ((m * k : Nat) : Int) = (m : Int) * (k : Int) := Int.natCast_mul m k; omega
  obtain ⟨i1, i2, i3, i4⟩ := index_in H_c.out hmk
  obtain ⟨q, hq⟩ := Int.eq_ofNat_of_zero_le i2
  have hqn : q < n := by have := HN.out; have e9 : ((m * k : Nat) : Int) = (m : Int) * (k : Int) := Int.natCast_mul m k; omega
  have HQ := Lib.hid hq; clear hq
  have hu256 : u ≤ 256 := by omega
  have X := Blk.new w #[.int .i64 (m : Int), .int .i64 (k : Int), .bool wb, .slice (some ⟨ba, oa, none⟩) xs.length ca, .slice (some ⟨bb, ob, none⟩) ys.length cb] 32
  have Y := Blk.new1 w (.cells #[.int .i64 (m : Int), .int .i64 (k : Int), .bool wb, .slice (some ⟨ba, oa, none⟩) xs.length ca, .slice (some ⟨bb, ob, none⟩) ys.length cb] 32) #[.slice (some ⟨b0, o0, none⟩) e.length e.length, .slice (some ⟨b1, o1, none⟩) x.length x.length, .slice (some ⟨b2, o2, none⟩) y.length y.length] 29
  replace X := X.alloc (.cells #[.slice (some ⟨b0, o0, none⟩) e.length e.length, .slice (some ⟨b1, o1, none⟩) x.length x.length, .slice (some ⟨b2, o2, none⟩) y.length y.length] 29)
  have HB : Hid (Below w.heap.size w ((w.alloc (.cells #[.int .i64 (m : Int), .int .i64 (k : Int), .bool wb, .slice (some ⟨ba, oa, none⟩) xs.length ca, .slice (some ⟨bb, ob, none⟩) ys.length cb] 32)).alloc (.cells #[.slice (some ⟨b0, o0, none⟩) e.length e.length, .slice (some ⟨b1, o1, none⟩) x.length x.length, .slice (some ⟨b2, o2, none⟩) y.length y.length] 29))) := Lib.hid (((Below.refl w.heap.size w).alloc (by simp <;> omega) _).alloc (by simp <;> omega) _)
  go_enter Try.func26, Try.ntmps26
  go_wp2_with fail
  generalize ((w.alloc (.cells #[.int .i64 (m : Int), .int .i64 (k : Int), .bool wb, .slice (some ⟨ba, oa, none⟩) xs.length ca, .slice (some ⟨bb, ob, none⟩) ys.length cb] 32)).alloc (.cells #[.slice (some ⟨b0, o0, none⟩) e.length e.length, .slice (some ⟨b1, o1, none⟩) x.length x.length, .slice (some ⟨b2, o2, none⟩) y.length y.length] 29)) = u1 at *
  obtain ⟨Xc, Xf⟩ := X.open
  go_wp2_with fail
  refine (implShapeOf _ _ _ _ _ _ _ _ _ _).mono ?_
  rintro r u2 ⟨rfl, q⟩
  clear Xc Xf
  replace X := X.later q
  replace Y := Y.later q
  replace HB := Lib.hid (HB.out.trans (q.mono HB.out.size))
  clear q
  have Z := Blk.new u2 #[.int .i64 (m : Int), .int .i64 (k : Int), .bool wb] 59
  have q := below_new u2 (.cells #[.int .i64 (m : Int), .int .i64 (k : Int), .bool wb] 59)
  replace X := X.later q
  replace Y := Y.later q
  replace HB := Lib.hid (HB.out.trans (q.mono HB.out.size))
  clear q
  have C := Blk.new1 u2 (.cells #[.int .i64 (m : Int), .int .i64 (k : Int), .bool wb] 59) #[.int .i64 u, .int .i64 v] 79
  have q := below_new (u2.alloc (.cells #[.int .i64 (m : Int), .int .i64 (k : Int), .bool wb] 59)) (.cells #[.int .i64 u, .int .i64 v] 79)
  replace X := X.later q
  replace Y := Y.later q
  replace Z := Z.later q
  replace HB := Lib.hid (HB.out.trans (q.mono HB.out.size))
  clear q
  obtain ⟨Zc, Zf⟩ := Z.open
  obtain ⟨Cc, Cf⟩ := C.open
  go_wp2_with fail
  generalize ((u2.alloc (.cells #[.int .i64 (m : Int), .int .i64 (k : Int), .bool wb] 59)).alloc (.cells #[.int .i64 u, .int .i64 v] 79)) = u3 at *
  refine (implHasAny _ _ _ _ _ _).mono ?_
  rintro r u4 ⟨rfl, q⟩
  clear Zc Zf
  clear Cc Cf
  replace X := X.later q
  replace Y := Y.later q
  replace Z := Z.later q
  replace C := C.later q
  replace HB := Lib.hid (HB.out.trans (q.mono HB.out.size))
  clear q
  rw [H_c.out]
  have szb := HB.out.size
  have HZ := Lib.hid Z; have HC := Lib.hid C; have zl := Z.lt; have cl_ := C.lt
  obtain ⟨Xc, Xf⟩ := X.open
  obtain ⟨Yc, Yf⟩ := Y.open
  obtain ⟨zb, hzb⟩ : ∃ zb, zb = u2.heap.size := ⟨_, rfl⟩
  obtain ⟨kb, hkb⟩ : ∃ kb, kb = u2.heap.size + 1 := ⟨_, rfl⟩
  rw [← hzb] at HZ; rw [← hkb] at HC
  have HMs : Hid (∀ j, j < N → Measures 56 n #[.pointer (some ⟨zb, 0, none⟩), .pointer (some ⟨kb, 0, none⟩)] #[.int .i64 (m : Int), .int .i64 (k : Int), .bool wb, .slice (some ⟨ba, oa, none⟩) xs.length ca, .slice (some ⟨bb, ob, none⟩) ys.length cb] u4 (runT wb m k (nums xs) (nums ys) ⟨nums e, nums x, nums y⟩ (j + 1)) ((fun j => (runT wb m k (nums xs) (nums ys) ⟨nums e, nums x, nums y⟩ (j + 1)).e q) j)) := Lib.hid (by
    intro j hj W g0 g1 g2 c0 c1 c2 ea xa ya b r0 r1 r2 a0 a1 a2
    refine (implMeasureAt m k n q zb kb g0 g1 g2 c0 c1 c2 ba oa bb ob ca cb xs.length ys.length u v wb ea W (HZ.out.later b) (HC.out.later b) r0 HQ hqn i1 i4 j1 hu256).mono ?_
    rintro r w' ⟨rfl, b⟩
    exact ⟨ea q, rfl, ⟨(a0 q hqn).2, (a0 q hqn).1⟩, b⟩)
  go_wp2_with fail
  rw [← hkb, ← hzb]
  refine (implTraceOf m k n N ba oa ca bb ob cb b0 b1 b2 o0 o1 o2 56 #[.pointer (some ⟨zb, 0, none⟩), .pointer (some ⟨kb, 0, none⟩)] wb xs ys e x y (fun j => (runT wb m k (nums xs) (nums ys) ⟨nums e, nums x, nums y⟩ (j + 1)).e q) _ _ (ha.later HB.out) (hb.later HB.out) qa qb (h0.later HB.out) (h1.later HB.out) (h2.later HB.out) q0 q1 q2 LA LB L0 L1 L2 s1 s2 s3 s4 HN n256 H_fb (by omega) Try.func56 (by kernel_rfl) (by kernel_rfl) HMs).mono ?_
  rintro r w9 ⟨g, c, zs, rfl, z1, z2, z3, z4, b9⟩
  have HBF := HB.out.trans (b9.mono HB.out.size)
  have z5 := z4.lower (show w.heap.size ≤ _ from HB.out.size)
  go_wp2
  go_ret2
  have e1 : (trM (m : Int) (k : Int) wb xs ys e x y u v (N : Int)) = (List.range N).map (fun j => (runT wb m k (nums xs) (nums ys) ⟨nums e, nums x, nums y⟩ (j + 1)).e q) := by unfold trM; rw [HQ.out]; rfl
  rw [e1]
  exact gave_list z1 z2 z3 (by omega) z5 HBF

end Go.Proofs.Ytedfbaeajofmnab
