/- The greatest absolute values over steps: the program's answers. Conditions: those of each theorem. -/
import Derived.Test.YtedfbaeajofmnabTraceC
import Derived.Test.YtedfbaeajofmnabTraceM
import Derived.Test.YtedfbaeajofmnabValidT
import Derived.Test.YtedfbaeajofmnabPeakM
import Derived.Test.YtedfbaeajofmnabNarrA
namespace Go.Proofs.Ytedfbaeajofmnab
open Go Ieee Go.RowKit Go.Shelf
set_option linter.unusedVariables false

theorem peakV_notN (e : List Nat) (n : Nat) : isN .f32 (peakV e (pk e n)) = false := by
  unfold peakV
  rcases hp : pk e n with _ | b
  · show isN .f32 0 = false; decide
  · exact (pk_lt e n b hp).2
theorem peakS_notN (e : List Nat) (n : Nat) : isN .f32 (peakS e n) = false := by
  unfold peakS
  rcases hp : pk e n with _ | b
  · show isN .f32 0 = false; decide
  · exact rung_notN (pk_lt e n b hp).2
theorem peakV_size (e : List Nat) (n : Nat) : rung Ieee.single (peakV e (pk e n)) = peakS e n := by
  unfold peakV peakS
  rcases hp : pk e n with _ | b
  · show rung Ieee.single 0 = 0; decide
  · rfl

set_option maxHeartbeats 8000000 in
set_option maxRecDepth 100000 in
theorem implFieldPeak (wd hi : Int) (wb : Bool) (a b : Option Addr) (ca cb : Nat) (xs ys : List Nat) (a0 a1 a2 : Option Addr) (c0 c1 c2 : Nat) (e x y : List Nat) (w : World) (ha : RowV w a (fvals xs)) (hb : RowV w b (fvals ys)) (qa : ∀ z ∈ xs, z < 2 ^ 32) (qb : ∀ z ∈ ys, z < 2 ^ 32) (hx : xs.length ≤ maxLen) (hy : ys.length ≤ maxLen) (h0 : RowV w a0 (fvals e)) (h1 : RowV w a1 (fvals x)) (h2 : RowV w a2 (fvals y)) (q0 : ∀ z ∈ e, z < 2 ^ 32) (q1 : ∀ z ∈ x, z < 2 ^ 32) (q2 : ∀ z ∈ y, z < 2 ^ 32) (m0 : e.length ≤ maxLen) (m1 : x.length ≤ maxLen) (m2 : y.length ≤ maxLen) (hf : fieldB wd hi wb xs ys e x y = true) :
    Calls Try.prog 60 #[.agg #[.int .i64 wd, .int .i64 hi, .bool wb, .slice a xs.length ca, .slice b ys.length cb], .agg #[.slice a0 e.length c0, .slice a1 x.length c1, .slice a2 y.length c2]] w fun r w' => ∃ u, r = .returned (.float .f32 u) ∧ (u < 2 ^ 32 ∧ canon .f32 u = canon .f32 (peakS e e.length)) ∧ Below w.heap.size w w' := by
  have HG : Hid (peakG wd hi wb xs ys e x y = pk e e.length) := Lib.hid (by unfold peakG; rw [hf]; rfl)
  have HN1 := Lib.hid (peakV_notN e e.length); have HN2 := Lib.hid (peakV_size e e.length); have HPS := Lib.hid (peakS_notN e e.length)
  have X := Blk.new w #[.int .i64 wd, .int .i64 hi, .bool wb, .slice a xs.length ca, .slice b ys.length cb] 32
  have Y := Blk.new1 w (.cells #[.int .i64 wd, .int .i64 hi, .bool wb, .slice a xs.length ca, .slice b ys.length cb] 32) #[.slice a0 e.length c0, .slice a1 x.length c1, .slice a2 y.length c2] 29
  replace X := X.alloc (.cells #[.slice a0 e.length c0, .slice a1 x.length c1, .slice a2 y.length c2] 29)
  have HB : Hid (Below w.heap.size w ((w.alloc (.cells #[.int .i64 wd, .int .i64 hi, .bool wb, .slice a xs.length ca, .slice b ys.length cb] 32)).alloc (.cells #[.slice a0 e.length c0, .slice a1 x.length c1, .slice a2 y.length c2] 29))) := Lib.hid (((Below.refl w.heap.size w).alloc (by simp <;> omega) _).alloc (by simp <;> omega) _)
  go_enter Try.func60, Try.ntmps60
  go_wp2_with fail
  generalize ((w.alloc (.cells #[.int .i64 wd, .int .i64 hi, .bool wb, .slice a xs.length ca, .slice b ys.length cb] 32)).alloc (.cells #[.slice a0 e.length c0, .slice a1 x.length c1, .slice a2 y.length c2] 29)) = u1 at *
  obtain ⟨Xc, Xf⟩ := X.open
  obtain ⟨Yc, Yf⟩ := Y.open
  go_wp2_with fail
  refine (implPeakOfL wd hi wb a b ca cb xs ys a0 a1 a2 c0 c1 c2 e x y _ (ha.later HB.out) (hb.later HB.out) qa qb hx hy (h0.later HB.out) (h1.later HB.out) (h2.later HB.out) q0 q1 q2 m0 m1 m2).mono ?_
  rintro r w2 ⟨z, rfl, hz, hzb, q⟩
  rw [HG.out] at hz ⊢
  clear Xc Xf
  clear Yc Yf
  replace X := X.later q
  replace Y := Y.later q
  replace HB := Lib.hid (HB.out.trans (q.mono HB.out.size))
  clear q
  have hzz : z = peakV e (pk e e.length) := (bits_canon hz.symm HN1.out).symm
  have hzn : isN .f32 z = false := by rw [hzz]; exact HN1.out
  have hzs : rung Ieee.single z = peakS e e.length := by rw [hzz]; exact HN2.out
  have HZN := Lib.hid hzn; have HZS := Lib.hid hzs; clear hz hzz hzn hzs
  go_wp2_with (first | (refine wpList_conv rfl 48 85 _ rfl .f32 .f64 (by decide) _ rfl Try.underlying48 Try.underlying85 hzb (fits_widen _) ?_; intro v nv hv gv; replace gv : v < 2 ^ 64 := gv; have HV := Lib.hid hv; clear hv; have gr : rung Ieee.double v < 2 ^ 64 := Nat.lt_trans (Nat.mod_lt _ (signWeight_pos _)) (by decide)) | (refine wpList_conv rfl 85 48 _ rfl .f64 .f32 (by decide) _ rfl Try.underlying85 Try.underlying48 gr (size_fits HZN.out HV.out) ?_; intro u nu hu gu; replace gu : u < 2 ^ 32 := gu; have HU := Lib.hid hu; clear hu) | (go_at_call 88; refine (absAny _ _ gv).mono ?_; rintro e9 w9 ⟨rfl, rfl⟩))
  go_ret
  exact ⟨u, rfl, ⟨gu, by rw [HU.out, size_conv HZN.out HV.out, HZS.out, canon_of_not (HPS.out)]⟩, below_drewN HB.out _⟩

theorem peakMeasure (m k n j ba oa ca bb ob cb : Nat) (wb : Bool) (xs ys e x y : List Nat) (w : World) (ha : RowV w (some ⟨ba, oa, none⟩) (fvals xs)) (hb : RowV w (some ⟨bb, ob, none⟩) (fvals ys)) (qa : ∀ z ∈ xs, z < 2 ^ 32) (qb : ∀ z ∈ ys, z < 2 ^ 32) (HF : Hid (fieldB (m : Int) (k : Int) wb xs ys e x y = true)) (LA : xs.length = n) (LB : ys.length = n) (L0 : e.length = n) (L1 : x.length = n) (L2 : y.length = n) (HN : n = m * k) (n256 : n ≤ 256) :
    Measures 60 n #[] #[.int .i64 (m : Int), .int .i64 (k : Int), .bool wb, .slice (some ⟨ba, oa, none⟩) xs.length ca, .slice (some ⟨bb, ob, none⟩) ys.length cb] w (runT wb m k (nums xs) (nums ys) ⟨nums e, nums x, nums y⟩ (j + 1)) (peakC n (runT wb m k (nums xs) (nums ys) ⟨nums e, nums x, nums y⟩ (j + 1)).e) := by
  intro W g0 g1 g2 c0 c1 c2 ea xa ya b r0 r1 r2 a0 a1 a2
  have hm : n ≤ maxLen := by unfold maxLen; omega
  have hl0 := lag_firsts a0; have hl1 := lag_firsts a1; have hl2 := lag_firsts a2
  have hf := run_field HF.out HN L0 L1 L2 ⟨hl0, hl1, hl2⟩
  have h := implFieldPeak (m : Int) (k : Int) wb (some ⟨ba, oa, none⟩) (some ⟨bb, ob, none⟩) ca cb xs ys (some ⟨g0, 0, none⟩) (some ⟨g1, 0, none⟩) (some ⟨g2, 0, none⟩) c0 c1 c2 (firsts ea n) (firsts xa n) (firsts ya n) W (ha.later b) (hb.later b) qa qb (by omega) (by omega) r0 r1 r2 hl0.2.1 hl1.2.1 hl2.2.1 (by rw [firsts_length]; exact hm) (by rw [firsts_length]; exact hm) (by rw [firsts_length]; exact hm) hf
  rw [firsts_length, firsts_length, firsts_length] at h
  refine h.mono ?_
  rintro r W' ⟨u, rfl, ⟨hu, hc⟩, bb⟩
  exact ⟨u, rfl, ⟨hu, hc.trans (peak_lag hl0)⟩, bb⟩

set_option maxHeartbeats 16000000 in
set_option maxRecDepth 100000 in
theorem implPeakTraceL (wd hi : Int) (wb : Bool) (a b : Option Addr) (ca cb : Nat) (xs ys : List Nat) (a0 a1 a2 : Option Addr) (c0 c1 c2 : Nat) (e x y : List Nat) (steps : Int) (w : World) (ha : RowV w a (fvals xs)) (hb : RowV w b (fvals ys)) (qa : ∀ z ∈ xs, z < 2 ^ 32) (qb : ∀ z ∈ ys, z < 2 ^ 32) (hx : xs.length ≤ maxLen) (hy : ys.length ≤ maxLen) (h0 : RowV w a0 (fvals e)) (h1 : RowV w a1 (fvals x)) (h2 : RowV w a2 (fvals y)) (q0 : ∀ z ∈ e, z < 2 ^ 32) (q1 : ∀ z ∈ x, z < 2 ^ 32) (q2 : ∀ z ∈ y, z < 2 ^ 32) (m0 : e.length ≤ maxLen) (m1 : x.length ≤ maxLen) (m2 : y.length ≤ maxLen) (ws : (Lit.int .i64 steps).wf = true) (hc0 : c0 = e.length := by rfl) (hc1 : c1 = x.length := by rfl) (hc2 : c2 = y.length := by rfl) :
    Calls Try.prog 31 #[.agg #[.int .i64 wd, .int .i64 hi, .bool wb, .slice a xs.length ca, .slice b ys.length cb], .agg #[.slice a0 e.length c0, .slice a1 x.length c1, .slice a2 y.length c2], .int .i64 steps] w (GaveLO w (runB wd hi wb xs ys e x y steps) (ptM wd hi wb xs ys e x y steps)) := by
  subst hc0; subst hc1; subst hc2
  rcases hrv : runB wd hi wb xs ys e x y steps with _ | _
  · skip
    have HRN := Lib.hid hrv; clear hrv
    have X := Blk.new w #[.int .i64 wd, .int .i64 hi, .bool wb, .slice a xs.length ca, .slice b ys.length cb] 32
    have Y := Blk.new1 w (.cells #[.int .i64 wd, .int .i64 hi, .bool wb, .slice a xs.length ca, .slice b ys.length cb] 32) #[.slice a0 e.length e.length, .slice a1 x.length x.length, .slice a2 y.length y.length] 29
    replace X := X.alloc (.cells #[.slice a0 e.length e.length, .slice a1 x.length x.length, .slice a2 y.length y.length] 29)
    have HB : Hid (Below w.heap.size w ((w.alloc (.cells #[.int .i64 wd, .int .i64 hi, .bool wb, .slice a xs.length ca, .slice b ys.length cb] 32)).alloc (.cells #[.slice a0 e.length e.length, .slice a1 x.length x.length, .slice a2 y.length y.length] 29))) := Lib.hid (((Below.refl w.heap.size w).alloc (by simp <;> omega) _).alloc (by simp <;> omega) _)
    go_enter Try.func31, Try.ntmps31
    go_wp2_with fail
    generalize ((w.alloc (.cells #[.int .i64 wd, .int .i64 hi, .bool wb, .slice a xs.length ca, .slice b ys.length cb] 32)).alloc (.cells #[.slice a0 e.length e.length, .slice a1 x.length x.length, .slice a2 y.length y.length] 29)) = u1 at *
    obtain ⟨Xc, Xf⟩ := X.open
    obtain ⟨Yc, Yf⟩ := Y.open
    go_wp2_with fail
    refine (implTraceNo _ _ _ _ _ _ _ _ _ _ _ _ 0 0 0 _ _ _ steps _ _ _ (ha.later HB.out) (hb.later HB.out) hx hy (h0.later HB.out) (h1.later HB.out) (h2.later HB.out) m0 m1 m2 HRN.out).mono ?_
    rintro r u2 ⟨rfl, q⟩
    clear Xc Xf
    clear Yc Yf
    replace X := X.later q
    replace Y := Y.later q
    replace HB := Lib.hid (HB.out.trans (q.mono HB.out.size))
    clear q
    go_wp2
    go_ret2
    exact gave_none HB.out
  have hfv : fieldB wd hi wb xs ys e x y = true := by unfold runB at hrv; simp only [Bool.and_eq_true] at hrv; exact hrv.1
  have hst : isRunB steps = true := by unfold runB at hrv; simp only [Bool.and_eq_true] at hrv; exact hrv.2
  clear hrv
  obtain ⟨m, k, n, rfl, rfl, hn, s1, s2, s3, s4, la, lb, l0, l1, l2, np, n256⟩ := field_nat hfv
  obtain ⟨b0, o0, rfl⟩ := row_at h0 (show 0 < e.length by omega)
  obtain ⟨b1, o1, rfl⟩ := row_at h1 (show 0 < x.length by omega)
  obtain ⟨b2, o2, rfl⟩ := row_at h2 (show 0 < y.length by omega)
  obtain ⟨ba, oa, rfl⟩ := row_at ha (show 0 < xs.length by omega)
  obtain ⟨bb, ob, rfl⟩ := row_at hb (show 0 < ys.length by omega)
  have HN := Lib.hid hn; have LA := Lib.hid la; have LB := Lib.hid lb; have L0 := Lib.hid l0; have L1 := Lib.hid l1; have L2 := Lib.hid l2; clear hn la lb l0 l1 l2
  have H_fb := Lib.hid hfv; clear hfv
  obtain ⟨st0, st1⟩ : 0 ≤ steps ∧ steps ≤ 64 := of_decide_eq_true hst; clear hst
  obtain ⟨N, rfl⟩ := Int.eq_ofNat_of_zero_le st0
  have X := Blk.new w #[.int .i64 (m : Int), .int .i64 (k : Int), .bool wb, .slice (some ⟨ba, oa, none⟩) xs.length ca, .slice (some ⟨bb, ob, none⟩) ys.length cb] 32
  have Y := Blk.new1 w (.cells #[.int .i64 (m : Int), .int .i64 (k : Int), .bool wb, .slice (some ⟨ba, oa, none⟩) xs.length ca, .slice (some ⟨bb, ob, none⟩) ys.length cb] 32) #[.slice (some ⟨b0, o0, none⟩) e.length e.length, .slice (some ⟨b1, o1, none⟩) x.length x.length, .slice (some ⟨b2, o2, none⟩) y.length y.length] 29
  replace X := X.alloc (.cells #[.slice (some ⟨b0, o0, none⟩) e.length e.length, .slice (some ⟨b1, o1, none⟩) x.length x.length, .slice (some ⟨b2, o2, none⟩) y.length y.length] 29)
  have HB : Hid (Below w.heap.size w ((w.alloc (.cells #[.int .i64 (m : Int), .int .i64 (k : Int), .bool wb, .slice (some ⟨ba, oa, none⟩) xs.length ca, .slice (some ⟨bb, ob, none⟩) ys.length cb] 32)).alloc (.cells #[.slice (some ⟨b0, o0, none⟩) e.length e.length, .slice (some ⟨b1, o1, none⟩) x.length x.length, .slice (some ⟨b2, o2, none⟩) y.length y.length] 29))) := Lib.hid (((Below.refl w.heap.size w).alloc (by simp <;> omega) _).alloc (by simp <;> omega) _)
  go_enter Try.func31, Try.ntmps31
  go_wp2_with fail
  generalize ((w.alloc (.cells #[.int .i64 (m : Int), .int .i64 (k : Int), .bool wb, .slice (some ⟨ba, oa, none⟩) xs.length ca, .slice (some ⟨bb, ob, none⟩) ys.length cb] 32)).alloc (.cells #[.slice (some ⟨b0, o0, none⟩) e.length e.length, .slice (some ⟨b1, o1, none⟩) x.length x.length, .slice (some ⟨b2, o2, none⟩) y.length y.length] 29)) = u1 at *
  obtain ⟨Xc, Xf⟩ := X.open
  obtain ⟨Yc, Yf⟩ := Y.open
  have HMs : Hid (∀ j, j < N → Measures 60 n #[] #[.int .i64 (m : Int), .int .i64 (k : Int), .bool wb, .slice (some ⟨ba, oa, none⟩) xs.length ca, .slice (some ⟨bb, ob, none⟩) ys.length cb] u1 (runT wb m k (nums xs) (nums ys) ⟨nums e, nums x, nums y⟩ (j + 1)) ((fun j => peakC n (runT wb m k (nums xs) (nums ys) ⟨nums e, nums x, nums y⟩ (j + 1)).e) j)) := Lib.hid (fun j _ => peakMeasure m k n j ba oa ca bb ob cb wb xs ys e x y u1 (ha.later HB.out) (hb.later HB.out) qa qb H_fb LA.out LB.out L0.out L1.out L2.out HN.out n256)
  go_wp2_with fail
  refine (implTraceOf m k n N ba oa ca bb ob cb b0 b1 b2 o0 o1 o2 60 #[] wb xs ys e x y (fun j => peakC n (runT wb m k (nums xs) (nums ys) ⟨nums e, nums x, nums y⟩ (j + 1)).e) _ _ (ha.later HB.out) (hb.later HB.out) qa qb (h0.later HB.out) (h1.later HB.out) (h2.later HB.out) q0 q1 q2 LA LB L0 L1 L2 s1 s2 s3 s4 HN n256 H_fb (by omega) Try.func60 (by kernel_rfl) (by kernel_rfl) HMs).mono ?_
  rintro r w9 ⟨g, c, zs, rfl, z1, z2, z3, z4, b9⟩
  have HBF := HB.out.trans (b9.mono HB.out.size)
  have z5 := z4.lower (show w.heap.size ≤ _ from HB.out.size)
  go_wp2
  go_ret2
  have e2 : ((m : Int) * (k : Int)).toNat = n := by rw [HN.out, ← Int.natCast_mul, Int.toNat_natCast]
  have e1 : (ptM (m : Int) (k : Int) wb xs ys e x y (N : Int)) = (List.range N).map (fun j => peakC n (runT wb m k (nums xs) (nums ys) ⟨nums e, nums x, nums y⟩ (j + 1)).e) := by unfold ptM; rw [e2]; rfl
  rw [e1]
  exact gave_list z1 z2 z3 (by omega) z5 HBF

end Go.Proofs.Ytedfbaeajofmnab
