/- The sums of all cells over steps: the model's answers. Conditions: those of each theorem. -/
import Derived.Test.YtedfbaeajofmnabTraceM
import Derived.Test.YtedfbaeajofmnabBu20
import Derived.Test.YtedfbaeajofmnabBu5
namespace Go.Proofs.Ytedfbaeajofmnab
open Go Ieee Go.RowKit
set_option linter.unusedVariables false

set_option maxHeartbeats 16000000 in
set_option maxRecDepth 100000 in
theorem specSumOfStepsL (wd hi : Int) (wb : Bool) (a b : Option Addr) (ca cb : Nat) (xs ys : List Nat) (a0 a1 a2 : Option Addr) (c0 c1 c2 : Nat) (e x y : List Nat) (steps : Int) (w : World) (ha : RowV w a (fvals xs)) (hb : RowV w b (fvals ys)) (qa : ∀ z ∈ xs, z < 2 ^ 32) (qb : ∀ z ∈ ys, z < 2 ^ 32) (hx : xs.length ≤ maxLen) (hy : ys.length ≤ maxLen) (h0 : RowV w a0 (fvals e)) (h1 : RowV w a1 (fvals x)) (h2 : RowV w a2 (fvals y)) (q0 : ∀ z ∈ e, z < 2 ^ 32) (q1 : ∀ z ∈ x, z < 2 ^ 32) (q2 : ∀ z ∈ y, z < 2 ^ 32) (m0 : e.length ≤ maxLen) (m1 : x.length ≤ maxLen) (m2 : y.length ≤ maxLen) (ws : (Lit.int .i64 steps).wf = true) :
    Calls Try.prog 32 #[.agg #[.int .i64 wd, .int .i64 hi, .bool wb, .slice a xs.length ca, .slice b ys.length cb], .agg #[.slice a0 e.length c0, .slice a1 x.length c1, .slice a2 y.length c2], .int .i64 steps] w (GaveLO w (runB wd hi wb xs ys e x y steps) (smM wd hi wb xs ys e x y steps)) := by
  have HTB : Hid (runB wd hi wb xs ys e x y steps = (fieldB wd hi wb xs ys e x y && isRunB steps)) := Lib.hid rfl
  rcases hfv : fieldB wd hi wb xs ys e x y with _ | _
  · skip
    rw [HTB.out, hfv]
    have H_fb := Lib.hid hfv; clear hfv
    have X := Blk.new w #[.int .i64 wd, .int .i64 hi, .bool wb, .slice a xs.length ca, .slice b ys.length cb] 32
    have Y := Blk.new1 w (.cells #[.int .i64 wd, .int .i64 hi, .bool wb, .slice a xs.length ca, .slice b ys.length cb] 32) #[.slice a0 e.length c0, .slice a1 x.length c1, .slice a2 y.length c2] 29
    replace X := X.alloc (.cells #[.slice a0 e.length c0, .slice a1 x.length c1, .slice a2 y.length c2] 29)
    have HB : Hid (Below w.heap.size w ((w.alloc (.cells #[.int .i64 wd, .int .i64 hi, .bool wb, .slice a xs.length ca, .slice b ys.length cb] 32)).alloc (.cells #[.slice a0 e.length c0, .slice a1 x.length c1, .slice a2 y.length c2] 29))) := Lib.hid (((Below.refl w.heap.size w).alloc (by simp <;> omega) _).alloc (by simp <;> omega) _)
    go_enter Try.func32, Try.ntmps32
    go_wp2_with fail
    generalize ((w.alloc (.cells #[.int .i64 wd, .int .i64 hi, .bool wb, .slice a xs.length ca, .slice b ys.length cb] 32)).alloc (.cells #[.slice a0 e.length c0, .slice a1 x.length c1, .slice a2 y.length c2] 29)) = u1 at *
    refine (specBoth _ _ _ _ _ _ _ _ _ _ _ _ _ _ _ _ _ _ _ _ _ X Y (ha.later HB.out) (hb.later HB.out) hx hy (h0.later HB.out) (h1.later HB.out) (h2.later HB.out) m0 m1 m2).mono ?_
    rintro r u2 ⟨rfl, nq, hw⟩
    have q : Below u1.heap.size u1 u2 := by rw [hw]; exact below_drewN (Below.refl _ _) _
    clear hw
    replace X := X.later q
    replace Y := Y.later q
    replace HB := Lib.hid (HB.out.trans (q.mono HB.out.size))
    clear q
    rw [H_fb.out]
    go_wp2
    go_ret2
    exact gave_none HB.out
  obtain ⟨m, k, n, rfl, rfl, hn, s1, s2, s3, s4, la, lb, l0, l1, l2, np, n256⟩ := field_nat hfv
  obtain ⟨b0, o0, rfl⟩ := row_at h0 (show 0 < e.length by omega)
  obtain ⟨b1, o1, rfl⟩ := row_at h1 (show 0 < x.length by omega)
  obtain ⟨b2, o2, rfl⟩ := row_at h2 (show 0 < y.length by omega)
  obtain ⟨ba, oa, rfl⟩ := row_at ha (show 0 < xs.length by omega)
  obtain ⟨bb, ob, rfl⟩ := row_at hb (show 0 < ys.length by omega)
  have HN := Lib.hid hn; have LA := Lib.hid la; have LB := Lib.hid lb; have L0 := Lib.hid l0; have L1 := Lib.hid l1; have L2 := Lib.hid l2; clear hn la lb l0 l1 l2
  have H_fb := Lib.hid hfv; clear hfv
  rcases hst : isRunB steps with _ | _
  · skip
    rw [HTB.out, hst, Bool.and_false]
    have HST : Hid (decide (0 ≤ steps ∧ steps ≤ 64) = false) := Lib.hid hst; clear hst
    have X := Blk.new w #[.int .i64 (m : Int), .int .i64 (k : Int), .bool wb, .slice (some ⟨ba, oa, none⟩) xs.length ca, .slice (some ⟨bb, ob, none⟩) ys.length cb] 32
    have Y := Blk.new1 w (.cells #[.int .i64 (m : Int), .int .i64 (k : Int), .bool wb, .slice (some ⟨ba, oa, none⟩) xs.length ca, .slice (some ⟨bb, ob, none⟩) ys.length cb] 32) #[.slice (some ⟨b0, o0, none⟩) e.length c0, .slice (some ⟨b1, o1, none⟩) x.length c1, .slice (some ⟨b2, o2, none⟩) y.length c2] 29
    replace X := X.alloc (.cells #[.slice (some ⟨b0, o0, none⟩) e.length c0, .slice (some ⟨b1, o1, none⟩) x.length c1, .slice (some ⟨b2, o2, none⟩) y.length c2] 29)
    have HB : Hid (Below w.heap.size w ((w.alloc (.cells #[.int .i64 (m : Int), .int .i64 (k : Int), .bool wb, .slice (some ⟨ba, oa, none⟩) xs.length ca, .slice (some ⟨bb, ob, none⟩) ys.length cb] 32)).alloc (.cells #[.slice (some ⟨b0, o0, none⟩) e.length c0, .slice (some ⟨b1, o1, none⟩) x.length c1, .slice (some ⟨b2, o2, none⟩) y.length c2] 29))) := Lib.hid (((Below.refl w.heap.size w).alloc (by simp <;> omega) _).alloc (by simp <;> omega) _)
    go_enter Try.func32, Try.ntmps32
    go_wp2_with fail
    generalize ((w.alloc (.cells #[.int .i64 (m : Int), .int .i64 (k : Int), .bool wb, .slice (some ⟨ba, oa, none⟩) xs.length ca, .slice (some ⟨bb, ob, none⟩) ys.length cb] 32)).alloc (.cells #[.slice (some ⟨b0, o0, none⟩) e.length c0, .slice (some ⟨b1, o1, none⟩) x.length c1, .slice (some ⟨b2, o2, none⟩) y.length c2] 29)) = u1 at *
    refine (specBoth _ _ _ _ _ _ _ _ _ _ _ _ _ _ _ _ _ _ _ _ _ X Y (ha.later HB.out) (hb.later HB.out) hx hy (h0.later HB.out) (h1.later HB.out) (h2.later HB.out) m0 m1 m2).mono ?_
    rintro r u2 ⟨rfl, nq, hw⟩
    have q : Below u1.heap.size u1 u2 := by rw [hw]; exact below_drewN (Below.refl _ _) _
    clear hw
    replace X := X.later q
    replace Y := Y.later q
    replace HB := Lib.hid (HB.out.trans (q.mono HB.out.size))
    clear q
    rw [H_fb.out]
    go_wp2_with fail
    refine (l00In_any _ _ _ _).mono ?_
    rintro r w5 ⟨rfl, rfl⟩
    rw [HST.out]
    go_wp2
    go_ret2
    exact gave_none HB.out
  rw [HTB.out, hst, H_fb.out]
  simp only [Bool.and_true]
  have HST : Hid (decide (0 ≤ steps ∧ steps ≤ 64) = true) := Lib.hid hst
  obtain ⟨st0, st1⟩ : 0 ≤ steps ∧ steps ≤ 64 := of_decide_eq_true hst; clear hst HTB
  obtain ⟨N, rfl⟩ := Int.eq_ofNat_of_zero_le st0
  have X := Blk.new w #[.int .i64 (m : Int), .int .i64 (k : Int), .bool wb, .slice (some ⟨ba, oa, none⟩) xs.length ca, .slice (some ⟨bb, ob, none⟩) ys.length cb] 32
  have Y := Blk.new1 w (.cells #[.int .i64 (m : Int), .int .i64 (k : Int), .bool wb, .slice (some ⟨ba, oa, none⟩) xs.length ca, .slice (some ⟨bb, ob, none⟩) ys.length cb] 32) #[.slice (some ⟨b0, o0, none⟩) e.length c0, .slice (some ⟨b1, o1, none⟩) x.length c1, .slice (some ⟨b2, o2, none⟩) y.length c2] 29
  replace X := X.alloc (.cells #[.slice (some ⟨b0, o0, none⟩) e.length c0, .slice (some ⟨b1, o1, none⟩) x.length c1, .slice (some ⟨b2, o2, none⟩) y.length c2] 29)
  have HB : Hid (Below w.heap.size w ((w.alloc (.cells #[.int .i64 (m : Int), .int .i64 (k : Int), .bool wb, .slice (some ⟨ba, oa, none⟩) xs.length ca, .slice (some ⟨bb, ob, none⟩) ys.length cb] 32)).alloc (.cells #[.slice (some ⟨b0, o0, none⟩) e.length c0, .slice (some ⟨b1, o1, none⟩) x.length c1, .slice (some ⟨b2, o2, none⟩) y.length c2] 29))) := Lib.hid (((Below.refl w.heap.size w).alloc (by simp <;> omega) _).alloc (by simp <;> omega) _)
  go_enter Try.func32, Try.ntmps32
  go_wp2_with fail
  generalize ((w.alloc (.cells #[.int .i64 (m : Int), .int .i64 (k : Int), .bool wb, .slice (some ⟨ba, oa, none⟩) xs.length ca, .slice (some ⟨bb, ob, none⟩) ys.length cb] 32)).alloc (.cells #[.slice (some ⟨b0, o0, none⟩) e.length c0, .slice (some ⟨b1, o1, none⟩) x.length c1, .slice (some ⟨b2, o2, none⟩) y.length c2] 29)) = u1 at *
  refine (specBoth _ _ _ _ _ _ _ _ _ _ _ _ _ _ _ _ _ _ _ _ _ X Y (ha.later HB.out) (hb.later HB.out) hx hy (h0.later HB.out) (h1.later HB.out) (h2.later HB.out) m0 m1 m2).mono ?_
  rintro r u2 ⟨rfl, nq, hw⟩
  have q : Below u1.heap.size u1 u2 := by rw [hw]; exact below_drewN (Below.refl _ _) _
  clear hw
  replace X := X.later q
  replace Y := Y.later q
  replace HB := Lib.hid (HB.out.trans (q.mono HB.out.size))
  clear q
  rw [H_fb.out]
  go_wp2_with fail
  refine (l00In_any _ _ _ _).mono ?_
  rintro r w5 ⟨rfl, rfl⟩
  rw [HST.out]
  have hmk := make_f32s e.length (by have := L0.out; omega)
  have bxx := X.lt
  have HSU := Lib.hid (show w.heap.size ≤ u2.heap.size from HB.out.size)
  obtain ⟨Yc, Yf⟩ := Y.open
  go_wp2_with fail
  clear Yc Yf
  clear hmk
  have ZB0 := Blk.new u2 (Array.replicate e.length (Value.float .f32 0)) 48
  have q9 := below_new u2 (.cells (Array.replicate e.length (Value.float .f32 0)) 48)
  replace X := X.later q9
  replace Y := Y.later q9
  replace HB := Lib.hid (HB.out.trans (q9.mono HB.out.size))
  clear q9
  have hel := L0.out
  refine (specOwn _ b0 b1 b2 o0 o1 o2 c0 c1 c2 n e x y _ Y (h0.later HB.out) (h1.later HB.out) (h2.later HB.out) L0.out L1.out L2.out np n256).mono ?_
  rintro r w2 ⟨g0, g1, g2, k0, k1, k2, rfl, y0, y1, y2, lt01, lt12, b⟩
  have szw1 : u2.heap.size + 1 = ((u2.alloc (.cells (Array.replicate e.length (Value.float .f32 0)) 48))).heap.size := by simp
  have hu0 := HSU.out
  obtain ⟨zg, hzg⟩ : ∃ zg, zg = u2.heap.size := ⟨_, rfl⟩
  rw [← hzg] at ZB0
  replace X := X.later b; replace ZB0 := ZB0.later b; clear Y
  replace HB := Lib.hid (HB.out.trans (b.mono HB.out.size))
  replace y0 := y0.lower (show zg + 1 ≤ ((u2.alloc (.cells (Array.replicate e.length (Value.float .f32 0)) 48))).heap.size by omega); replace y1 := y1.lower (show zg + 1 ≤ ((u2.alloc (.cells (Array.replicate e.length (Value.float .f32 0)) 48))).heap.size by omega); replace y2 := y2.lower (show zg + 1 ≤ ((u2.alloc (.cells (Array.replicate e.length (Value.float .f32 0)) 48))).heap.size by omega)
  have szb := b.size; clear b
  have lt0 := (y0.span _ rfl).2; have lt1 := (y1.span _ rfl).2; have lt2 := (y2.span _ rfl).2
  dsimp only at lt0 lt1 lt2
  have O := Blk.new w2 #[.slice (some ⟨g0, 0, none⟩) n k0, .slice (some ⟨g1, 0, none⟩) n k1, .slice (some ⟨g2, 0, none⟩) n k2] 29
  have b := below_new w2 (.cells #[.slice (some ⟨g0, 0, none⟩) n k0, .slice (some ⟨g1, 0, none⟩) n k1, .slice (some ⟨g2, 0, none⟩) n k2] 29)
  replace X := X.later b; replace ZB0 := ZB0.later b; replace y0 := y0.later b; replace y1 := y1.later b; replace y2 := y2.later b
  replace HB := Lib.hid (HB.out.trans (b.mono HB.out.size)); clear b
  obtain ⟨oo, hob⟩ : ∃ oo, oo = w2.heap.size := ⟨_, rfl⟩
  have n0 : g0 ≠ oo := by omega
  have n1 : g1 ≠ oo := by omega
  have n2 : g2 ≠ oo := by omega
  have hol : w.heap.size ≤ oo := by omega
  have hou : zg < oo := by omega
  have hwz : w.heap.size < zg := by omega
  have O2 : Blk (w2.alloc (.cells #[.slice (some ⟨g0, 0, none⟩) n k0, .slice (some ⟨g1, 0, none⟩) n k1, .slice (some ⟨g2, 0, none⟩) n k2] 29)) oo #[.slice (some ⟨g0, 0, none⟩) n k0, .slice (some ⟨g1, 0, none⟩) n k1, .slice (some ⟨g2, 0, none⟩) n k2] 29 := by rw [hob]; exact O
  clear O; have O := O2; clear O2
  go_upto_region 5 with (fail)
  generalize (w2.alloc (.cells #[.slice (some ⟨g0, 0, none⟩) n k0, .slice (some ⟨g1, 0, none⟩) n k1, .slice (some ⟨g2, 0, none⟩) n k2] 29)) = u3 at *
  rw [← hob]
  (try simp only [← hzg])
  clear hob hzg lt0 lt1 lt2 lt01 lt12 szb szw1
  have NF := Lib.hid (And.intro n0 (And.intro n1 n2)); clear n0 n1 n2
  have HT0 : Hid (TAg n e x y (runT wb m k (nums xs) (nums ys) ⟨nums e, nums x, nums y⟩ 0)) := Lib.hid ⟨lag_self L0.out q0, lag_self L1.out q1, lag_self L2.out q2⟩
  have FR0 : Hid (FR (Array.replicate e.length (Value.float .f32 0)) n (fun _ => 0)) := Lib.hid (fun i hi => by rw [Array.getElem?_replicate, if_pos (by omega)])
  have AG0 : Hid (Ag n (fun _ => 0) (sumT (fun j => runT wb m k (nums xs) (nums ys) ⟨nums e, nums x, nums y⟩ j) 0)) := Lib.hid (fun q hq => ⟨rfl, show (0 : Nat) < 2 ^ 32 by decide⟩)
  go_loopw [2] (fun sv wr => ∃ (r g0 g1 g2 k0 k1 k2 : Nat) (e' x' y' : List Nat) (A0 : Array Value) (sa : Nat → Nat), r ≤ N ∧ sv = .int .i64 r ∧ TAg n e' x' y' (runT wb m k (nums xs) (nums ys) ⟨nums e, nums x, nums y⟩ (N - r)) ∧ OwnV wr (zg + 1) (some ⟨g0, 0, none⟩) (fvals e') ∧ OwnV wr (zg + 1) (some ⟨g1, 0, none⟩) (fvals x') ∧ OwnV wr (zg + 1) (some ⟨g2, 0, none⟩) (fvals y') ∧ (g0 ≠ oo ∧ g1 ≠ oo ∧ g2 ≠ oo) ∧ Blk wr oo #[.slice (some ⟨g0, 0, none⟩) n k0, .slice (some ⟨g1, 0, none⟩) n k1, .slice (some ⟨g2, 0, none⟩) n k2] 29 ∧ Blk wr w.heap.size #[.int .i64 (m : Int), .int .i64 (k : Int), .bool wb, .slice (some ⟨ba, oa, none⟩) xs.length ca, .slice (some ⟨bb, ob, none⟩) ys.length cb] 32 ∧ FR A0 n sa ∧ Ag n sa (sumT (fun j => runT wb m k (nums xs) (nums ys) ⟨nums e, nums x, nums y⟩ j) (N - r)) ∧ Blk wr zg A0 48 ∧ Below w.heap.size w wr) (fun sv _ => (intOf sv).toNat)
  case atStart => exact ⟨N, g0, g1, g2, k0, k1, k2, e, x, y, _, _, Nat.le_refl _, rfl, by rw [Nat.sub_self]; exact HT0.out, y0, y1, y2, NF.out, O, X, FR0.out, by rw [Nat.sub_self]; exact AG0.out, ZB0, HB.out⟩
  clear HT0 y0 y1 y2 NF O X FR0 AG0 ZB0 HB
  obtain ⟨r, p0, p1, p2, t0, t1, t2, e', x', y', A0, sa, hr, rfl, ht, y0, y1, y2, nf, O, X, fr, ag, Z, hb_⟩ := hrel
  have HT := Lib.hid ht; have NF := Lib.hid nf; have HB := Lib.hid hb_; have S0 := Lib.hid fr; have AE := Lib.hid ag; clear ht nf hb_ fr ag
  by_cases hlt : 0 < r
  · skip
    have O2 : Hid (Blk wr oo #[.slice (some ⟨p0, 0, none⟩) e'.length t0, .slice (some ⟨p1, 0, none⟩) x'.length t1, .slice (some ⟨p2, 0, none⟩) y'.length t2] 29) := Lib.hid (by rw [HT.out.e.1, HT.out.x.1, HT.out.y.1]; exact O)
    have HNR : Hid (runT wb m k (nums xs) (nums ys) ⟨nums e, nums x, nums y⟩ (N - (r - 1)) = stT wb m k (nums xs) (nums ys) (runT wb m k (nums xs) (nums ys) ⟨nums e, nums x, nums y⟩ (N - r))) := Lib.hid (by rw [show N - (r - 1) = (N - r) + 1 by omega]; rfl)
    have HSR : Hid (∀ i, sumT (fun j => runT wb m k (nums xs) (nums ys) ⟨nums e, nums x, nums y⟩ j) (N - (r - 1)) i = fop .add .f32 (sumT (fun j => runT wb m k (nums xs) (nums ys) ⟨nums e, nums x, nums y⟩ j) (N - r) i) ((runT wb m k (nums xs) (nums ys) ⟨nums e, nums x, nums y⟩ (N - (r - 1))).e i)) := Lib.hid (fun i => by rw [show N - (r - 1) = (N - r) + 1 by omega]; rfl)
    have hri : (0 : Int) < (r : Int) := by omega
    have HRI : Hid ((r : Int) - 1 = ((r - 1 : Nat) : Int)) := Lib.hid (by omega)
    have olt := O.lt; have xlt := X.lt; have zlt := Z.lt
    go_wp2_with fail
    refine (specStepT w.heap.size oo m k n ba oa ca bb ob cb p0 p1 p2 0 0 0 t0 t1 t2 wb xs ys e' x' y' _ wr X O2.out (ha.later HB.out) (hb.later HB.out) LA.out LB.out y0.row y1.row y2.row HT.out s1 s2 s3 s4 HN).mono ?_
    rintro r2 v1 ⟨f0, f1, f2, d0, d1, d2, e2, x2, y2_, rfl, z0, z1, z2, ht2, b⟩
    have sz := HB.out.size
    have zb0 := z0.bound f0 rfl; have zb1 := z1.bound f1 rfl; have zb2 := z2.bound f2 rfl
    replace O := O.later b; replace X := X.later b; replace Z := Z.later b
    replace HB := Lib.hid (HB.out.trans (b.mono HB.out.size)); clear b O2
    clear y0 y1 y2
    have m0 : f0 ≠ oo := by omega
    have m1 : f1 ≠ oo := by omega
    have m2 : f2 ≠ oo := by omega
    have nx : w.heap.size ≠ oo := by omega
    have nz : zg ≠ oo := by omega
    obtain ⟨Oc, Of⟩ := O.open
    go_upto_region 8 with (fail)
    clear Oc Of
    have O3 : Blk (((v1.setCell ⟨oo, 0, none⟩ (.slice (some ⟨f0, 0, none⟩) n d0)).setCell ⟨oo, 1, none⟩ (.slice (some ⟨f1, 0, none⟩) n d1)).setCell ⟨oo, 2, none⟩ (.slice (some ⟨f2, 0, none⟩) n d2)) oo #[.slice (some ⟨f0, 0, none⟩) n d0, .slice (some ⟨f1, 0, none⟩) n d1, .slice (some ⟨f2, 0, none⟩) n d2] 29 := ((O.set 0 _).set 1 _).set 2 _
    replace X := ((X.setOther (p := ⟨oo, 0, none⟩) nx (.slice (some ⟨f0, 0, none⟩) n d0)).setOther (p := ⟨oo, 1, none⟩) nx (.slice (some ⟨f1, 0, none⟩) n d1)).setOther (p := ⟨oo, 2, none⟩) nx (.slice (some ⟨f2, 0, none⟩) n d2)
    replace Z := ((Z.setOther (p := ⟨oo, 0, none⟩) nz (.slice (some ⟨f0, 0, none⟩) n d0)).setOther (p := ⟨oo, 1, none⟩) nz (.slice (some ⟨f1, 0, none⟩) n d1)).setOther (p := ⟨oo, 2, none⟩) nz (.slice (some ⟨f2, 0, none⟩) n d2)
    replace z0 := (((z0.lower (show zg + 1 ≤ wr.heap.size by omega)).set (p := ⟨oo, 0, none⟩) (ne_block (h := oo) m0) (.slice (some ⟨f0, 0, none⟩) n d0)).set (p := ⟨oo, 1, none⟩) (ne_block (h := oo) m0) (.slice (some ⟨f1, 0, none⟩) n d1)).set (p := ⟨oo, 2, none⟩) (ne_block (h := oo) m0) (.slice (some ⟨f2, 0, none⟩) n d2)
    replace z1 := (((z1.lower (show zg + 1 ≤ wr.heap.size by omega)).set (p := ⟨oo, 0, none⟩) (ne_block (h := oo) m1) (.slice (some ⟨f0, 0, none⟩) n d0)).set (p := ⟨oo, 1, none⟩) (ne_block (h := oo) m1) (.slice (some ⟨f1, 0, none⟩) n d1)).set (p := ⟨oo, 2, none⟩) (ne_block (h := oo) m1) (.slice (some ⟨f2, 0, none⟩) n d2)
    replace z2 := (((z2.lower (show zg + 1 ≤ wr.heap.size by omega)).set (p := ⟨oo, 0, none⟩) (ne_block (h := oo) m2) (.slice (some ⟨f0, 0, none⟩) n d0)).set (p := ⟨oo, 1, none⟩) (ne_block (h := oo) m2) (.slice (some ⟨f1, 0, none⟩) n d1)).set (p := ⟨oo, 2, none⟩) (ne_block (h := oo) m2) (.slice (some ⟨f2, 0, none⟩) n d2)
    replace HB := Lib.hid (((HB.out.setCell (p := ⟨oo, 0, none⟩) hol (.slice (some ⟨f0, 0, none⟩) n d0)).setCell (p := ⟨oo, 1, none⟩) hol (.slice (some ⟨f1, 0, none⟩) n d1)).setCell (p := ⟨oo, 2, none⟩) hol (.slice (some ⟨f2, 0, none⟩) n d2))
    clear O
    generalize (((v1.setCell ⟨oo, 0, none⟩ (.slice (some ⟨f0, 0, none⟩) n d0)).setCell ⟨oo, 1, none⟩ (.slice (some ⟨f1, 0, none⟩) n d1)).setCell ⟨oo, 2, none⟩ (.slice (some ⟨f2, 0, none⟩) n d2)) = v2 at *
    have HT2 := Lib.hid ht2; clear ht2
    replace AE := Lib.hid (ag_zero (A := sumT (fun j => runT wb m k (nums xs) (nums ys) ⟨nums e, nums x, nums y⟩ j) (N - (r - 1))) AE.out)
    have fz0 : zg ≠ f0 := by omega
    have fz1 : zg ≠ f1 := by omega
    have fz2 : zg ≠ f2 := by omega
    go_wp2
    go_loopw [30] (fun iv wr => ∃ (i : Nat) (A1 : Array Value) (sb : Nat → Nat), i ≤ n ∧ iv = .int .i64 i ∧ FR A1 n sb ∧ Ag n sb (mix i (sumT (fun j => runT wb m k (nums xs) (nums ys) ⟨nums e, nums x, nums y⟩ j) (N - (r - 1))) (sumT (fun j => runT wb m k (nums xs) (nums ys) ⟨nums e, nums x, nums y⟩ j) (N - r))) ∧ Blk wr zg A1 48 ∧ OwnV wr (zg + 1) (some ⟨f0, 0, none⟩) (fvals e2) ∧ OwnV wr (zg + 1) (some ⟨f1, 0, none⟩) (fvals x2) ∧ OwnV wr (zg + 1) (some ⟨f2, 0, none⟩) (fvals y2_) ∧ Blk wr oo #[.slice (some ⟨f0, 0, none⟩) n d0, .slice (some ⟨f1, 0, none⟩) n d1, .slice (some ⟨f2, 0, none⟩) n d2] 29 ∧ Blk wr w.heap.size #[.int .i64 (m : Int), .int .i64 (k : Int), .bool wb, .slice (some ⟨ba, oa, none⟩) xs.length ca, .slice (some ⟨bb, ob, none⟩) ys.length cb] 32 ∧ Below w.heap.size w wr) (fun iv _ => n - (intOf iv).toNat)
    case atStart => exact ⟨0, A0, sa, Nat.zero_le _, rfl, S0.out, AE.out, Z, z0, z1, z2, O3, X, HB.out⟩
    clear S0 AE Z z0 z1 z2 O3 X HB
    obtain ⟨i, A1, sb, hi_, rfl, fr, ag, Z, z0, z1, z2, O3, X, hb_⟩ := hrel
    have S0 := Lib.hid fr; have AE := Lib.hid ag; have HB := Lib.hid hb_; clear fr ag hb_
    by_cases hli : i < n
    · skip
      have jn : (i : Int) < (n : Int) := by omega
      have je : (i : Int) < (e.length : Int) := by omega
      have hie : i < e2.length := by rw [HT2.out.e.1]; exact hli
      have zc := row_num z0.row hie
      rw [Nat.zero_add] at zc
      have HEZ : Hid (canon .f32 (e2.getD i 0) = (runT wb m k (nums xs) (nums ys) ⟨nums e, nums x, nums y⟩ (N - (r - 1))).e i) := Lib.hid (by rw [HNR.out]; exact HT2.out.e.2.2 i hli)
      generalize e2.getD i 0 = ez at *
      have af32 : ∀ w, (isAgg 48).run Try.prog w = .ok false w := fun w => by kernel_rfl
      have aslc : ∀ w, (isAgg 22).run Try.prog w = .ok false w := fun w => by kernel_rfl
      obtain ⟨Oc, Of⟩ := O3.open
      have KA : wr.cell? ⟨zg, i, none⟩ = some (.float .f32 (sb i)) := (Z.open.1 i).trans (S0.out i hli)
      go_wp2_with fail
      refine wp_region_rel_tail (Grows wr) (fun _ _ _ => False) 11 (by kernel_rfl) (by kernel_rfl) (Grows.drew _) ?_
      simp only [List.take_succ_cons, List.take_zero, List.drop_succ_cons, List.drop_zero]
      (refine wpRel_plain rfl rfl ?_; intro K hK; go_big_quiet_op; (first | go_big_quiet_on | (refine ⟨_, fun _ _ => rfl, ?_⟩; go_big_quiet_on)))
      (refine wpRel_plain rfl rfl ?_; intro K hK; go_big_quiet_op; (first | go_big_quiet_on | (refine ⟨_, fun _ _ => rfl, ?_⟩; go_big_quiet_on)))
      (refine wpRel_plain rfl rfl ?_; intro K hK; go_big_quiet_op; (first | go_big_quiet_on | (refine ⟨_, fun _ _ => rfl, ?_⟩; go_big_quiet_on)))
      (refine wpRel_load rfl _ rfl (.float .f32 (sb i)) (load_cell af32 KA) ?_; simp only [Act.put, List.setIfInBounds_toArray, List.set_cons_zero, List.set_cons_succ])
      (refine wpRel_plain rfl rfl ?_; intro K hK; go_big_quiet_op; (first | go_big_quiet_on | (refine ⟨_, fun _ _ => rfl, ?_⟩; go_big_quiet_on)))
      (refine wpRel_load rfl _ rfl (.slice (some ⟨f0, 0, none⟩) n d0) (load_cell aslc (Oc 0)) ?_; simp only [Act.put, List.setIfInBounds_toArray, List.set_cons_zero, List.set_cons_succ])
      (refine wpRel_plain rfl rfl ?_; intro K hK; go_big_quiet_op; (first | go_big_quiet_on | (refine ⟨_, fun _ _ => rfl, ?_⟩; go_big_quiet_on)))
      (refine wpRel_plain rfl rfl ?_; intro K hK; go_big_quiet_op; (first | go_big_quiet_on | (refine ⟨_, fun _ _ => rfl, ?_⟩; go_big_quiet_on)))
      (refine wpRel_load rfl _ rfl (.float .f32 ez) (load_cell af32 zc) ?_; simp only [Act.put, List.setIfInBounds_toArray, List.set_cons_zero, List.set_cons_succ])
      (refine wpRel_arithC rfl rfl (fun _ n h => Grows.drewN n h) .f32 _ _ rfl rfl ?_; intro z hc_z hb_z; have H_z := Lib.hid hc_z; clear hc_z; replace hb_z : z < 2 ^ 32 := hb_z; simp only [Act.put, List.setIfInBounds_toArray, List.set_cons_zero, List.set_cons_succ])
      (refine wpRel_plain rfl rfl ?_; intro K hK; go_big_quiet_op; (first | go_big_quiet_on | (refine ⟨_, fun _ _ => rfl, ?_⟩; go_big_quiet_on)))
      refine wpRel_nil ?_
      intro V2 b
      replace b : Below wr.heap.size wr V2 := b
      clear Oc Of KA zc af32 aslc
      have sbi := ag_here AE.out hli
      have HZZ : Hid (canon .f32 z = sumT (fun j => runT wb m k (nums xs) (nums ys) ⟨nums e, nums x, nums y⟩ j) (N - (r - 1)) i) := Lib.hid (by rw [H_z.out, HSR.out i, sbi.1, HEZ.out])
      clear sbi
      replace Z := Z.later b; replace z0 := z0.later b; replace z1 := z1.later b; replace z2 := z2.later b; replace O3 := O3.later b; replace X := X.later b
      replace HB := Lib.hid (HB.out.trans (b.mono HB.out.size)); clear b
      obtain ⟨gc, gfz⟩ := Z.open
      have gc2 : V2.cell? ⟨zg, i, none⟩ = some (.float .f32 (sb i)) := (gc i).trans (S0.out i hli)
      have gf2 := gfz i
      clear gc gfz
      go_upto_region 12 with (fail)
      replace Z := Z.set i (.float .f32 z)
      replace O3 := O3.setOther (p := ⟨zg, i, none⟩) (show oo ≠ zg by omega) (.float .f32 z)
      replace X := X.setOther (p := ⟨zg, i, none⟩) (show w.heap.size ≠ zg by omega) (.float .f32 z)
      replace z0 := z0.set (p := ⟨zg, i, none⟩) (ne_block (h := zg) (by omega)) (.float .f32 z)
      replace z1 := z1.set (p := ⟨zg, i, none⟩) (ne_block (h := zg) (by omega)) (.float .f32 z)
      replace z2 := z2.set (p := ⟨zg, i, none⟩) (ne_block (h := zg) (by omega)) (.float .f32 z)
      replace HB := Lib.hid (HB.out.setCell (p := ⟨zg, i, none⟩) (show w.heap.size ≤ zg by omega) (.float .f32 z))
      replace S0 := Lib.hid (fr_set (v := z) S0.out hli)
      replace AE := Lib.hid (ag_put AE.out HZZ.out hb_z)
      clear gc2 gf2
      generalize (V2.setCell ⟨zg, i, none⟩ (.float .f32 z)) = V3 at *
      go_wp2
      go_roundw
      case rel => exact ⟨i + 1, _, _, by omega, by go_num, S0.out, AE.out, Z, z0, z1, z2, O3, X, HB.out⟩
      case measure => simp [intOf]; omega
    · skip
      obtain rfl : i = n := by omega
      have HLE := Lib.hid (show (i : Int) = (e.length : Int) by have := L0.out; omega)
      have jne : ¬ ((i : Int) < (e.length : Int)) := by have := HLE.out; omega
      replace AE := Lib.hid (ag_all AE.out)
      have NE : Hid (f0 ≠ oo ∧ f1 ≠ oo ∧ f2 ≠ oo) := Lib.hid ⟨m0, m1, m2⟩
      go_wp2
      go_roundw
      case rel => exact ⟨r - 1, f0, f1, f2, d0, d1, d2, e2, x2, y2_, _, _, by omega, by (first | rw [HRI.out] | (have := HRI.out; simp [this])), by rw [HNR.out]; exact HT2.out, z0, z1, z2, NE.out, O3, X, S0.out, AE.out, Z, HB.out⟩
      case measure => simp [intOf]; omega
  · skip
    obtain rfl : r = 0 := by omega
    have HOW := Lib.hid ((fr_own Z (show w.heap.size ≤ zg by omega) S0.out))
    have HSM : Hid (Ag n sa (sumT (fun j => runT wb m k (nums xs) (nums ys) ⟨nums e, nums x, nums y⟩ j) N)) := Lib.hid AE.out
    clear O X y0 y1 y2 HT NF Z S0 AE
    go_wp2
    go_ret2
    refine ⟨some ⟨zg, 0, none⟩, e.length, firsts sa n, by rw [firsts_length, ← L0.out]; rfl, HOW.out, ?_, HB.out⟩
    unfold smM ifO
    rw [oL_nat, ← HN.out]
    exact is_lag (lag_firsts HSM.out) n256

end Go.Proofs.Ytedfbaeajofmnab
