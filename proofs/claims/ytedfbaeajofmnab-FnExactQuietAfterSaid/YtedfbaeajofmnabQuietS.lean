/- After how many steps a field is quiet: the model's answers. Conditions: those of each theorem. -/
import Derived.Test.YtedfbaeajofmnabTraceS
import Derived.Test.YtedfbaeajofmnabValidT
namespace Go.Proofs.Ytedfbaeajofmnab
open Go Ieee Go.RowKit
set_option linter.unusedVariables false

def pS (n : Nat) (C : Nat → Option Nat) : Nat := peakS ((List.range n).map fun i => (C i).getD 2143289344) n
theorem pS_lag {n : Nat} {l : List Nat} {C : Nat → Option Nat} (h : LAg n l C) : peakS l n = pS n C := by
  unfold pS
  rw [peakS_same (e1 := (List.range n).map fun i => (C i).getD 2143289344)]
  intro i hi
  have e2 : ((List.range n).map fun i => (C i).getD 2143289344).getD i 0 = (C i).getD 2143289344 := by simp [hi]
  rw [h.2.2 i hi]
  unfold nums
  rw [e2]
  exact (rep_canon (h.2.2 i hi)).symm
def quB (n : Nat) (C : Nat → Option Nat) (lev : Nat) : Bool := FloatKind.f32.format.order (pS n C) lev == some .lt
def qaF (T : Nat → Trip) (n lev N : Nat) : Option Nat := (List.range (N + 1)).find? fun j => quB n (T j).e lev
theorem qa_some {T : Nat → Trip} {n lev N j : Nat} (hj : j ≤ N) (h : ∀ i, i < j → quB n (T i).e lev = false) (hq : quB n (T j).e lev = true) : qaF T n lev N = some j := by
  unfold qaF
  rw [List.find?_range_eq_some]
  exact ⟨hq, by simp; omega, fun i hi => by simp [h i hi]⟩
theorem qa_none {T : Nat → Trip} {n lev N : Nat} (h : ∀ i, i < N + 1 → quB n (T i).e lev = false) : qaF T n lev N = none := by
  unfold qaF
  rw [List.find?_eq_none]
  intro i hi
  rw [h i (List.mem_range.1 hi)]; simp
def qaV (wd hi : Int) (wb : Bool) (xs ys e x y : List Nat) (lev : Nat) (most : Int) : Option Nat := if runB wd hi wb xs ys e x y most then qaF (fun j => runT wb wd.toNat hi.toNat (nums xs) (nums ys) ⟨nums e, nums x, nums y⟩ j) (wd * hi).toNat lev most.toNat else none
def qaI (p : Option Nat) : Int := ((p.getD 0 : Nat) : Int)

set_option maxHeartbeats 16000000 in
set_option maxRecDepth 100000 in
theorem specQuietAfterL (wd hi : Int) (wb : Bool) (a b : Option Addr) (ca cb : Nat) (xs ys : List Nat) (a0 a1 a2 : Option Addr) (c0 c1 c2 : Nat) (e x y : List Nat) (lev : Nat) (steps : Int) (w : World) (ha : RowV w a (fvals xs)) (hb : RowV w b (fvals ys)) (qa : ∀ z ∈ xs, z < 2 ^ 32) (qb : ∀ z ∈ ys, z < 2 ^ 32) (hx : xs.length ≤ maxLen) (hy : ys.length ≤ maxLen) (h0 : RowV w a0 (fvals e)) (h1 : RowV w a1 (fvals x)) (h2 : RowV w a2 (fvals y)) (q0 : ∀ z ∈ e, z < 2 ^ 32) (q1 : ∀ z ∈ x, z < 2 ^ 32) (q2 : ∀ z ∈ y, z < 2 ^ 32) (m0 : e.length ≤ maxLen) (m1 : x.length ≤ maxLen) (m2 : y.length ≤ maxLen) (wl : lev < 2 ^ 32) (ws : (Lit.int .i64 steps).wf = true) :
    Calls Try.prog 34 #[.agg #[.int .i64 wd, .int .i64 hi, .bool wb, .slice a xs.length ca, .slice b ys.length cb], .agg #[.slice a0 e.length c0, .slice a1 x.length c1, .slice a2 y.length c2], .float .f32 lev, .int .i64 steps] w fun r w' => r = .returned (.tuple #[.int .i64 (qaI (qaV wd hi wb xs ys e x y lev steps)), .bool (qaV wd hi wb xs ys e x y lev steps).isSome]) ∧ Below w.heap.size w w' := by
  have HQV : Hid (qaV wd hi wb xs ys e x y lev steps = if (fieldB wd hi wb xs ys e x y && isRunB steps) then qaF (fun j => runT wb wd.toNat hi.toNat (nums xs) (nums ys) ⟨nums e, nums x, nums y⟩ j) (wd * hi).toNat lev steps.toNat else none) := Lib.hid rfl
  rcases hfv : fieldB wd hi wb xs ys e x y with _ | _
  · skip
    have HQ0 : Hid (qaV wd hi wb xs ys e x y lev steps = none) := Lib.hid (by rw [HQV.out, hfv]; rfl)
    rw [HQ0.out]
    have H_fb := Lib.hid hfv; clear hfv
    have X := Blk.new w #[.int .i64 wd, .int .i64 hi, .bool wb, .slice a xs.length ca, .slice b ys.length cb] 32
    have Y := Blk.new1 w (.cells #[.int .i64 wd, .int .i64 hi, .bool wb, .slice a xs.length ca, .slice b ys.length cb] 32) #[.slice a0 e.length c0, .slice a1 x.length c1, .slice a2 y.length c2] 29
    replace X := X.alloc (.cells #[.slice a0 e.length c0, .slice a1 x.length c1, .slice a2 y.length c2] 29)
    have HB : Hid (Below w.heap.size w ((w.alloc (.cells #[.int .i64 wd, .int .i64 hi, .bool wb, .slice a xs.length ca, .slice b ys.length cb] 32)).alloc (.cells #[.slice a0 e.length c0, .slice a1 x.length c1, .slice a2 y.length c2] 29))) := Lib.hid (((Below.refl w.heap.size w).alloc (by simp <;> omega) _).alloc (by simp <;> omega) _)
    go_enter Try.func34, Try.ntmps34
    go_wp2_with fail
    generalize ((w.alloc (.cells #[.int .i64 wd, .int .i64 hi, .bool wb, .slice a xs.length ca, .slice b ys.length cb] 32)).alloc (.cells #[.slice a0 e.length c0, .slice a1 x.length c1, .slice a2 y.length c2] 29)) = u1 at *
    refine (specBoth _ _ _ _ _ _ _ _ _ _ _ _ _ _ _ _ _ _ _ _ _ X Y (ha.later HB.out) (hb.later HB.out) hx hy (h0.later HB.out) (h1.later HB.out) (h2.later HB.out) m0 m1 m2).mono ?_
    rintro r u2 ⟨rfl, nq, hw⟩
    have q : Below u1.heap.size u1 u2 := by rw [hw]; exact below_drewN (Below.refl _ _) _
    clear hw
    replace X := X.later q
    replace Y := Y.later q
    replace HB := Lib.hid (HB.out.trans (q.mono HB.out.size))
    clear q
    rw [H_fb.out]
    go_wp2
    go_ret2
    exact ⟨rfl, HB.out⟩
  obtain ⟨m, k, n, rfl, rfl, hn, s1, s2, s3, s4, la, lb, l0, l1, l2, np, n256⟩ := field_nat hfv
  obtain ⟨b0, o0, rfl⟩ := row_at h0 (show 0 < e.length by omega)
  obtain ⟨b1, o1, rfl⟩ := row_at h1 (show 0 < x.length by omega)
  obtain ⟨b2, o2, rfl⟩ := row_at h2 (show 0 < y.length by omega)
  obtain ⟨ba, oa, rfl⟩ := row_at ha (show 0 < xs.length by omega)
  obtain ⟨bb, ob, rfl⟩ := row_at hb (show 0 < ys.length by omega)
  have HN := Lib.hid hn; have LA := Lib.hid la; have LB := Lib.hid lb; have L0 := Lib.hid l0; have L1 := Lib.hid l1; have L2 := Lib.hid l2; clear hn la lb l0 l1 l2
  have H_fb := Lib.hid hfv; clear hfv
  rcases hst : isRunB steps with _ | _
  · skip
    have HQ0 : Hid (qaV (m : Int) (k : Int) wb xs ys e x y lev steps = none) := Lib.hid (by rw [HQV.out, hst, Bool.and_false]; rfl)
    rw [HQ0.out]
    have HST : Hid (decide (0 ≤ steps ∧ steps ≤ 64) = false) := Lib.hid hst; clear hst
    have X := Blk.new w #[.int .i64 (m : Int), .int .i64 (k : Int), .bool wb, .slice (some ⟨ba, oa, none⟩) xs.length ca, .slice (some ⟨bb, ob, none⟩) ys.length cb] 32
    have Y := Blk.new1 w (.cells #[.int .i64 (m : Int), .int .i64 (k : Int), .bool wb, .slice (some ⟨ba, oa, none⟩) xs.length ca, .slice (some ⟨bb, ob, none⟩) ys.length cb] 32) #[.slice (some ⟨b0, o0, none⟩) e.length c0, .slice (some ⟨b1, o1, none⟩) x.length c1, .slice (some ⟨b2, o2, none⟩) y.length c2] 29
    replace X := X.alloc (.cells #[.slice (some ⟨b0, o0, none⟩) e.length c0, .slice (some ⟨b1, o1, none⟩) x.length c1, .slice (some ⟨b2, o2, none⟩) y.length c2] 29)
    have HB : Hid (Below w.heap.size w ((w.alloc (.cells #[.int .i64 (m : Int), .int .i64 (k : Int), .bool wb, .slice (some ⟨ba, oa, none⟩) xs.length ca, .slice (some ⟨bb, ob, none⟩) ys.length cb] 32)).alloc (.cells #[.slice (some ⟨b0, o0, none⟩) e.length c0, .slice (some ⟨b1, o1, none⟩) x.length c1, .slice (some ⟨b2, o2, none⟩) y.length c2] 29))) := Lib.hid (((Below.refl w.heap.size w).alloc (by simp <;> omega) _).alloc (by simp <;> omega) _)
    go_enter Try.func34, Try.ntmps34
    go_wp2_with fail
    generalize ((w.alloc (.cells #[.int .i64 (m : Int), .int .i64 (k : Int), .bool wb, .slice (some ⟨ba, oa, none⟩) xs.length ca, .slice (some ⟨bb, ob, none⟩) ys.length cb] 32)).alloc (.cells #[.slice (some ⟨b0, o0, none⟩) e.length c0, .slice (some ⟨b1, o1, none⟩) x.length c1, .slice (some ⟨b2, o2, none⟩) y.length c2] 29)) = u1 at *
    refine (specBoth _ _ _ _ _ _ _ _ _ _ _ _ _ _ _ _ _ _ _ _ _ X Y (ha.later HB.out) (hb.later HB.out) hx hy (h0.later HB.out) (h1.later HB.out) (h2.later HB.out) m0 m1 m2).mono ?_
    rintro r u2 ⟨rfl, nq, hw⟩
    have q : Below u1.heap.size u1 u2 := by rw [hw]; exact below_drewN (Below.refl _ _) _
    clear hw
    replace X := X.later q
    replace Y := Y.later q
    replace HB := Lib.hid (HB.out.trans (q.mono HB.out.size))
    clear q
    rw [H_fb.out]
    go_wp2_with fail
    refine (l00In_any _ _ _ _).mono ?_
    rintro r w5 ⟨rfl, rfl⟩
    rw [HST.out]
    go_wp2
    go_ret2
    exact ⟨rfl, HB.out⟩
  have HST : Hid (decide (0 ≤ steps ∧ steps ≤ 64) = true) := Lib.hid hst
  obtain ⟨st0, st1⟩ : 0 ≤ steps ∧ steps ≤ 64 := of_decide_eq_true hst
  obtain ⟨N, rfl⟩ := Int.eq_ofNat_of_zero_le st0
  have e2 : ((m : Int) * (k : Int)).toNat = n := by rw [HN.out, ← Int.natCast_mul, Int.toNat_natCast]
  have HQ1 : Hid (qaV (m : Int) (k : Int) wb xs ys e x y lev (N : Int) = qaF (fun j => runT wb m k (nums xs) (nums ys) ⟨nums e, nums x, nums y⟩ j) n lev N) := Lib.hid (by rw [HQV.out, hst, H_fb.out, e2]; rfl)
  clear hst HQV e2
  have X := Blk.new w #[.int .i64 (m : Int), .int .i64 (k : Int), .bool wb, .slice (some ⟨ba, oa, none⟩) xs.length ca, .slice (some ⟨bb, ob, none⟩) ys.length cb] 32
  have Y := Blk.new1 w (.cells #[.int .i64 (m : Int), .int .i64 (k : Int), .bool wb, .slice (some ⟨ba, oa, none⟩) xs.length ca, .slice (some ⟨bb, ob, none⟩) ys.length cb] 32) #[.slice (some ⟨b0, o0, none⟩) e.length c0, .slice (some ⟨b1, o1, none⟩) x.length c1, .slice (some ⟨b2, o2, none⟩) y.length c2] 29
  replace X := X.alloc (.cells #[.slice (some ⟨b0, o0, none⟩) e.length c0, .slice (some ⟨b1, o1, none⟩) x.length c1, .slice (some ⟨b2, o2, none⟩) y.length c2] 29)
  have HB : Hid (Below w.heap.size w ((w.alloc (.cells #[.int .i64 (m : Int), .int .i64 (k : Int), .bool wb, .slice (some ⟨ba, oa, none⟩) xs.length ca, .slice (some ⟨bb, ob, none⟩) ys.length cb] 32)).alloc (.cells #[.slice (some ⟨b0, o0, none⟩) e.length c0, .slice (some ⟨b1, o1, none⟩) x.length c1, .slice (some ⟨b2, o2, none⟩) y.length c2] 29))) := Lib.hid (((Below.refl w.heap.size w).alloc (by simp <;> omega) _).alloc (by simp <;> omega) _)
  go_enter Try.func34, Try.ntmps34
  go_wp2_with fail
  generalize ((w.alloc (.cells #[.int .i64 (m : Int), .int .i64 (k : Int), .bool wb, .slice (some ⟨ba, oa, none⟩) xs.length ca, .slice (some ⟨bb, ob, none⟩) ys.length cb] 32)).alloc (.cells #[.slice (some ⟨b0, o0, none⟩) e.length c0, .slice (some ⟨b1, o1, none⟩) x.length c1, .slice (some ⟨b2, o2, none⟩) y.length c2] 29)) = u1 at *
  refine (specBoth _ _ _ _ _ _ _ _ _ _ _ _ _ _ _ _ _ _ _ _ _ X Y (ha.later HB.out) (hb.later HB.out) hx hy (h0.later HB.out) (h1.later HB.out) (h2.later HB.out) m0 m1 m2).mono ?_
  rintro r u2 ⟨rfl, nq, hw⟩
  have q : Below u1.heap.size u1 u2 := by rw [hw]; exact below_drewN (Below.refl _ _) _
  clear hw
  replace X := X.later q
  replace Y := Y.later q
  replace HB := Lib.hid (HB.out.trans (q.mono HB.out.size))
  clear q
  rw [H_fb.out]
  go_wp2_with fail
  refine (l00In_any _ _ _ _).mono ?_
  rintro r w5 ⟨rfl, rfl⟩
  rw [HST.out]
  have HSU := Lib.hid (show w.heap.size ≤ u2.heap.size from HB.out.size)
  have bxx := X.lt
  go_wp2_with fail
  refine (specOwn _ b0 b1 b2 o0 o1 o2 c0 c1 c2 n e x y _ Y (h0.later HB.out) (h1.later HB.out) (h2.later HB.out) L0.out L1.out L2.out np n256).mono ?_
  rintro r w2 ⟨g0, g1, g2, k0, k1, k2, rfl, y0, y1, y2, lt01, lt12, b⟩
  have hu0 := HSU.out
  replace X := X.later b; clear Y
  replace HB := Lib.hid (HB.out.trans (b.mono HB.out.size))
  have szb := b.size; clear b
  have lt0 := (y0.span _ rfl).2; have lt1 := (y1.span _ rfl).2; have lt2 := (y2.span _ rfl).2
  dsimp only at lt0 lt1 lt2
  have O := Blk.new w2 #[.slice (some ⟨g0, 0, none⟩) n k0, .slice (some ⟨g1, 0, none⟩) n k1, .slice (some ⟨g2, 0, none⟩) n k2] 29
  have b := below_new w2 (.cells #[.slice (some ⟨g0, 0, none⟩) n k0, .slice (some ⟨g1, 0, none⟩) n k1, .slice (some ⟨g2, 0, none⟩) n k2] 29)
  replace X := X.later b; replace y0 := y0.later b; replace y1 := y1.later b; replace y2 := y2.later b
  replace HB := Lib.hid (HB.out.trans (b.mono HB.out.size)); clear b
  obtain ⟨oo, hob⟩ : ∃ oo, oo = w2.heap.size := ⟨_, rfl⟩
  have n0 : g0 ≠ oo := by omega
  have n1 : g1 ≠ oo := by omega
  have n2 : g2 ≠ oo := by omega
  have hol : w.heap.size ≤ oo := by omega
  have hou : u2.heap.size ≤ oo := by omega
  have nx : w.heap.size ≠ oo := by omega
  have O2 : Blk (w2.alloc (.cells #[.slice (some ⟨g0, 0, none⟩) n k0, .slice (some ⟨g1, 0, none⟩) n k1, .slice (some ⟨g2, 0, none⟩) n k2] 29)) oo #[.slice (some ⟨g0, 0, none⟩) n k0, .slice (some ⟨g1, 0, none⟩) n k1, .slice (some ⟨g2, 0, none⟩) n k2] 29 := by rw [hob]; exact O
  clear O; have O := O2; clear O2
  go_upto_region 5 with (fail)
  generalize (w2.alloc (.cells #[.slice (some ⟨g0, 0, none⟩) n k0, .slice (some ⟨g1, 0, none⟩) n k1, .slice (some ⟨g2, 0, none⟩) n k2] 29)) = u9 at *
  rw [← hob]
  clear hob lt0 lt1 lt2 lt01 lt12 szb
  have NF := Lib.hid (And.intro n0 (And.intro n1 n2)); clear n0 n1 n2
  have HT0 : Hid (TAg n e x y (runT wb m k (nums xs) (nums ys) ⟨nums e, nums x, nums y⟩ 0)) := Lib.hid ⟨lag_self L0.out q0, lag_self L1.out q1, lag_self L2.out q2⟩
  go_loopw [11] (fun sv wr => ∃ (j g0 g1 g2 k0 k1 k2 : Nat) (e' x' y' : List Nat), j ≤ N + 1 ∧ sv = .int .i64 j ∧ TAg n e' x' y' (runT wb m k (nums xs) (nums ys) ⟨nums e, nums x, nums y⟩ j) ∧ OwnV wr u2.heap.size (some ⟨g0, 0, none⟩) (fvals e') ∧ OwnV wr u2.heap.size (some ⟨g1, 0, none⟩) (fvals x') ∧ OwnV wr u2.heap.size (some ⟨g2, 0, none⟩) (fvals y') ∧ (g0 ≠ oo ∧ g1 ≠ oo ∧ g2 ≠ oo) ∧ Blk wr oo #[.slice (some ⟨g0, 0, none⟩) n k0, .slice (some ⟨g1, 0, none⟩) n k1, .slice (some ⟨g2, 0, none⟩) n k2] 29 ∧ Blk wr w.heap.size #[.int .i64 (m : Int), .int .i64 (k : Int), .bool wb, .slice (some ⟨ba, oa, none⟩) xs.length ca, .slice (some ⟨bb, ob, none⟩) ys.length cb] 32 ∧ (∀ i, i < j → quB n (runT wb m k (nums xs) (nums ys) ⟨nums e, nums x, nums y⟩ i).e lev = false) ∧ Below w.heap.size w wr) (fun sv _ => N + 1 - (intOf sv).toNat)
  case atStart => exact ⟨0, g0, g1, g2, k0, k1, k2, e, x, y, by omega, rfl, HT0.out, y0, y1, y2, NF.out, O, X, fun i hi => absurd hi (Nat.not_lt_zero _), HB.out⟩
  clear HT0 y0 y1 y2 NF O X HB
  obtain ⟨j, p0, p1, p2, t0, t1, t2, e', x', y', hj, rfl, ht, y0, y1, y2, nf, O, X, hq_, hb_⟩ := hrel
  have HT := Lib.hid ht; have NF := Lib.hid nf; have HB := Lib.hid hb_; have HQ := Lib.hid hq_; clear ht nf hb_ hq_
  by_cases hlt : j ≤ N
  · skip
    have hji : (j : Int) ≤ (N : Int) := by omega
    have O2 : Hid (Blk wr oo #[.slice (some ⟨p0, 0, none⟩) e'.length t0, .slice (some ⟨p1, 0, none⟩) x'.length t1, .slice (some ⟨p2, 0, none⟩) y'.length t2] 29) := Lib.hid (by rw [HT.out.e.1, HT.out.x.1, HT.out.y.1]; exact O)
    have HPP : Hid (peakS e' e'.length = pS n (runT wb m k (nums xs) (nums ys) ⟨nums e, nums x, nums y⟩ j).e) := Lib.hid (by rw [HT.out.e.1]; exact pS_lag HT.out.e)
    have HQD : Hid (quB n (runT wb m k (nums xs) (nums ys) ⟨nums e, nums x, nums y⟩ j).e lev = (FloatKind.f32.format.order (pS n (runT wb m k (nums xs) (nums ys) ⟨nums e, nums x, nums y⟩ j).e) lev == some .lt)) := Lib.hid rfl
    go_wp2_with fail
    refine (specL03Peak oo p0 0 t0 _ _ e' wr O2.out y0.row (by rw [HT.out.e.1]; exact n256) HT.out.e.2.1).mono ?_
    rintro r5 v0 ⟨rfl, b⟩
    rw [HPP.out]
    replace O := O.later b; replace X := X.later b; replace y0 := y0.later b; replace y1 := y1.later b; replace y2 := y2.later b
    replace HB := Lib.hid (HB.out.trans (b.mono HB.out.size)); clear b O2
    rcases hqq : quB n (runT wb m k (nums xs) (nums ys) ⟨nums e, nums x, nums y⟩ j).e lev with _ | _
    · skip
      have hcmp := HQD.out.symm.trans hqq
      have HQN : Hid (∀ i, i < j + 1 → quB n (runT wb m k (nums xs) (nums ys) ⟨nums e, nums x, nums y⟩ i).e lev = false) := Lib.hid (fun i hi => by
        by_cases h : i < j
        · exact HQ.out i h
        · obtain rfl : i = j := by omega
          exact hqq)
      clear hqq
      have O2 : Hid (Blk v0 oo #[.slice (some ⟨p0, 0, none⟩) e'.length t0, .slice (some ⟨p1, 0, none⟩) x'.length t1, .slice (some ⟨p2, 0, none⟩) y'.length t2] 29) := Lib.hid (by rw [HT.out.e.1, HT.out.x.1, HT.out.y.1]; exact O)
      go_wp2_with fail
      refine (specStepT w.heap.size oo m k n ba oa ca bb ob cb p0 p1 p2 0 0 0 t0 t1 t2 wb xs ys e' x' y' _ v0 X O2.out (ha.later HB.out) (hb.later HB.out) LA.out LB.out y0.row y1.row y2.row HT.out s1 s2 s3 s4 HN).mono ?_
      rintro r2 v1 ⟨f0, f1, f2, d0, d1, d2, e2, x2, y2_, rfl, z0, z1, z2, ht2, b⟩
      clear hcmp
      have sz := HB.out.size
      have olt := O.lt
      have zb0 := z0.bound f0 rfl; have zb1 := z1.bound f1 rfl; have zb2 := z2.bound f2 rfl
      replace O := O.later b; replace X := X.later b
      replace HB := Lib.hid (HB.out.trans (b.mono HB.out.size)); clear b O2
      clear y0 y1 y2
      have m0 : f0 ≠ oo := by omega
      have m1 : f1 ≠ oo := by omega
      have m2 : f2 ≠ oo := by omega
      obtain ⟨Oc, Of⟩ := O.open
      go_upto_region 6 with (fail)
      clear Oc Of
      have O3 : Blk (((v1.setCell ⟨oo, 0, none⟩ (.slice (some ⟨f0, 0, none⟩) n d0)).setCell ⟨oo, 1, none⟩ (.slice (some ⟨f1, 0, none⟩) n d1)).setCell ⟨oo, 2, none⟩ (.slice (some ⟨f2, 0, none⟩) n d2)) oo #[.slice (some ⟨f0, 0, none⟩) n d0, .slice (some ⟨f1, 0, none⟩) n d1, .slice (some ⟨f2, 0, none⟩) n d2] 29 := ((O.set 0 _).set 1 _).set 2 _
      replace X := ((X.setOther (p := ⟨oo, 0, none⟩) nx (.slice (some ⟨f0, 0, none⟩) n d0)).setOther (p := ⟨oo, 1, none⟩) nx (.slice (some ⟨f1, 0, none⟩) n d1)).setOther (p := ⟨oo, 2, none⟩) nx (.slice (some ⟨f2, 0, none⟩) n d2)
      replace z0 := (((z0.lower (show u2.heap.size ≤ v0.heap.size by omega)).set (p := ⟨oo, 0, none⟩) (ne_block (h := oo) m0) (.slice (some ⟨f0, 0, none⟩) n d0)).set (p := ⟨oo, 1, none⟩) (ne_block (h := oo) m0) (.slice (some ⟨f1, 0, none⟩) n d1)).set (p := ⟨oo, 2, none⟩) (ne_block (h := oo) m0) (.slice (some ⟨f2, 0, none⟩) n d2)
      replace z1 := (((z1.lower (show u2.heap.size ≤ v0.heap.size by omega)).set (p := ⟨oo, 0, none⟩) (ne_block (h := oo) m1) (.slice (some ⟨f0, 0, none⟩) n d0)).set (p := ⟨oo, 1, none⟩) (ne_block (h := oo) m1) (.slice (some ⟨f1, 0, none⟩) n d1)).set (p := ⟨oo, 2, none⟩) (ne_block (h := oo) m1) (.slice (some ⟨f2, 0, none⟩) n d2)
      replace z2 := (((z2.lower (show u2.heap.size ≤ v0.heap.size by omega)).set (p := ⟨oo, 0, none⟩) (ne_block (h := oo) m2) (.slice (some ⟨f0, 0, none⟩) n d0)).set (p := ⟨oo, 1, none⟩) (ne_block (h := oo) m2) (.slice (some ⟨f1, 0, none⟩) n d1)).set (p := ⟨oo, 2, none⟩) (ne_block (h := oo) m2) (.slice (some ⟨f2, 0, none⟩) n d2)
      replace HB := Lib.hid (((HB.out.setCell (p := ⟨oo, 0, none⟩) hol (.slice (some ⟨f0, 0, none⟩) n d0)).setCell (p := ⟨oo, 1, none⟩) hol (.slice (some ⟨f1, 0, none⟩) n d1)).setCell (p := ⟨oo, 2, none⟩) hol (.slice (some ⟨f2, 0, none⟩) n d2))
      clear O
      generalize (((v1.setCell ⟨oo, 0, none⟩ (.slice (some ⟨f0, 0, none⟩) n d0)).setCell ⟨oo, 1, none⟩ (.slice (some ⟨f1, 0, none⟩) n d1)).setCell ⟨oo, 2, none⟩ (.slice (some ⟨f2, 0, none⟩) n d2)) = v2 at *
      have HT2 := Lib.hid ht2; clear ht2
      have NE : Hid (f0 ≠ oo ∧ f1 ≠ oo ∧ f2 ≠ oo) := Lib.hid ⟨m0, m1, m2⟩
      go_wp2
      go_roundw
      case rel => exact ⟨j + 1, f0, f1, f2, d0, d1, d2, e2, x2, y2_, by omega, by go_num, HT2.out, z0, z1, z2, NE.out, O3, X, HQN.out, HB.out⟩
      case measure => simp [intOf]; omega
    · skip
      have hcmp := HQD.out.symm.trans hqq
      have HQR : Hid (qaV (m : Int) (k : Int) wb xs ys e x y lev (N : Int) = some j) := Lib.hid (HQ1.out.trans (qa_some hlt HQ.out hqq))
      clear hqq
      go_wp2
      go_ret2
      exact ⟨by rw [HQR.out]; rfl, HB.out⟩
  · skip
    obtain rfl : j = N + 1 := by omega
    have hji : ¬ (((N + 1 : Nat) : Int) ≤ (N : Int)) := by omega
    have HQR : Hid (qaV (m : Int) (k : Int) wb xs ys e x y lev (N : Int) = none) := Lib.hid (HQ1.out.trans (qa_none HQ.out))
    go_wp2
    go_ret2
    exact ⟨by rw [HQR.out]; rfl, HB.out⟩

end Go.Proofs.Ytedfbaeajofmnab
