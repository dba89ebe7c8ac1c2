/- The model's step of a field, with the capacities of its answer. Conditions: none beyond those of each theorem. -/
import Derived.Test.YtedfbaeajofmnaaBu21
import Derived.Test.YtedfbaeajofmnaaOwnK
namespace Go.Proofs.Ytedfbaeajofmnaa
open Go Ieee Go.RowKit
set_option linter.unusedVariables false

set_option maxHeartbeats 16000000 in
set_option maxRecDepth 100000 in
theorem specStepK (g gf m k n ba oa ca bb ob cb b0 b1 b2 o0 o1 o2 c0 c1 c2 : Nat) (wb : Bool) (xs ys e x y : List Nat) (w : World) (T : Blk w g #[.int .i64 (m : Int), .int .i64 (k : Int), .bool wb, .slice (some ⟨ba, oa, none⟩) xs.length ca, .slice (some ⟨bb, ob, none⟩) ys.length cb] 29) (Fd : Blk w gf #[.slice (some ⟨b0, o0, none⟩) e.length c0, .slice (some ⟨b1, o1, none⟩) x.length c1, .slice (some ⟨b2, o2, none⟩) y.length c2] 38) (ra : RowV w (some ⟨ba, oa, none⟩) (fvals xs)) (rb : RowV w (some ⟨bb, ob, none⟩) (fvals ys)) (la : xs.length = n) (lb : ys.length = n) (r0 : RowV w (some ⟨b0, o0, none⟩) (fvals e)) (r1 : RowV w (some ⟨b1, o1, none⟩) (fvals x)) (r2 : RowV w (some ⟨b2, o2, none⟩) (fvals y)) (l0 : e.length = n) (l1 : x.length = n) (l2 : y.length = n) (q0 : ∀ z ∈ e, z < 2 ^ 32) (q1 : ∀ z ∈ x, z < 2 ^ 32) (q2 : ∀ z ∈ y, z < 2 ^ 32) (h1 : 3 ≤ m) (h2 : m ≤ 16) (h3 : 3 ≤ k) (h4 : k ≤ 16) (hn : Hid (n = m * k)) :
    Calls Try.prog 89 #[.pointer (some ⟨g, 0, none⟩), .pointer (some ⟨gf, 0, none⟩)] w fun r w' => ∃ g0 g1 g2 k0 k1 k2 ea xa ya, r = .returned (.agg #[.slice (some ⟨g0, 0, none⟩) n k0, .slice (some ⟨g1, 0, none⟩) n k1, .slice (some ⟨g2, 0, none⟩) n k2]) ∧ OwnV w' w.heap.size (some ⟨g0, 0, none⟩) (fvals (firsts ea n)) ∧ OwnV w' w.heap.size (some ⟨g1, 0, none⟩) (fvals (firsts xa n)) ∧ OwnV w' w.heap.size (some ⟨g2, 0, none⟩) (fvals (firsts ya n)) ∧ Ag n ea (stE wb m k (nums xs) (nums ys) (nums e) (nums x) (nums y)) ∧ Ag n xa (halfX wb m k (nums e) (nums x)) ∧ Ag n ya (halfY wb m k (nums e) (nums y)) ∧ Below w.heap.size w w' ∧ n ≤ k0 ∧ n ≤ k1 ∧ n ≤ k2 := by
  have hn1 : n ≤ 256 := by rw [hn.out]; exact Nat.le_trans (Nat.mul_le_mul h2 h4) (by decide)
  have hn0 : 0 < n := by rw [hn.out]; exact Nat.mul_pos (by omega) (by omega)
  have AE := Lib.hid (ag_zero (A := stE wb m k (nums xs) (nums ys) (nums e) (nums x) (nums y)) (ag_list (lag_self l0 q0)))
  have L0 := Lib.hid l0; have L1 := Lib.hid l1; have L2 := Lib.hid l2; have LA := Lib.hid la; have LB := Lib.hid lb; clear l0 l1 l2 la lb
  have aslc : ∀ w, (isAgg 22).run Try.prog w = .ok false w := fun w => by kernel_rfl
  have D := Blk.new w #[.slice none 0 0, .slice none 0 0, .slice none 0 0] 38
  have HB : Hid (Below w.heap.size w (w.alloc (.cells #[.slice none 0 0, .slice none 0 0, .slice none 0 0] 38))) := Lib.hid (below_new _ _)
  go_enter Try.func89, Try.ntmps89
  go_wp2_with fail
  generalize (w.alloc (.cells #[.slice none 0 0, .slice none 0 0, .slice none 0 0] 38)) = u1 at *
  have dlt := D.lt
  refine (specHalf g gf m k n b0 b1 b2 o0 o1 o2 c0 c1 c2 wb _ _ e x y u1 (T.later HB.out) (Fd.later HB.out) (r0.later HB.out) (r1.later HB.out) (r2.later HB.out) L0.out L1.out L2.out q1 q2 h1 h2 h3 h4 hn).mono ?_
  rintro r u2 ⟨h0_, h1_, h2_, k0_, k1_, k2_, xa, ya, rfl, w0, w1, w2, ax, ay, ltx, lty, b⟩
  have sz1 := HB.out.size
  replace D := D.later b
  replace HB := Lib.hid (HB.out.trans (b.mono HB.out.size)); clear b
  replace w0 := w0.lower sz1; replace w1 := w1.lower sz1; replace w2 := w2.lower sz1
  have AX := Lib.hid ax; have AY := Lib.hid ay; clear ax ay
  have H := Blk.new u2 #[.slice (some ⟨h0_, 0, none⟩) n k0_, .slice (some ⟨h1_, 0, none⟩) n k1_, .slice (some ⟨h2_, 0, none⟩) n k2_] 38
  have b := below_new u2 (.cells #[.slice (some ⟨h0_, 0, none⟩) n k0_, .slice (some ⟨h1_, 0, none⟩) n k1_, .slice (some ⟨h2_, 0, none⟩) n k2_] 38)
  have dlt2 := D.lt
  replace D := D.later b; replace w0 := w0.later b; replace w1 := w1.later b; replace w2 := w2.later b
  replace HB := Lib.hid (HB.out.trans (b.mono HB.out.size)); clear b
  obtain ⟨hb, hhb⟩ : ∃ hb, hb = u2.heap.size := ⟨_, rfl⟩
  have hhl : w.heap.size < hb := by omega
  have H2 : Blk (u2.alloc (.cells #[.slice (some ⟨h0_, 0, none⟩) n k0_, .slice (some ⟨h1_, 0, none⟩) n k1_, .slice (some ⟨h2_, 0, none⟩) n k2_] 38)) hb #[.slice (some ⟨h0_, 0, none⟩) n k0_, .slice (some ⟨h1_, 0, none⟩) n k1_, .slice (some ⟨h2_, 0, none⟩) n k2_] 38 := by rw [hhb]; exact H
  clear H; have H := H2; clear H2
  go_upto_region 2 with (fail)
  generalize (u2.alloc (.cells #[.slice (some ⟨h0_, 0, none⟩) n k0_, .slice (some ⟨h1_, 0, none⟩) n k1_, .slice (some ⟨h2_, 0, none⟩) n k2_] 38)) = u3 at *
  rw [← hhb]
  clear hhb dlt2
  have sp0 := (w0.span _ rfl).2; have sp1 := (w1.span _ rfl).2; have sp2 := (w2.span _ rfl).2
  dsimp only at sp0 sp1 sp2
  have hlt3 := H.lt
  go_wp2_with fail
  have HH : ∀ u, Blk u hb #[.slice (some ⟨h0_, 0, none⟩) n k0_, .slice (some ⟨h1_, 0, none⟩) n k1_, .slice (some ⟨h2_, 0, none⟩) n k2_] 38 → Blk u hb #[.slice (some ⟨h0_, 0, none⟩) e.length k0_, .slice (some ⟨h1_, 0, none⟩) (firsts xa n).length k1_, .slice (some ⟨h2_, 0, none⟩) (firsts ya n).length k2_] 38 := fun u h => by rw [L0.out, firsts_length, firsts_length]; exact h
  have HHH := Lib.hid HH; clear HH
  refine (specOwnK hb h0_ h1_ h2_ 0 0 0 k0_ k1_ k2_ n e (firsts xa n) (firsts ya n) u3 (HHH.out _ H) w0.row w1.row w2.row L0.out (firsts_length _ _) (firsts_length _ _) hn0 hn1).mono ?_
  rintro r u4 ⟨g0, g1, g2, k0, k1, k2, rfl, y0, y1, y2, lt01, lt12, b, kc0, kc1, kc2⟩
  obtain ⟨C0, t0, s0, G0, fr0⟩ := own_fr y0
  rw [L0.out] at fr0
  have s1 := y1.bound g1 rfl; have s2 := y2.bound g2 rfl
  have sz2 := HB.out.size
  replace y1 := y1.lower sz2; replace y2 := y2.lower sz2
  clear y0
  replace D := D.later b; replace H := H.later b; replace w0 := w0.later b; replace w1 := w1.later b; replace w2 := w2.later b
  replace HB := Lib.hid (HB.out.trans (b.mono HB.out.size)); clear b
  have lt2 := (y2.span _ rfl).2
  dsimp only at lt2
  have O := Blk.new u4 #[.slice (some ⟨g0, 0, none⟩) n k0, .slice (some ⟨g1, 0, none⟩) n k1, .slice (some ⟨g2, 0, none⟩) n k2] 38
  have b := below_new u4 (.cells #[.slice (some ⟨g0, 0, none⟩) n k0, .slice (some ⟨g1, 0, none⟩) n k1, .slice (some ⟨g2, 0, none⟩) n k2] 38)
  replace D := D.later b; replace H := H.later b; replace w0 := w0.later b; replace w1 := w1.later b; replace w2 := w2.later b; replace G0 := G0.later b; replace y1 := y1.later b; replace y2 := y2.later b
  replace HB := Lib.hid (HB.out.trans (b.mono HB.out.size)); clear b
  obtain ⟨oo, hob⟩ : ∃ oo, oo = u4.heap.size := ⟨_, rfl⟩
  have hol : g2 < oo := by omega
  have O2 : Blk (u4.alloc (.cells #[.slice (some ⟨g0, 0, none⟩) n k0, .slice (some ⟨g1, 0, none⟩) n k1, .slice (some ⟨g2, 0, none⟩) n k2] 38)) oo #[.slice (some ⟨g0, 0, none⟩) n k0, .slice (some ⟨g1, 0, none⟩) n k1, .slice (some ⟨g2, 0, none⟩) n k2] 38 := by rw [hob]; exact O
  clear O; have O := O2; clear O2
  go_upto_region 3 with (fail)
  generalize (u4.alloc (.cells #[.slice (some ⟨g0, 0, none⟩) n k0, .slice (some ⟨g1, 0, none⟩) n k1, .slice (some ⟨g2, 0, none⟩) n k2] 38)) = u5 at *
  rw [← hob]
  clear hob lt2
  have S0 := Lib.hid fr0; clear fr0
  have T3 := T.later HB.out
  obtain ⟨Tc, Tf⟩ := T3.open
  go_wp2
  clear Tc Tf T3
  go_loopw [7] (fun yv wr => ∃ (q : Nat) (A0 : Array Value) (ea : Nat → Nat), q ≤ k ∧ yv = .int .i64 q ∧ FR A0 n ea ∧ Ag n ea (mix (m * q) (stE wb m k (nums xs) (nums ys) (nums e) (nums x) (nums y)) (nums e)) ∧ Blk wr g0 A0 t0 ∧ OwnV wr w.heap.size (some ⟨h0_, 0, none⟩) (fvals e) ∧ OwnV wr w.heap.size (some ⟨h1_, 0, none⟩) (fvals (firsts xa n)) ∧ OwnV wr w.heap.size (some ⟨h2_, 0, none⟩) (fvals (firsts ya n)) ∧ OwnV wr w.heap.size (some ⟨g1, 0, none⟩) (fvals (firsts xa n)) ∧ OwnV wr w.heap.size (some ⟨g2, 0, none⟩) (fvals (firsts ya n)) ∧ Blk wr w.heap.size #[.slice none 0 0, .slice none 0 0, .slice none 0 0] 38 ∧ Blk wr hb #[.slice (some ⟨h0_, 0, none⟩) n k0_, .slice (some ⟨h1_, 0, none⟩) n k1_, .slice (some ⟨h2_, 0, none⟩) n k2_] 38 ∧ Blk wr oo #[.slice (some ⟨g0, 0, none⟩) n k0, .slice (some ⟨g1, 0, none⟩) n k1, .slice (some ⟨g2, 0, none⟩) n k2] 38 ∧ Below w.heap.size w wr) (fun yv _ => k - (intOf yv).toNat)
  case atStart => exact ⟨0, C0, _, Nat.zero_le _, rfl, S0.out, AE.out, G0, w0, w1, w2, y1, y2, D, H, O, HB.out⟩
  clear AE S0 G0 w0 w1 w2 y1 y2 D H O HB
  obtain ⟨q, A0, ea, hq, rfl, fr0, ae, G0, w0, w1, w2, y1, y2, D, H, O, hb_⟩ := hrel
  have S0 := Lib.hid fr0; have AE := Lib.hid ae; have HB := Lib.hid hb_; clear fr0 ae hb_
  have T3 := T.later HB.out
  obtain ⟨Tc, Tf⟩ := T3.open
  by_cases hlq : q < k
  · skip
    go_wp2_with fail
    clear Tc Tf T3
    go_loopw [8] (fun xv wr => ∃ (p : Nat) (A0 : Array Value) (ea : Nat → Nat), p ≤ m ∧ xv = .int .i64 p ∧ FR A0 n ea ∧ Ag n ea (mix (p + m * q) (stE wb m k (nums xs) (nums ys) (nums e) (nums x) (nums y)) (nums e)) ∧ Blk wr g0 A0 t0 ∧ OwnV wr w.heap.size (some ⟨h0_, 0, none⟩) (fvals e) ∧ OwnV wr w.heap.size (some ⟨h1_, 0, none⟩) (fvals (firsts xa n)) ∧ OwnV wr w.heap.size (some ⟨h2_, 0, none⟩) (fvals (firsts ya n)) ∧ OwnV wr w.heap.size (some ⟨g1, 0, none⟩) (fvals (firsts xa n)) ∧ OwnV wr w.heap.size (some ⟨g2, 0, none⟩) (fvals (firsts ya n)) ∧ Blk wr w.heap.size #[.slice none 0 0, .slice none 0 0, .slice none 0 0] 38 ∧ Blk wr hb #[.slice (some ⟨h0_, 0, none⟩) n k0_, .slice (some ⟨h1_, 0, none⟩) n k1_, .slice (some ⟨h2_, 0, none⟩) n k2_] 38 ∧ Blk wr oo #[.slice (some ⟨g0, 0, none⟩) n k0, .slice (some ⟨g1, 0, none⟩) n k1, .slice (some ⟨g2, 0, none⟩) n k2] 38 ∧ Below w.heap.size w wr) (fun xv _ => m - (intOf xv).toNat)
    case atStart => exact ⟨0, A0, ea, Nat.zero_le _, rfl, S0.out, by rw [Nat.zero_add]; exact AE.out, G0, w0, w1, w2, y1, y2, D, H, O, HB.out⟩
    clear AE S0 G0 w0 w1 w2 y1 y2 D H O HB
    obtain ⟨p, A0, ea, hp, rfl, fr0, ae, G0, w0, w1, w2, y1, y2, D, H, O, hb_⟩ := hrel
    have S0 := Lib.hid fr0; have AE := Lib.hid ae; have HB := Lib.hid hb_; clear fr0 ae hb_
    have T3 := T.later HB.out
    obtain ⟨Tc, Tf⟩ := T3.open
    by_cases hlp : p < m
    · skip
      obtain ⟨j, hj⟩ : ∃ j, p + m * q = j := ⟨_, rfl⟩
      have hjn : j < n := by rw [hn.out, ← hj]; exact place_lt hlp hlq
      have HJ := Lib.hid (place_here hlp hlq hj)
      replace AE : Hid (Ag n ea (mix j (stE wb m k (nums xs) (nums ys) (nums e) (nums x) (nums y)) (nums e))) := Lib.hid (by rw [← hj]; exact AE.out)
      have HPJ := Lib.hid hj; clear hj
      have HNJ : Hid (p + 1 + m * q = j + 1) := Lib.hid (by have := HPJ.out; omega)
      have jn : (j : Int) < (n : Int) := by omega
      have ya0 := ra.later HB.out; have yb0 := rb.later HB.out
      obtain ⟨Oc, Of⟩ := O.open
      go_wp2_with fail
      clear Tc Tf
      refine wp_region_rel_tail (Grows wr) (fun f _ v => if f = 129 then v = .int .i64 (j : Int) else ∃ z, v = .float .f32 z ∧ canon .f32 z = restE wb m k (nums xs) (nums ys) (nums e) (nums (firsts xa n)) (nums (firsts ya n)) j ∧ z < 2 ^ 32) 11 (by kernel_rfl) (by kernel_rfl) (Grows.drew _) ?_
      simp only [List.take_succ_cons, List.take_zero, List.drop_succ_cons, List.drop_zero]
      (refine wpRel_plain rfl rfl ?_; intro K hK; go_big_quiet_op; (first | go_big_quiet_on | (refine ⟨_, fun _ _ => rfl, ?_⟩; go_big_quiet_on)))
      (refine wpRel_load rfl _ rfl (.slice (some ⟨g0, 0, none⟩) n k0) (load_cell aslc (Oc 0)) ?_; simp only [Act.put, List.setIfInBounds_toArray, List.set_cons_zero, List.set_cons_succ])
      (refine wpRel_plain rfl rfl ?_; intro K hK; go_big_quiet_op; (first | go_big_quiet_on | (refine ⟨_, fun _ _ => rfl, ?_⟩; go_big_quiet_on)))
      (refine wpRel_plain rfl rfl ?_; intro K hK; go_big_quiet_op; (first | go_big_quiet_on | (refine ⟨_, fun _ _ => rfl, ?_⟩; go_big_quiet_on)))
      (refine wpRel_plain rfl rfl ?_; intro K hK; go_big_quiet_op; (first | go_big_quiet_on | (refine ⟨_, fun _ _ => rfl, ?_⟩; go_big_quiet_on)))
      (refine wpRel_callC rfl 129 _ rfl Try.func129 (by kernel_rfl) (by kernel_rfl) [.pointer (some ⟨g, 0, none⟩), .int .i64 (p : Int), .int .i64 (q : Int)] rfl (fun w' hw' => (specAtV g m k j _ _ wb _ _ w' (T3.later hw') h1 h2 h3 h4 (by omega) (by omega) (by omega) (by omega) HJ).mono (by rintro e w'' ⟨rfl, q9⟩; exact ⟨_, rfl, by rw [if_pos rfl], Grows.next hw' q9⟩)) ?_; intro v hv; rw [if_pos rfl] at hv; obtain rfl := hv; simp only [Act.put, List.setIfInBounds_toArray, List.set_cons_zero, List.set_cons_succ])
      (refine wpRel_plain rfl rfl ?_; intro K hK; go_big_quiet_op; (first | go_big_quiet_on | (refine ⟨_, fun _ _ => rfl, ?_⟩; go_big_quiet_on)))
      (refine wpRel_plain rfl rfl ?_; intro K hK; go_big_quiet_op; (first | go_big_quiet_on | (refine ⟨_, fun _ _ => rfl, ?_⟩; go_big_quiet_on)))
      (refine wpRel_plain rfl rfl ?_; intro K hK; go_big_quiet_op; (first | go_big_quiet_on | (refine ⟨_, fun _ _ => rfl, ?_⟩; go_big_quiet_on)))
      (refine wpRel_callC rfl 128 _ rfl Try.func128 (by kernel_rfl) (by kernel_rfl) [.pointer (some ⟨g, 0, none⟩), .pointer (some ⟨hb, 0, none⟩), .int .i64 (p : Int), .int .i64 (q : Int)] rfl (fun w' hw' => (specRest g hb m k n p q j ba oa ca bb ob cb h0_ h1_ h2_ 0 0 0 k0_ k1_ k2_ wb xs ys e (firsts xa n) (firsts ya n) w' (T3.later hw') (HHH.out _ (H.later hw')) (ya0.later hw') (yb0.later hw') LA.out LB.out (w0.later hw').row (w1.later hw').row (w2.later hw').row L0.out (firsts_length _ _) (firsts_length _ _) q0 h1 h2 h3 h4 hlp hlq HPJ.out hn).mono (by rintro e w'' ⟨z, rfl, hc, hz, q9⟩; exact ⟨_, rfl, by rw [if_neg (by decide)]; exact ⟨z, rfl, hc, hz⟩, Grows.next hw' q9⟩)) ?_; intro v hv; rw [if_neg (by decide)] at hv; obtain ⟨z, rfl, hc, hb_z⟩ := hv; have H_z := Lib.hid hc; clear hc; simp only [Act.put, List.setIfInBounds_toArray, List.set_cons_zero, List.set_cons_succ])
      (refine wpRel_plain rfl rfl ?_; intro K hK; go_big_quiet_op; (first | go_big_quiet_on | (refine ⟨_, fun _ _ => rfl, ?_⟩; go_big_quiet_on)))
      refine wpRel_nil ?_
      intro V2 b
      replace b : Below wr.heap.size wr V2 := b
      clear Oc Of T3 ya0 yb0
      replace G0 := G0.later b; replace D := D.later b; replace H := H.later b; replace O := O.later b; replace w0 := w0.later b; replace w1 := w1.later b; replace w2 := w2.later b; replace y1 := y1.later b; replace y2 := y2.later b
      replace HB := Lib.hid (HB.out.trans (b.mono HB.out.size)); clear b
      have HZ : Hid (canon .f32 z = stE wb m k (nums xs) (nums ys) (nums e) (nums x) (nums y) j) := Lib.hid (H_z.out.trans (restE_congr (by omega) (by omega) hn.out (fun _ _ => rfl) (lag_firsts AX.out).2.2 (lag_firsts AY.out).2.2 hjn))
      obtain ⟨gc, gfz⟩ := G0.open
      have gc2 : V2.cell? ⟨g0, j, none⟩ = some (.float .f32 (ea j)) := (gc j).trans (S0.out j hjn)
      have gf2 := gfz j
      clear gc gfz
      go_upto_region 8 with (fail)
      replace G0 := G0.set j (.float .f32 z)
      replace D := D.setOther (p := ⟨g0, j, none⟩) (by simp; omega) (.float .f32 z)
      replace H := H.setOther (p := ⟨g0, j, none⟩) (by simp; omega) (.float .f32 z)
      replace O := O.setOther (p := ⟨g0, j, none⟩) (by simp; omega) (.float .f32 z)
      replace w0 := w0.set (p := ⟨g0, j, none⟩) (ne_block (h := g0) (by omega)) (.float .f32 z)
      replace w1 := w1.set (p := ⟨g0, j, none⟩) (ne_block (h := g0) (by omega)) (.float .f32 z)
      replace w2 := w2.set (p := ⟨g0, j, none⟩) (ne_block (h := g0) (by omega)) (.float .f32 z)
      replace y1 := y1.set (p := ⟨g0, j, none⟩) (ne_block (h := g0) (by omega)) (.float .f32 z)
      replace y2 := y2.set (p := ⟨g0, j, none⟩) (ne_block (h := g0) (by omega)) (.float .f32 z)
      replace HB := Lib.hid (HB.out.setCell (p := ⟨g0, j, none⟩) (show w.heap.size ≤ g0 by omega) (.float .f32 z))
      replace S0 := Lib.hid (fr_set (v := z) S0.out hjn)
      replace AE := Lib.hid (ag_put AE.out HZ.out hb_z)
      clear gc2 gf2
      generalize (V2.setCell ⟨g0, j, none⟩ (.float .f32 z)) = V3 at *
      go_wp2
      go_roundw
      case rel => exact ⟨p + 1, _, _, by omega, by go_num, S0.out, by rw [HNJ.out]; exact AE.out, G0, w0, w1, w2, y1, y2, D, H, O, HB.out⟩
      case measure => simp [intOf]; omega
    · skip
      obtain rfl : p = m := by omega
      have HPM : Hid (p * (q + 1) = p + p * q) := Lib.hid (by rw [Nat.mul_succ]; omega)
      go_wp2
      go_roundw
      case rel => exact ⟨q + 1, _, _, by omega, by go_num, S0.out, by rw [HPM.out]; exact AE.out, G0, w0, w1, w2, y1, y2, D, H, O, HB.out⟩
      case measure => simp [intOf]; omega
  · skip
    obtain rfl : q = k := by omega
    replace AE := Lib.hid (ag_all (by have := AE.out; rw [← hn.out] at this; exact this))
    obtain ⟨Oc, Of⟩ := O.open; obtain ⟨Dc, Df⟩ := D.open
    go_wp2
    refine bodyPost_ret (v := .agg #[.slice (some ⟨g0, 0, none⟩) n k0, .slice (some ⟨g1, 0, none⟩) n k1, .slice (some ⟨g2, 0, none⟩) n k2]) (by simp [results, Try.results89, go_sem, Dc]) rfl ⟨g0, g1, g2, k0, k1, k2, ea, xa, ya, rfl, ?_, ?_, ?_, AE.out, AX.out, AY.out, ?_, kc0, kc1, kc2⟩
    exact (OwnV.set (OwnV.set (OwnV.set (fr_own G0 (show w.heap.size ≤ g0 by omega) S0.out) (p := ⟨w.heap.size, 0, none⟩) (ne_block (h := w.heap.size) (by omega)) _) (p := ⟨w.heap.size, 1, none⟩) (ne_block (h := w.heap.size) (by omega)) _) (p := ⟨w.heap.size, 2, none⟩) (ne_block (h := w.heap.size) (by omega)) _)
    exact (OwnV.set (OwnV.set (OwnV.set y1 (p := ⟨w.heap.size, 0, none⟩) (ne_block (h := w.heap.size) (by omega)) _) (p := ⟨w.heap.size, 1, none⟩) (ne_block (h := w.heap.size) (by omega)) _) (p := ⟨w.heap.size, 2, none⟩) (ne_block (h := w.heap.size) (by omega)) _)
    exact (OwnV.set (OwnV.set (OwnV.set y2 (p := ⟨w.heap.size, 0, none⟩) (ne_block (h := w.heap.size) (by omega)) _) (p := ⟨w.heap.size, 1, none⟩) (ne_block (h := w.heap.size) (by omega)) _) (p := ⟨w.heap.size, 2, none⟩) (ne_block (h := w.heap.size) (by omega)) _)
    exact (((HB.out.setCell (p := ⟨w.heap.size, 0, none⟩) (Nat.le_refl _) _).setCell (p := ⟨w.heap.size, 1, none⟩) (Nat.le_refl _) _).setCell (p := ⟨w.heap.size, 2, none⟩) (Nat.le_refl _) _)

end Go.Proofs.Ytedfbaeajofmnaa
