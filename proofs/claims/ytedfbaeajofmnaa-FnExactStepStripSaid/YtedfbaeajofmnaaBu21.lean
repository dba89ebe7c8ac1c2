/- Several texts in one: facts on floats, lists, memory and the functions that the theorems beside this text use. Conditions: none beyond those of each theorem. -/
import Derived.Test.YtedfbaeajofmnaaBu20

set_option linter.unusedVariables false

section

namespace Go.Proofs.Ytedfbaeajofmnaa
open Go Ieee Go.RowKit
set_option linter.unusedVariables false

/-- a block holds at least the first n numbers of a function -/
def FR (C : Array Value) (n : Nat) (F : Nat → Nat) : Prop := ∀ i, i < n → C[i]? = some (.float .f32 (F i))

theorem fr_set {C : Array Value} {n j v : Nat} {F : Nat → Nat} (h : FR C n F) (hj : j < n) : FR (C.setIfInBounds j (.float .f32 v)) n (up1 F j v) := fun i hi => by
  unfold up1
  by_cases e : i = j
  · subst e; rw [if_pos rfl, Array.getElem?_setIfInBounds_self_of_lt (Array.getElem?_eq_some_iff.1 (h i hi)).1]
  · rw [if_neg e, Array.getElem?_setIfInBounds_ne (by omega)]; exact h i hi

theorem fr_own {w : World} {B g n : Nat} {C : Array Value} {t : TypeId} {F : Nat → Nat} (G : Blk w g C t) (hB : B ≤ g) (h : FR C n F) : OwnV w B (some ⟨g, 0, none⟩) (fvals (firsts F n)) :=
  .inr ⟨g, C, t, rfl, hB, G, fun i u hu => by
    have hi : i < n := by
      rcases Nat.lt_or_ge i n with h' | h'
      · exact h'
      · rw [List.getElem?_eq_none (by rw [fvals_length, firsts_length]; exact h')] at hu; cases hu
    rw [h i hi, ← hu, fvals_get (by rw [firsts_length]; exact hi)]
    unfold firsts
    rw [List.getElem_map, List.getElem_range]⟩

theorem own_fr {w : World} {B g : Nat} {xs : List Nat} (h : OwnV w B (some ⟨g, 0, none⟩) (fvals xs)) : ∃ C t, B ≤ g ∧ Blk w g C t ∧ FR C xs.length (fun i => xs.getD i 0) := by
  rcases h with ⟨h, _⟩ | ⟨g', C, t, e, hg, hb, hv⟩
  · cases h
  · cases e
    exact ⟨C, t, hg, hb, fun i hi => by rw [hv i _ (fvals_get hi), ← getD_get hi]⟩

theorem firsts_self (l : List Nat) : firsts (fun i => l.getD i 0) l.length = l := by
  unfold firsts
  apply List.ext_getElem (by simp)
  intro i h1 h2
  rw [List.getElem_map, List.getElem_range, getD_get h2]

/-- a list has these numbers -/
def LAg (n : Nat) (l : List Nat) (C : Nat → Option Nat) : Prop := l.length = n ∧ (∀ z ∈ l, z < 2 ^ 32) ∧ ∀ i, i < n → nums l i = C i

theorem lag_firsts {n : Nat} {F : Nat → Nat} {C : Nat → Option Nat} (h : Ag n F C) : LAg n (firsts F n) C :=
  ⟨firsts_length F n, fun z hz => by
    unfold firsts at hz
    obtain ⟨i, hi, rfl⟩ := List.mem_map.1 hz
    exact (h i (List.mem_range.1 hi)).2, fun i hi => by
    unfold nums
    rw [getD_get (by rw [firsts_length]; exact hi)]
    unfold firsts
    rw [List.getElem_map, List.getElem_range]; exact (h i hi).1⟩

theorem ag_list {n : Nat} {l : List Nat} {C : Nat → Option Nat} (h : LAg n l C) : Ag n (fun i => l.getD i 0) C := fun i hi => ⟨h.2.2 i hi, getD_lt h.2.1 i⟩
theorem lag_self {n : Nat} {l : List Nat} (h : l.length = n) (hb : ∀ z ∈ l, z < 2 ^ 32) : LAg n l (nums l) := ⟨h, hb, fun _ _ => rfl⟩

theorem halfX_congr {wb : Bool} {m k n i : Nat} {E E' X X' : Nat → Option Nat} (h1 : 0 < m) (h3 : 0 < k) (hn : n = m * k) (hE : ∀ i, i < n → E i = E' i) (hX : ∀ i, i < n → X i = X' i) (hi : i < n) : halfX wb m k E X i = halfX wb m k E' X' i := by
  unfold halfX; rw [hE _ (by rw [hn]; exact dn_lt h1 h3), hE i hi, hX i hi]
theorem halfY_congr {wb : Bool} {m k n i : Nat} {E E' Y Y' : Nat → Option Nat} (h1 : 0 < m) (h3 : 0 < k) (hn : n = m * k) (hE : ∀ i, i < n → E i = E' i) (hY : ∀ i, i < n → Y i = Y' i) (hi : i < n) : halfY wb m k E Y i = halfY wb m k E' Y' i := by
  unfold halfY; rw [hE _ (by rw [hn]; exact rt_lt h1 (by rw [← hn]; exact hi)), hE i hi, hY i hi]
theorem restE_congr {wb : Bool} {m k n i : Nat} {S L E E' X X' Y Y' : Nat → Option Nat} (h1 : 0 < m) (h3 : 0 < k) (hn : n = m * k) (hE : ∀ i, i < n → E i = E' i) (hX : ∀ i, i < n → X i = X' i) (hY : ∀ i, i < n → Y i = Y' i) (hi : i < n) : restE wb m k S L E X Y i = restE wb m k S L E' X' Y' i := by
  unfold restE; rw [hE i hi, hX i hi, hY i hi, hX _ (by rw [hn]; exact up_lt h1 h3), hY _ (by rw [hn]; exact lf_lt h1 (by rw [← hn]; exact hi))]

set_option maxHeartbeats 16000000 in
set_option maxRecDepth 100000 in
theorem specHalf (g gf m k n b0 b1 b2 o0 o1 o2 c0 c1 c2 : Nat) (wb : Bool) (v3 v4 : Value) (e x y : List Nat) (w : World) (T : Blk w g #[.int .i64 (m : Int), .int .i64 (k : Int), .bool wb, v3, v4] 29) (Fd : Blk w gf #[.slice (some ⟨b0, o0, none⟩) e.length c0, .slice (some ⟨b1, o1, none⟩) x.length c1, .slice (some ⟨b2, o2, none⟩) y.length c2] 38) (r0 : RowV w (some ⟨b0, o0, none⟩) (fvals e)) (r1 : RowV w (some ⟨b1, o1, none⟩) (fvals x)) (r2 : RowV w (some ⟨b2, o2, none⟩) (fvals y)) (l0 : e.length = n) (l1 : x.length = n) (l2 : y.length = n) (q1 : ∀ z ∈ x, z < 2 ^ 32) (q2 : ∀ z ∈ y, z < 2 ^ 32) (h1 : 3 ≤ m) (h2 : m ≤ 16) (h3 : 3 ≤ k) (h4 : k ≤ 16) (hn : Hid (n = m * k)) :
    Calls Try.prog 127 #[.pointer (some ⟨g, 0, none⟩), .pointer (some ⟨gf, 0, none⟩)] w fun r w' => ∃ g0 g1 g2 k0 k1 k2 xa ya, r = .returned (.agg #[.slice (some ⟨g0, 0, none⟩) n k0, .slice (some ⟨g1, 0, none⟩) n k1, .slice (some ⟨g2, 0, none⟩) n k2]) ∧ OwnV w' w.heap.size (some ⟨g0, 0, none⟩) (fvals e) ∧ OwnV w' w.heap.size (some ⟨g1, 0, none⟩) (fvals (firsts xa n)) ∧ OwnV w' w.heap.size (some ⟨g2, 0, none⟩) (fvals (firsts ya n)) ∧ Ag n xa (halfX wb m k (nums e) (nums x)) ∧ Ag n ya (halfY wb m k (nums e) (nums y)) ∧ g0 < g1 ∧ g1 < g2 ∧ Below w.heap.size w w' := by
  have hn1 : n ≤ 256 := by rw [hn.out]; exact Nat.le_trans (Nat.mul_le_mul h2 h4) (by decide)
  have hn0 : 0 < n := by rw [hn.out]; exact Nat.mul_pos (by omega) (by omega)
  have AX := Lib.hid (ag_zero (A := halfX wb m k (nums e) (nums x)) (ag_list (lag_self l1 q1))); have AY := Lib.hid (ag_zero (A := halfY wb m k (nums e) (nums y)) (ag_list (lag_self l2 q2)))
  have L0 := Lib.hid l0; have L1 := Lib.hid l1; have L2 := Lib.hid l2; clear l0 l1 l2
  have aslc : ∀ w, (isAgg 22).run Try.prog w = .ok false w := fun w => by kernel_rfl
  have D := Blk.new w #[.slice none 0 0, .slice none 0 0, .slice none 0 0] 38
  have HB : Hid (Below w.heap.size w (w.alloc (.cells #[.slice none 0 0, .slice none 0 0, .slice none 0 0] 38))) := Lib.hid (below_new _ _)
  go_enter Try.func127, Try.ntmps127
  go_wp2_with fail
  generalize (w.alloc (.cells #[.slice none 0 0, .slice none 0 0, .slice none 0 0] 38)) = u1 at *
  have dlt := D.lt
  refine (specOwn gf b0 b1 b2 o0 o1 o2 c0 c1 c2 n e x y u1 (Fd.later HB.out) (r0.later HB.out) (r1.later HB.out) (r2.later HB.out) L0.out L1.out L2.out hn0 hn1).mono ?_
  rintro r u2 ⟨g0, g1, g2, k0, k1, k2, rfl, w0, w1, w2, lt01, lt12, b⟩
  replace D := D.later b
  replace HB := Lib.hid (HB.out.trans (b.mono HB.out.size)); clear b
  obtain ⟨C0, t0, s0, G0, fr0⟩ := own_fr w0; obtain ⟨C1, t1, s1, G1, fr1⟩ := own_fr w1; obtain ⟨C2, t2, s2, G2, fr2⟩ := own_fr w2
  rw [L0.out] at fr0; rw [L1.out] at fr1; rw [L2.out] at fr2
  clear w0 w1 w2
  have lt2 := G2.lt
  have O := Blk.new u2 #[.slice (some ⟨g0, 0, none⟩) n k0, .slice (some ⟨g1, 0, none⟩) n k1, .slice (some ⟨g2, 0, none⟩) n k2] 38
  have b := below_new u2 (.cells #[.slice (some ⟨g0, 0, none⟩) n k0, .slice (some ⟨g1, 0, none⟩) n k1, .slice (some ⟨g2, 0, none⟩) n k2] 38)
  replace D := D.later b; replace G0 := G0.later b; replace G1 := G1.later b; replace G2 := G2.later b
  replace HB := Lib.hid (HB.out.trans (b.mono HB.out.size)); clear b
  obtain ⟨ob, hob⟩ : ∃ ob, ob = u2.heap.size := ⟨_, rfl⟩
  have hol : g2 < ob := by omega
  go_upto_region 2 with (fail)
  generalize (u2.alloc (.cells #[.slice (some ⟨g0, 0, none⟩) n k0, .slice (some ⟨g1, 0, none⟩) n k1, .slice (some ⟨g2, 0, none⟩) n k2] 38)) = u3 at *
  rw [← hob] at O ⊢
  clear hob lt2
  have S1 := Lib.hid fr1; have S2 := Lib.hid fr2; have S0 := Lib.hid fr0; clear fr0 fr1 fr2
  have T3 := T.later HB.out
  obtain ⟨Tc, Tf⟩ := T3.open
  go_wp2
  clear Tc Tf T3
  go_loopw [6] (fun yv wr => ∃ (q : Nat) (A1 A2 : Array Value) (xa ya : Nat → Nat), q ≤ k ∧ yv = .int .i64 q ∧ FR A1 n xa ∧ FR A2 n ya ∧ Ag n xa (mix (m * q) (halfX wb m k (nums e) (nums x)) (nums x)) ∧ Ag n ya (mix (m * q) (halfY wb m k (nums e) (nums y)) (nums y)) ∧ Blk wr g0 C0 t0 ∧ Blk wr g1 A1 t1 ∧ Blk wr g2 A2 t2 ∧ Blk wr w.heap.size #[.slice none 0 0, .slice none 0 0, .slice none 0 0] 38 ∧ Blk wr ob #[.slice (some ⟨g0, 0, none⟩) n k0, .slice (some ⟨g1, 0, none⟩) n k1, .slice (some ⟨g2, 0, none⟩) n k2] 38 ∧ Below w.heap.size w wr) (fun yv _ => k - (intOf yv).toNat)
  case atStart => exact ⟨0, C1, C2, _, _, Nat.zero_le _, rfl, S1.out, S2.out, AX.out, AY.out, G0, G1, G2, D, O, HB.out⟩
  clear AX AY S1 S2 G0 G1 G2 D O HB
  obtain ⟨q, A1, A2, xa, ya, hq, rfl, fr1, fr2, ax, ay, G0, G1, G2, D, O, hb⟩ := hrel
  have S1 := Lib.hid fr1; have S2 := Lib.hid fr2; have AX := Lib.hid ax; have AY := Lib.hid ay; have HB := Lib.hid hb; clear fr1 fr2 ax ay hb
  have T3 := T.later HB.out
  obtain ⟨Tc, Tf⟩ := T3.open
  by_cases hlq : q < k
  · skip
    go_wp2_with fail
    clear Tc Tf T3
    go_loopw [7] (fun xv wr => ∃ (p : Nat) (A1 A2 : Array Value) (xa ya : Nat → Nat), p ≤ m ∧ xv = .int .i64 p ∧ FR A1 n xa ∧ FR A2 n ya ∧ Ag n xa (mix (p + m * q) (halfX wb m k (nums e) (nums x)) (nums x)) ∧ Ag n ya (mix (p + m * q) (halfY wb m k (nums e) (nums y)) (nums y)) ∧ Blk wr g0 C0 t0 ∧ Blk wr g1 A1 t1 ∧ Blk wr g2 A2 t2 ∧ Blk wr w.heap.size #[.slice none 0 0, .slice none 0 0, .slice none 0 0] 38 ∧ Blk wr ob #[.slice (some ⟨g0, 0, none⟩) n k0, .slice (some ⟨g1, 0, none⟩) n k1, .slice (some ⟨g2, 0, none⟩) n k2] 38 ∧ Below w.heap.size w wr) (fun xv _ => m - (intOf xv).toNat)
    case atStart => exact ⟨0, A1, A2, xa, ya, Nat.zero_le _, rfl, S1.out, S2.out, by rw [Nat.zero_add]; exact AX.out, by rw [Nat.zero_add]; exact AY.out, G0, G1, G2, D, O, HB.out⟩
    clear AX AY S1 S2 G0 G1 G2 D O HB
    obtain ⟨p, A1, A2, xa, ya, hp, rfl, fr1, fr2, ax, ay, G0, G1, G2, D, O, hb⟩ := hrel
    have S1 := Lib.hid fr1; have S2 := Lib.hid fr2; have AX := Lib.hid ax; have AY := Lib.hid ay; have HB := Lib.hid hb; clear fr1 fr2 ax ay hb
    have T3 := T.later HB.out
    obtain ⟨Tc, Tf⟩ := T3.open
    by_cases hlp : p < m
    · skip
      obtain ⟨j, hj⟩ : ∃ j, p + m * q = j := ⟨_, rfl⟩
      have hjn : j < n := by rw [hn.out, ← hj]; exact place_lt hlp hlq
      have HJ := Lib.hid (place_here hlp hlq hj)
      replace AX : Hid (Ag n xa (mix j (halfX wb m k (nums e) (nums x)) (nums x))) := Lib.hid (by rw [← hj]; exact AX.out)
      replace AY : Hid (Ag n ya (mix j (halfY wb m k (nums e) (nums y)) (nums y))) := Lib.hid (by rw [← hj]; exact AY.out)
      have HPJ := Lib.hid hj; clear hj
      have HNJ : Hid (p + 1 + m * q = j + 1) := Lib.hid (by have := HPJ.out; omega)
      have jn : (j : Int) < (n : Int) := by omega
      go_wp2_with fail
      refine (specAtV g m k j _ _ _ v3 v4 _ T3 h1 h2 h3 h4 (by omega) (by omega) (by omega) (by omega) HJ).mono ?_
      rintro r V1 ⟨rfl, b⟩
      clear Tc Tf T3
      replace G0 := G0.later b; replace G1 := G1.later b; replace G2 := G2.later b; replace D := D.later b; replace O := O.later b
      replace HB := Lib.hid (HB.out.trans (b.mono HB.out.size)); clear b
      have T3 := T.later HB.out; have F3 := Fd.later HB.out; have y0 := r0.later HB.out; have y1 := r1.later HB.out; have y2 := r2.later HB.out
      obtain ⟨Oc, Of⟩ := O.open
      go_wp2_with fail
      refine wp_region_rel_tail (Grows V1) (fun _ _ v => ∃ z, v = .float .f32 z ∧ canon .f32 z = halfX wb m k (nums e) (nums x) j ∧ z < 2 ^ 32) 9 (by kernel_rfl) (by kernel_rfl) (Grows.drew _) ?_
      simp only [List.take_succ_cons, List.take_zero, List.drop_succ_cons, List.drop_zero]
      (refine wpRel_plain rfl rfl ?_; intro K hK; go_big_quiet_op; (first | go_big_quiet_on | (refine ⟨_, fun _ _ => rfl, ?_⟩; go_big_quiet_on)))
      (refine wpRel_load rfl _ rfl (.slice (some ⟨g1, 0, none⟩) n k1) (load_cell aslc (Oc 1)) ?_; simp only [Act.put, List.setIfInBounds_toArray, List.set_cons_zero, List.set_cons_succ, List.getElem_toArray, List.getElem_cons_zero, List.getElem_cons_succ])
      (refine wpRel_plain rfl rfl ?_; intro K hK; go_big_quiet_op; (first | go_big_quiet_on | (refine ⟨_, fun _ _ => rfl, ?_⟩; go_big_quiet_on)))
      (refine wpRel_plain rfl rfl ?_; intro K hK; go_big_quiet_op; (first | go_big_quiet_on | (refine ⟨_, fun _ _ => rfl, ?_⟩; go_big_quiet_on)))
      (refine wpRel_plain rfl rfl ?_; intro K hK; go_big_quiet_op; (first | go_big_quiet_on | (refine ⟨_, fun _ _ => rfl, ?_⟩; go_big_quiet_on)))
      (refine wpRel_plain rfl rfl ?_; intro K hK; go_big_quiet_op; (first | go_big_quiet_on | (refine ⟨_, fun _ _ => rfl, ?_⟩; go_big_quiet_on)))
      (refine wpRel_plain rfl rfl ?_; intro K hK; go_big_quiet_op; (first | go_big_quiet_on | (refine ⟨_, fun _ _ => rfl, ?_⟩; go_big_quiet_on)))
      (refine wpRel_callC rfl 150 _ rfl Try.func150 (by kernel_rfl) (by kernel_rfl) [.pointer (some ⟨g, 0, none⟩), .pointer (some ⟨gf, 0, none⟩), .int .i64 (p : Int), .int .i64 (q : Int)] rfl (fun w' hw' => (specHalfX g gf m k n p q j b0 b1 b2 o0 o1 o2 c0 c1 c2 wb v3 v4 e x y w' (T3.later hw') (F3.later hw') (y0.later hw') (y1.later hw') (y2.later hw') L0.out L1.out L2.out q1 h1 h2 h3 h4 hlp hlq HPJ.out hn).mono (by rintro e w'' ⟨z, rfl, hc, hz, q9⟩; exact ⟨_, rfl, ⟨z, rfl, hc, hz⟩, Grows.next hw' q9⟩)) ?_; rintro v ⟨zx, rfl, hc, hb_zx⟩; have H_zx := Lib.hid hc; clear hc; simp only [Act.put, List.setIfInBounds_toArray, List.set_cons_zero, List.set_cons_succ, List.getElem_toArray, List.getElem_cons_zero, List.getElem_cons_succ])
      (refine wpRel_plain rfl rfl ?_; intro K hK; go_big_quiet_op; (first | go_big_quiet_on | (refine ⟨_, fun _ _ => rfl, ?_⟩; go_big_quiet_on)))
      refine wpRel_nil ?_
      intro V2 b
      replace b : Below V1.heap.size V1 V2 := b
      clear Oc Of T3 F3 y0 y1 y2
      replace G0 := G0.later b; replace G1 := G1.later b; replace G2 := G2.later b; replace D := D.later b; replace O := O.later b
      replace HB := Lib.hid (HB.out.trans (b.mono HB.out.size)); clear b
      obtain ⟨gc, gfz⟩ := G1.open
      have gc2 : V2.cell? ⟨g1, j, none⟩ = some (.float .f32 (xa j)) := (gc j).trans (S1.out j hjn)
      have gf2 := gfz j
      clear gc gfz
      go_upto_region 10 with (fail)
      replace G0 := G0.setOther (p := ⟨g1, j, none⟩) (by simp; omega) (.float .f32 zx)
      replace G1 := G1.set j (.float .f32 zx)
      replace G2 := G2.setOther (p := ⟨g1, j, none⟩) (by simp; omega) (.float .f32 zx)
      replace D := D.setOther (p := ⟨g1, j, none⟩) (by simp; omega) (.float .f32 zx)
      replace O := O.setOther (p := ⟨g1, j, none⟩) (by simp; omega) (.float .f32 zx)
      replace HB := Lib.hid (HB.out.setCell (p := ⟨g1, j, none⟩) (show w.heap.size ≤ g1 by omega) (.float .f32 zx))
      replace S1 := Lib.hid (fr_set (v := zx) S1.out hjn)
      replace AX := Lib.hid (ag_put AX.out H_zx.out hb_zx)
      clear gc2 gf2
      generalize (V2.setCell ⟨g1, j, none⟩ (.float .f32 zx)) = V3 at *
      have T3 := T.later HB.out; have F3 := Fd.later HB.out; have y0 := r0.later HB.out; have y1 := r1.later HB.out; have y2 := r2.later HB.out
      obtain ⟨Oc, Of⟩ := O.open
      go_wp2_with fail
      refine wp_region_rel_tail (Grows V3) (fun _ _ v => ∃ z, v = .float .f32 z ∧ canon .f32 z = halfY wb m k (nums e) (nums y) j ∧ z < 2 ^ 32) 9 (by kernel_rfl) (by kernel_rfl) (Grows.drew _) ?_
      simp only [List.take_succ_cons, List.take_zero, List.drop_succ_cons, List.drop_zero]
      (refine wpRel_plain rfl rfl ?_; intro K hK; go_big_quiet_op; (first | go_big_quiet_on | (refine ⟨_, fun _ _ => rfl, ?_⟩; go_big_quiet_on)))
      (refine wpRel_load rfl _ rfl (.slice (some ⟨g2, 0, none⟩) n k2) (load_cell aslc (Oc 2)) ?_; simp only [Act.put, List.setIfInBounds_toArray, List.set_cons_zero, List.set_cons_succ, List.getElem_toArray, List.getElem_cons_zero, List.getElem_cons_succ])
      (refine wpRel_plain rfl rfl ?_; intro K hK; go_big_quiet_op; (first | go_big_quiet_on | (refine ⟨_, fun _ _ => rfl, ?_⟩; go_big_quiet_on)))
      (refine wpRel_plain rfl rfl ?_; intro K hK; go_big_quiet_op; (first | go_big_quiet_on | (refine ⟨_, fun _ _ => rfl, ?_⟩; go_big_quiet_on)))
      (refine wpRel_plain rfl rfl ?_; intro K hK; go_big_quiet_op; (first | go_big_quiet_on | (refine ⟨_, fun _ _ => rfl, ?_⟩; go_big_quiet_on)))
      (refine wpRel_plain rfl rfl ?_; intro K hK; go_big_quiet_op; (first | go_big_quiet_on | (refine ⟨_, fun _ _ => rfl, ?_⟩; go_big_quiet_on)))
      (refine wpRel_plain rfl rfl ?_; intro K hK; go_big_quiet_op; (first | go_big_quiet_on | (refine ⟨_, fun _ _ => rfl, ?_⟩; go_big_quiet_on)))
      (refine wpRel_callC rfl 151 _ rfl Try.func151 (by kernel_rfl) (by kernel_rfl) [.pointer (some ⟨g, 0, none⟩), .pointer (some ⟨gf, 0, none⟩), .int .i64 (p : Int), .int .i64 (q : Int)] rfl (fun w' hw' => (specHalfY g gf m k n p q j b0 b1 b2 o0 o1 o2 c0 c1 c2 wb v3 v4 e x y w' (T3.later hw') (F3.later hw') (y0.later hw') (y1.later hw') (y2.later hw') L0.out L1.out L2.out q2 h1 h2 h3 h4 hlp hlq HPJ.out hn).mono (by rintro e w'' ⟨z, rfl, hc, hz, q9⟩; exact ⟨_, rfl, ⟨z, rfl, hc, hz⟩, Grows.next hw' q9⟩)) ?_; rintro v ⟨zy, rfl, hc, hb_zy⟩; have H_zy := Lib.hid hc; clear hc; simp only [Act.put, List.setIfInBounds_toArray, List.set_cons_zero, List.set_cons_succ, List.getElem_toArray, List.getElem_cons_zero, List.getElem_cons_succ])
      (refine wpRel_plain rfl rfl ?_; intro K hK; go_big_quiet_op; (first | go_big_quiet_on | (refine ⟨_, fun _ _ => rfl, ?_⟩; go_big_quiet_on)))
      refine wpRel_nil ?_
      intro V4 b
      replace b : Below V3.heap.size V3 V4 := b
      clear Oc Of T3 F3 y0 y1 y2
      replace G0 := G0.later b; replace G1 := G1.later b; replace G2 := G2.later b; replace D := D.later b; replace O := O.later b
      replace HB := Lib.hid (HB.out.trans (b.mono HB.out.size)); clear b
      obtain ⟨gc, gfz⟩ := G2.open
      have gc2 : V4.cell? ⟨g2, j, none⟩ = some (.float .f32 (ya j)) := (gc j).trans (S2.out j hjn)
      have gf2 := gfz j
      clear gc gfz
      go_upto_region 7 with (fail)
      replace G0 := G0.setOther (p := ⟨g2, j, none⟩) (by simp; omega) (.float .f32 zy)
      replace G1 := G1.setOther (p := ⟨g2, j, none⟩) (by simp; omega) (.float .f32 zy)
      replace G2 := G2.set j (.float .f32 zy)
      replace D := D.setOther (p := ⟨g2, j, none⟩) (by simp; omega) (.float .f32 zy)
      replace O := O.setOther (p := ⟨g2, j, none⟩) (by simp; omega) (.float .f32 zy)
      replace HB := Lib.hid (HB.out.setCell (p := ⟨g2, j, none⟩) (show w.heap.size ≤ g2 by omega) (.float .f32 zy))
      replace S2 := Lib.hid (fr_set (v := zy) S2.out hjn)
      replace AY := Lib.hid (ag_put AY.out H_zy.out hb_zy)
      clear gc2 gf2
      generalize (V4.setCell ⟨g2, j, none⟩ (.float .f32 zy)) = V5 at *
      go_wp2
      go_roundw
      case rel => exact ⟨p + 1, _, _, _, _, by omega, by go_num, S1.out, S2.out, by rw [HNJ.out]; exact AX.out, by rw [HNJ.out]; exact AY.out, G0, G1, G2, D, O, HB.out⟩
      case measure => simp [intOf]; omega
    · skip
      obtain rfl : p = m := by omega
      have HPM : Hid (p * (q + 1) = p + p * q) := Lib.hid (by rw [Nat.mul_succ]; omega)
      go_wp2
      go_roundw
      case rel => exact ⟨q + 1, _, _, _, _, by omega, by go_num, S1.out, S2.out, by rw [HPM.out]; exact AX.out, by rw [HPM.out]; exact AY.out, G0, G1, G2, D, O, HB.out⟩
      case measure => simp [intOf]; omega
  · skip
    obtain rfl : q = k := by omega
    replace AX := Lib.hid (ag_all (by have := AX.out; rw [← hn.out] at this; exact this)); replace AY := Lib.hid (ag_all (by have := AY.out; rw [← hn.out] at this; exact this))
    obtain ⟨Oc, Of⟩ := O.open; obtain ⟨Dc, Df⟩ := D.open
    go_wp2
    refine bodyPost_ret (v := .agg #[.slice (some ⟨g0, 0, none⟩) n k0, .slice (some ⟨g1, 0, none⟩) n k1, .slice (some ⟨g2, 0, none⟩) n k2]) (by simp [results, Try.results127, go_sem, Dc]) rfl ⟨g0, g1, g2, k0, k1, k2, xa, ya, rfl, ?_, ?_, ?_, AX.out, AY.out, lt01, lt12, ?_⟩
    exact (OwnV.set (OwnV.set (OwnV.set (by have := fr_own G0 (show w.heap.size ≤ g0 by omega) S0.out; rw [← L0.out, firsts_self] at this; exact this) (p := ⟨w.heap.size, 0, none⟩) (ne_block (h := w.heap.size) (by omega)) _) (p := ⟨w.heap.size, 1, none⟩) (ne_block (h := w.heap.size) (by omega)) _) (p := ⟨w.heap.size, 2, none⟩) (ne_block (h := w.heap.size) (by omega)) _)
    exact (OwnV.set (OwnV.set (OwnV.set (fr_own G1 (show w.heap.size ≤ g1 by omega) S1.out) (p := ⟨w.heap.size, 0, none⟩) (ne_block (h := w.heap.size) (by omega)) _) (p := ⟨w.heap.size, 1, none⟩) (ne_block (h := w.heap.size) (by omega)) _) (p := ⟨w.heap.size, 2, none⟩) (ne_block (h := w.heap.size) (by omega)) _)
    exact (OwnV.set (OwnV.set (OwnV.set (fr_own G2 (show w.heap.size ≤ g2 by omega) S2.out) (p := ⟨w.heap.size, 0, none⟩) (ne_block (h := w.heap.size) (by omega)) _) (p := ⟨w.heap.size, 1, none⟩) (ne_block (h := w.heap.size) (by omega)) _) (p := ⟨w.heap.size, 2, none⟩) (ne_block (h := w.heap.size) (by omega)) _)
    exact (((HB.out.setCell (p := ⟨w.heap.size, 0, none⟩) (Nat.le_refl _) _).setCell (p := ⟨w.heap.size, 1, none⟩) (Nat.le_refl _) _).setCell (p := ⟨w.heap.size, 2, none⟩) (Nat.le_refl _) _)

end Go.Proofs.Ytedfbaeajofmnaa

end

section

namespace Go.Proofs.Ytedfbaeajofmnaa
open Go Ieee Go.RowKit
set_option linter.unusedVariables false

/-- the numbers of a field -/
structure Trip where
  e : Nat → Option Nat
  x : Nat → Option Nat
  y : Nat → Option Nat

def stT (wb : Bool) (m k : Nat) (S L : Nat → Option Nat) (t : Trip) : Trip := ⟨stE wb m k S L t.e t.x t.y, halfX wb m k t.e t.x, halfY wb m k t.e t.y⟩
def runT (wb : Bool) (m k : Nat) (S L : Nat → Option Nat) (t : Trip) : Nat → Trip
  | 0 => t
  | j + 1 => stT wb m k S L (runT wb m k S L t j)

theorem stE_congr {wb : Bool} {m k n i : Nat} {S L E E' X X' Y Y' : Nat → Option Nat} (h1 : 0 < m) (h3 : 0 < k) (hn : n = m * k) (hE : ∀ i, i < n → E i = E' i) (hX : ∀ i, i < n → X i = X' i) (hY : ∀ i, i < n → Y i = Y' i) (hi : i < n) : stE wb m k S L E X Y i = stE wb m k S L E' X' Y' i :=
  restE_congr h1 h3 hn hE (fun _ h => halfX_congr h1 h3 hn hE hX h) (fun _ h => halfY_congr h1 h3 hn hE hY h) hi

/-- three lists have the numbers of a field -/
structure TAg (n : Nat) (e x y : List Nat) (t : Trip) : Prop where
  e : LAg n e t.e
  x : LAg n x t.x
  y : LAg n y t.y

theorem tag_step {wb : Bool} {m k n : Nat} {S L : Nat → Option Nat} {e x y : List Nat} {t : Trip} {ea xa ya : Nat → Nat} (h1 : 0 < m) (h3 : 0 < k) (hn : n = m * k) (h : TAg n e x y t) (a : Ag n ea (stE wb m k S L (nums e) (nums x) (nums y))) (b : Ag n xa (halfX wb m k (nums e) (nums x))) (c : Ag n ya (halfY wb m k (nums e) (nums y))) : TAg n (firsts ea n) (firsts xa n) (firsts ya n) (stT wb m k S L t) :=
  ⟨lag_firsts (fun i hi => ⟨(a i hi).1.trans (stE_congr h1 h3 hn h.e.2.2 h.x.2.2 h.y.2.2 hi), (a i hi).2⟩), lag_firsts (fun i hi => ⟨(b i hi).1.trans (halfX_congr h1 h3 hn h.e.2.2 h.x.2.2 hi), (b i hi).2⟩), lag_firsts (fun i hi => ⟨(c i hi).1.trans (halfY_congr h1 h3 hn h.e.2.2 h.y.2.2 hi), (c i hi).2⟩)⟩

set_option maxHeartbeats 16000000 in
set_option maxRecDepth 100000 in
theorem specStep (g gf m k n ba oa ca bb ob cb b0 b1 b2 o0 o1 o2 c0 c1 c2 : Nat) (wb : Bool) (xs ys e x y : List Nat) (w : World) (T : Blk w g #[.int .i64 (m : Int), .int .i64 (k : Int), .bool wb, .slice (some ⟨ba, oa, none⟩) xs.length ca, .slice (some ⟨bb, ob, none⟩) ys.length cb] 29) (Fd : Blk w gf #[.slice (some ⟨b0, o0, none⟩) e.length c0, .slice (some ⟨b1, o1, none⟩) x.length c1, .slice (some ⟨b2, o2, none⟩) y.length c2] 38) (ra : RowV w (some ⟨ba, oa, none⟩) (fvals xs)) (rb : RowV w (some ⟨bb, ob, none⟩) (fvals ys)) (la : xs.length = n) (lb : ys.length = n) (r0 : RowV w (some ⟨b0, o0, none⟩) (fvals e)) (r1 : RowV w (some ⟨b1, o1, none⟩) (fvals x)) (r2 : RowV w (some ⟨b2, o2, none⟩) (fvals y)) (l0 : e.length = n) (l1 : x.length = n) (l2 : y.length = n) (q0 : ∀ z ∈ e, z < 2 ^ 32) (q1 : ∀ z ∈ x, z < 2 ^ 32) (q2 : ∀ z ∈ y, z < 2 ^ 32) (h1 : 3 ≤ m) (h2 : m ≤ 16) (h3 : 3 ≤ k) (h4 : k ≤ 16) (hn : Hid (n = m * k)) :
    Calls Try.prog 89 #[.pointer (some ⟨g, 0, none⟩), .pointer (some ⟨gf, 0, none⟩)] w fun r w' => ∃ g0 g1 g2 k0 k1 k2 ea xa ya, r = .returned (.agg #[.slice (some ⟨g0, 0, none⟩) n k0, .slice (some ⟨g1, 0, none⟩) n k1, .slice (some ⟨g2, 0, none⟩) n k2]) ∧ OwnV w' w.heap.size (some ⟨g0, 0, none⟩) (fvals (firsts ea n)) ∧ OwnV w' w.heap.size (some ⟨g1, 0, none⟩) (fvals (firsts xa n)) ∧ OwnV w' w.heap.size (some ⟨g2, 0, none⟩) (fvals (firsts ya n)) ∧ Ag n ea (stE wb m k (nums xs) (nums ys) (nums e) (nums x) (nums y)) ∧ Ag n xa (halfX wb m k (nums e) (nums x)) ∧ Ag n ya (halfY wb m k (nums e) (nums y)) ∧ Below w.heap.size w w' := by
  have hn1 : n ≤ 256 := by rw [hn.out]; exact Nat.le_trans (Nat.mul_le_mul h2 h4) (by decide)
  have hn0 : 0 < n := by rw [hn.out]; exact Nat.mul_pos (by omega) (by omega)
  have AE := Lib.hid (ag_zero (A := stE wb m k (nums xs) (nums ys) (nums e) (nums x) (nums y)) (ag_list (lag_self l0 q0)))
  have L0 := Lib.hid l0; have L1 := Lib.hid l1; have L2 := Lib.hid l2; have LA := Lib.hid la; have LB := Lib.hid lb; clear l0 l1 l2 la lb
  have aslc : ∀ w, (isAgg 22).run Try.prog w = .ok false w := fun w => by kernel_rfl
  have D := Blk.new w #[.slice none 0 0, .slice none 0 0, .slice none 0 0] 38
  have HB : Hid (Below w.heap.size w (w.alloc (.cells #[.slice none 0 0, .slice none 0 0, .slice none 0 0] 38))) := Lib.hid (below_new _ _)
  go_enter Try.func89, Try.ntmps89
  go_wp2_with fail
  generalize (w.alloc (.cells #[.slice none 0 0, .slice none 0 0, .slice none 0 0] 38)) = u1 at *
  have dlt := D.lt
  refine (specHalf g gf m k n b0 b1 b2 o0 o1 o2 c0 c1 c2 wb _ _ e x y u1 (T.later HB.out) (Fd.later HB.out) (r0.later HB.out) (r1.later HB.out) (r2.later HB.out) L0.out L1.out L2.out q1 q2 h1 h2 h3 h4 hn).mono ?_
  rintro r u2 ⟨h0_, h1_, h2_, k0_, k1_, k2_, xa, ya, rfl, w0, w1, w2, ax, ay, ltx, lty, b⟩
  have sz1 := HB.out.size
  replace D := D.later b
  replace HB := Lib.hid (HB.out.trans (b.mono HB.out.size)); clear b
  replace w0 := w0.lower sz1; replace w1 := w1.lower sz1; replace w2 := w2.lower sz1
  have AX := Lib.hid ax; have AY := Lib.hid ay; clear ax ay
  have H := Blk.new u2 #[.slice (some ⟨h0_, 0, none⟩) n k0_, .slice (some ⟨h1_, 0, none⟩) n k1_, .slice (some ⟨h2_, 0, none⟩) n k2_] 38
  have b := below_new u2 (.cells #[.slice (some ⟨h0_, 0, none⟩) n k0_, .slice (some ⟨h1_, 0, none⟩) n k1_, .slice (some ⟨h2_, 0, none⟩) n k2_] 38)
  have dlt2 := D.lt
  replace D := D.later b; replace w0 := w0.later b; replace w1 := w1.later b; replace w2 := w2.later b
  replace HB := Lib.hid (HB.out.trans (b.mono HB.out.size)); clear b
  obtain ⟨hb, hhb⟩ : ∃ hb, hb = u2.heap.size := ⟨_, rfl⟩
  have hhl : w.heap.size < hb := by omega
  have H2 : Blk (u2.alloc (.cells #[.slice (some ⟨h0_, 0, none⟩) n k0_, .slice (some ⟨h1_, 0, none⟩) n k1_, .slice (some ⟨h2_, 0, none⟩) n k2_] 38)) hb #[.slice (some ⟨h0_, 0, none⟩) n k0_, .slice (some ⟨h1_, 0, none⟩) n k1_, .slice (some ⟨h2_, 0, none⟩) n k2_] 38 := by rw [hhb]; exact H
  clear H; have H := H2; clear H2
  go_upto_region 2 with (fail)
  generalize (u2.alloc (.cells #[.slice (some ⟨h0_, 0, none⟩) n k0_, .slice (some ⟨h1_, 0, none⟩) n k1_, .slice (some ⟨h2_, 0, none⟩) n k2_] 38)) = u3 at *
  rw [← hhb]
  clear hhb dlt2
  have sp0 := (w0.span _ rfl).2; have sp1 := (w1.span _ rfl).2; have sp2 := (w2.span _ rfl).2
  dsimp only at sp0 sp1 sp2
  have hlt3 := H.lt
  go_wp2_with fail
  have HH : ∀ u, Blk u hb #[.slice (some ⟨h0_, 0, none⟩) n k0_, .slice (some ⟨h1_, 0, none⟩) n k1_, .slice (some ⟨h2_, 0, none⟩) n k2_] 38 → Blk u hb #[.slice (some ⟨h0_, 0, none⟩) e.length k0_, .slice (some ⟨h1_, 0, none⟩) (firsts xa n).length k1_, .slice (some ⟨h2_, 0, none⟩) (firsts ya n).length k2_] 38 := fun u h => by rw [L0.out, firsts_length, firsts_length]; exact h
  have HHH := Lib.hid HH; clear HH
  refine (specOwn hb h0_ h1_ h2_ 0 0 0 k0_ k1_ k2_ n e (firsts xa n) (firsts ya n) u3 (HHH.out _ H) w0.row w1.row w2.row L0.out (firsts_length _ _) (firsts_length _ _) hn0 hn1).mono ?_
  rintro r u4 ⟨g0, g1, g2, k0, k1, k2, rfl, y0, y1, y2, lt01, lt12, b⟩
  obtain ⟨C0, t0, s0, G0, fr0⟩ := own_fr y0
  rw [L0.out] at fr0
  have s1 := y1.bound g1 rfl; have s2 := y2.bound g2 rfl
  have sz2 := HB.out.size
  replace y1 := y1.lower sz2; replace y2 := y2.lower sz2
  clear y0
  replace D := D.later b; replace H := H.later b; replace w0 := w0.later b; replace w1 := w1.later b; replace w2 := w2.later b
  replace HB := Lib.hid (HB.out.trans (b.mono HB.out.size)); clear b
  have lt2 := (y2.span _ rfl).2
  dsimp only at lt2
  have O := Blk.new u4 #[.slice (some ⟨g0, 0, none⟩) n k0, .slice (some ⟨g1, 0, none⟩) n k1, .slice (some ⟨g2, 0, none⟩) n k2] 38
  have b := below_new u4 (.cells #[.slice (some ⟨g0, 0, none⟩) n k0, .slice (some ⟨g1, 0, none⟩) n k1, .slice (some ⟨g2, 0, none⟩) n k2] 38)
  replace D := D.later b; replace H := H.later b; replace w0 := w0.later b; replace w1 := w1.later b; replace w2 := w2.later b; replace G0 := G0.later b; replace y1 := y1.later b; replace y2 := y2.later b
  replace HB := Lib.hid (HB.out.trans (b.mono HB.out.size)); clear b
  obtain ⟨oo, hob⟩ : ∃ oo, oo = u4.heap.size := ⟨_, rfl⟩
  have hol : g2 < oo := by omega
  have O2 : Blk (u4.alloc (.cells #[.slice (some ⟨g0, 0, none⟩) n k0, .slice (some ⟨g1, 0, none⟩) n k1, .slice (some ⟨g2, 0, none⟩) n k2] 38)) oo #[.slice (some ⟨g0, 0, none⟩) n k0, .slice (some ⟨g1, 0, none⟩) n k1, .slice (some ⟨g2, 0, none⟩) n k2] 38 := by rw [hob]; exact O
  clear O; have O := O2; clear O2
  go_upto_region 3 with (fail)
  generalize (u4.alloc (.cells #[.slice (some ⟨g0, 0, none⟩) n k0, .slice (some ⟨g1, 0, none⟩) n k1, .slice (some ⟨g2, 0, none⟩) n k2] 38)) = u5 at *
  rw [← hob]
  clear hob lt2
  have S0 := Lib.hid fr0; clear fr0
  have T3 := T.later HB.out
  obtain ⟨Tc, Tf⟩ := T3.open
  go_wp2
  clear Tc Tf T3
  go_loopw [7] (fun yv wr => ∃ (q : Nat) (A0 : Array Value) (ea : Nat → Nat), q ≤ k ∧ yv = .int .i64 q ∧ FR A0 n ea ∧ Ag n ea (mix (m * q) (stE wb m k (nums xs) (nums ys) (nums e) (nums x) (nums y)) (nums e)) ∧ Blk wr g0 A0 t0 ∧ OwnV wr w.heap.size (some ⟨h0_, 0, none⟩) (fvals e) ∧ OwnV wr w.heap.size (some ⟨h1_, 0, none⟩) (fvals (firsts xa n)) ∧ OwnV wr w.heap.size (some ⟨h2_, 0, none⟩) (fvals (firsts ya n)) ∧ OwnV wr w.heap.size (some ⟨g1, 0, none⟩) (fvals (firsts xa n)) ∧ OwnV wr w.heap.size (some ⟨g2, 0, none⟩) (fvals (firsts ya n)) ∧ Blk wr w.heap.size #[.slice none 0 0, .slice none 0 0, .slice none 0 0] 38 ∧ Blk wr hb #[.slice (some ⟨h0_, 0, none⟩) n k0_, .slice (some ⟨h1_, 0, none⟩) n k1_, .slice (some ⟨h2_, 0, none⟩) n k2_] 38 ∧ Blk wr oo #[.slice (some ⟨g0, 0, none⟩) n k0, .slice (some ⟨g1, 0, none⟩) n k1, .slice (some ⟨g2, 0, none⟩) n k2] 38 ∧ Below w.heap.size w wr) (fun yv _ => k - (intOf yv).toNat)
  case atStart => exact ⟨0, C0, _, Nat.zero_le _, rfl, S0.out, AE.out, G0, w0, w1, w2, y1, y2, D, H, O, HB.out⟩
  clear AE S0 G0 w0 w1 w2 y1 y2 D H O HB
  obtain ⟨q, A0, ea, hq, rfl, fr0, ae, G0, w0, w1, w2, y1, y2, D, H, O, hb_⟩ := hrel
  have S0 := Lib.hid fr0; have AE := Lib.hid ae; have HB := Lib.hid hb_; clear fr0 ae hb_
  have T3 := T.later HB.out
  obtain ⟨Tc, Tf⟩ := T3.open
  by_cases hlq : q < k
  · skip
    go_wp2_with fail
    clear Tc Tf T3
    go_loopw [8] (fun xv wr => ∃ (p : Nat) (A0 : Array Value) (ea : Nat → Nat), p ≤ m ∧ xv = .int .i64 p ∧ FR A0 n ea ∧ Ag n ea (mix (p + m * q) (stE wb m k (nums xs) (nums ys) (nums e) (nums x) (nums y)) (nums e)) ∧ Blk wr g0 A0 t0 ∧ OwnV wr w.heap.size (some ⟨h0_, 0, none⟩) (fvals e) ∧ OwnV wr w.heap.size (some ⟨h1_, 0, none⟩) (fvals (firsts xa n)) ∧ OwnV wr w.heap.size (some ⟨h2_, 0, none⟩) (fvals (firsts ya n)) ∧ OwnV wr w.heap.size (some ⟨g1, 0, none⟩) (fvals (firsts xa n)) ∧ OwnV wr w.heap.size (some ⟨g2, 0, none⟩) (fvals (firsts ya n)) ∧ Blk wr w.heap.size #[.slice none 0 0, .slice none 0 0, .slice none 0 0] 38 ∧ Blk wr hb #[.slice (some ⟨h0_, 0, none⟩) n k0_, .slice (some ⟨h1_, 0, none⟩) n k1_, .slice (some ⟨h2_, 0, none⟩) n k2_] 38 ∧ Blk wr oo #[.slice (some ⟨g0, 0, none⟩) n k0, .slice (some ⟨g1, 0, none⟩) n k1, .slice (some ⟨g2, 0, none⟩) n k2] 38 ∧ Below w.heap.size w wr) (fun xv _ => m - (intOf xv).toNat)
    case atStart => exact ⟨0, A0, ea, Nat.zero_le _, rfl, S0.out, by rw [Nat.zero_add]; exact AE.out, G0, w0, w1, w2, y1, y2, D, H, O, HB.out⟩
    clear AE S0 G0 w0 w1 w2 y1 y2 D H O HB
    obtain ⟨p, A0, ea, hp, rfl, fr0, ae, G0, w0, w1, w2, y1, y2, D, H, O, hb_⟩ := hrel
    have S0 := Lib.hid fr0; have AE := Lib.hid ae; have HB := Lib.hid hb_; clear fr0 ae hb_
    have T3 := T.later HB.out
    obtain ⟨Tc, Tf⟩ := T3.open
    by_cases hlp : p < m
    · skip
      obtain ⟨j, hj⟩ : ∃ j, p + m * q = j := ⟨_, rfl⟩
      have hjn : j < n := by rw [hn.out, ← hj]; exact place_lt hlp hlq
      have HJ := Lib.hid (place_here hlp hlq hj)
      replace AE : Hid (Ag n ea (mix j (stE wb m k (nums xs) (nums ys) (nums e) (nums x) (nums y)) (nums e))) := Lib.hid (by rw [← hj]; exact AE.out)
      have HPJ := Lib.hid hj; clear hj
      have HNJ : Hid (p + 1 + m * q = j + 1) := Lib.hid (by have := HPJ.out; omega)
      have jn : (j : Int) < (n : Int) := by omega
      have ya0 := ra.later HB.out; have yb0 := rb.later HB.out
      obtain ⟨Oc, Of⟩ := O.open
      go_wp2_with fail
      clear Tc Tf
      refine wp_region_rel_tail (Grows wr) (fun f _ v => if f = 129 then v = .int .i64 (j : Int) else ∃ z, v = .float .f32 z ∧ canon .f32 z = restE wb m k (nums xs) (nums ys) (nums e) (nums (firsts xa n)) (nums (firsts ya n)) j ∧ z < 2 ^ 32) 11 (by kernel_rfl) (by kernel_rfl) (Grows.drew _) ?_
      simp only [List.take_succ_cons, List.take_zero, List.drop_succ_cons, List.drop_zero]
      (refine wpRel_plain rfl rfl ?_; intro K hK; go_big_quiet_op; (first | go_big_quiet_on | (refine ⟨_, fun _ _ => rfl, ?_⟩; go_big_quiet_on)))
      (refine wpRel_load rfl _ rfl (.slice (some ⟨g0, 0, none⟩) n k0) (load_cell aslc (Oc 0)) ?_; simp only [Act.put, List.setIfInBounds_toArray, List.set_cons_zero, List.set_cons_succ, List.getElem_toArray, List.getElem_cons_zero, List.getElem_cons_succ])
      (refine wpRel_plain rfl rfl ?_; intro K hK; go_big_quiet_op; (first | go_big_quiet_on | (refine ⟨_, fun _ _ => rfl, ?_⟩; go_big_quiet_on)))
      (refine wpRel_plain rfl rfl ?_; intro K hK; go_big_quiet_op; (first | go_big_quiet_on | (refine ⟨_, fun _ _ => rfl, ?_⟩; go_big_quiet_on)))
      (refine wpRel_plain rfl rfl ?_; intro K hK; go_big_quiet_op; (first | go_big_quiet_on | (refine ⟨_, fun _ _ => rfl, ?_⟩; go_big_quiet_on)))
      (refine wpRel_callC rfl 129 _ rfl Try.func129 (by kernel_rfl) (by kernel_rfl) [.pointer (some ⟨g, 0, none⟩), .int .i64 (p : Int), .int .i64 (q : Int)] rfl (fun w' hw' => (specAtV g m k j _ _ wb _ _ w' (T3.later hw') h1 h2 h3 h4 (by omega) (by omega) (by omega) (by omega) HJ).mono (by rintro e w'' ⟨rfl, q9⟩; exact ⟨_, rfl, by rw [if_pos rfl], Grows.next hw' q9⟩)) ?_; intro v hv; rw [if_pos rfl] at hv; obtain rfl := hv; simp only [Act.put, List.setIfInBounds_toArray, List.set_cons_zero, List.set_cons_succ, List.getElem_toArray, List.getElem_cons_zero, List.getElem_cons_succ])
      (refine wpRel_plain rfl rfl ?_; intro K hK; go_big_quiet_op; (first | go_big_quiet_on | (refine ⟨_, fun _ _ => rfl, ?_⟩; go_big_quiet_on)))
      (refine wpRel_plain rfl rfl ?_; intro K hK; go_big_quiet_op; (first | go_big_quiet_on | (refine ⟨_, fun _ _ => rfl, ?_⟩; go_big_quiet_on)))
      (refine wpRel_plain rfl rfl ?_; intro K hK; go_big_quiet_op; (first | go_big_quiet_on | (refine ⟨_, fun _ _ => rfl, ?_⟩; go_big_quiet_on)))
      (refine wpRel_callC rfl 128 _ rfl Try.func128 (by kernel_rfl) (by kernel_rfl) [.pointer (some ⟨g, 0, none⟩), .pointer (some ⟨hb, 0, none⟩), .int .i64 (p : Int), .int .i64 (q : Int)] rfl (fun w' hw' => (specRest g hb m k n p q j ba oa ca bb ob cb h0_ h1_ h2_ 0 0 0 k0_ k1_ k2_ wb xs ys e (firsts xa n) (firsts ya n) w' (T3.later hw') (HHH.out _ (H.later hw')) (ya0.later hw') (yb0.later hw') LA.out LB.out (w0.later hw').row (w1.later hw').row (w2.later hw').row L0.out (firsts_length _ _) (firsts_length _ _) q0 h1 h2 h3 h4 hlp hlq HPJ.out hn).mono (by rintro e w'' ⟨z, rfl, hc, hz, q9⟩; exact ⟨_, rfl, by rw [if_neg (by decide)]; exact ⟨z, rfl, hc, hz⟩, Grows.next hw' q9⟩)) ?_; intro v hv; rw [if_neg (by decide)] at hv; obtain ⟨z, rfl, hc, hb_z⟩ := hv; have H_z := Lib.hid hc; clear hc; simp only [Act.put, List.setIfInBounds_toArray, List.set_cons_zero, List.set_cons_succ, List.getElem_toArray, List.getElem_cons_zero, List.getElem_cons_succ])
      (refine wpRel_plain rfl rfl ?_; intro K hK; go_big_quiet_op; (first | go_big_quiet_on | (refine ⟨_, fun _ _ => rfl, ?_⟩; go_big_quiet_on)))
      refine wpRel_nil ?_
      intro V2 b
      replace b : Below wr.heap.size wr V2 := b
      clear Oc Of T3 ya0 yb0
      replace G0 := G0.later b; replace D := D.later b; replace H := H.later b; replace O := O.later b; replace w0 := w0.later b; replace w1 := w1.later b; replace w2 := w2.later b; replace y1 := y1.later b; replace y2 := y2.later b
      replace HB := Lib.hid (HB.out.trans (b.mono HB.out.size)); clear b
      have HZ : Hid (canon .f32 z = stE wb m k (nums xs) (nums ys) (nums e) (nums x) (nums y) j) := Lib.hid (H_z.out.trans (restE_congr (by omega) (by omega) hn.out (fun _ _ => rfl) (lag_firsts AX.out).2.2 (lag_firsts AY.out).2.2 hjn))
      obtain ⟨gc, gfz⟩ := G0.open
      have gc2 : V2.cell? ⟨g0, j, none⟩ = some (.float .f32 (ea j)) := (gc j).trans (S0.out j hjn)
      have gf2 := gfz j
      clear gc gfz
      go_upto_region 8 with (fail)
      replace G0 := G0.set j (.float .f32 z)
      replace D := D.setOther (p := ⟨g0, j, none⟩) (by simp; omega) (.float .f32 z)
      replace H := H.setOther (p := ⟨g0, j, none⟩) (by simp; omega) (.float .f32 z)
      replace O := O.setOther (p := ⟨g0, j, none⟩) (by simp; omega) (.float .f32 z)
      replace w0 := w0.set (p := ⟨g0, j, none⟩) (ne_block (h := g0) (by omega)) (.float .f32 z)
      replace w1 := w1.set (p := ⟨g0, j, none⟩) (ne_block (h := g0) (by omega)) (.float .f32 z)
      replace w2 := w2.set (p := ⟨g0, j, none⟩) (ne_block (h := g0) (by omega)) (.float .f32 z)
      replace y1 := y1.set (p := ⟨g0, j, none⟩) (ne_block (h := g0) (by omega)) (.float .f32 z)
      replace y2 := y2.set (p := ⟨g0, j, none⟩) (ne_block (h := g0) (by omega)) (.float .f32 z)
      replace HB := Lib.hid (HB.out.setCell (p := ⟨g0, j, none⟩) (show w.heap.size ≤ g0 by omega) (.float .f32 z))
      replace S0 := Lib.hid (fr_set (v := z) S0.out hjn)
      replace AE := Lib.hid (ag_put AE.out HZ.out hb_z)
      clear gc2 gf2
      generalize (V2.setCell ⟨g0, j, none⟩ (.float .f32 z)) = V3 at *
      go_wp2
      go_roundw
      case rel => exact ⟨p + 1, _, _, by omega, by go_num, S0.out, by rw [HNJ.out]; exact AE.out, G0, w0, w1, w2, y1, y2, D, H, O, HB.out⟩
      case measure => simp [intOf]; omega
    · skip
      obtain rfl : p = m := by omega
      have HPM : Hid (p * (q + 1) = p + p * q) := Lib.hid (by rw [Nat.mul_succ]; omega)
      go_wp2
      go_roundw
      case rel => exact ⟨q + 1, _, _, by omega, by go_num, S0.out, by rw [HPM.out]; exact AE.out, G0, w0, w1, w2, y1, y2, D, H, O, HB.out⟩
      case measure => simp [intOf]; omega
  · skip
    obtain rfl : q = k := by omega
    replace AE := Lib.hid (ag_all (by have := AE.out; rw [← hn.out] at this; exact this))
    obtain ⟨Oc, Of⟩ := O.open; obtain ⟨Dc, Df⟩ := D.open
    go_wp2
    refine bodyPost_ret (v := .agg #[.slice (some ⟨g0, 0, none⟩) n k0, .slice (some ⟨g1, 0, none⟩) n k1, .slice (some ⟨g2, 0, none⟩) n k2]) (by simp [results, Try.results89, go_sem, Dc]) rfl ⟨g0, g1, g2, k0, k1, k2, ea, xa, ya, rfl, ?_, ?_, ?_, AE.out, AX.out, AY.out, ?_⟩
    exact (OwnV.set (OwnV.set (OwnV.set (fr_own G0 (show w.heap.size ≤ g0 by omega) S0.out) (p := ⟨w.heap.size, 0, none⟩) (ne_block (h := w.heap.size) (by omega)) _) (p := ⟨w.heap.size, 1, none⟩) (ne_block (h := w.heap.size) (by omega)) _) (p := ⟨w.heap.size, 2, none⟩) (ne_block (h := w.heap.size) (by omega)) _)
    exact (OwnV.set (OwnV.set (OwnV.set y1 (p := ⟨w.heap.size, 0, none⟩) (ne_block (h := w.heap.size) (by omega)) _) (p := ⟨w.heap.size, 1, none⟩) (ne_block (h := w.heap.size) (by omega)) _) (p := ⟨w.heap.size, 2, none⟩) (ne_block (h := w.heap.size) (by omega)) _)
    exact (OwnV.set (OwnV.set (OwnV.set y2 (p := ⟨w.heap.size, 0, none⟩) (ne_block (h := w.heap.size) (by omega)) _) (p := ⟨w.heap.size, 1, none⟩) (ne_block (h := w.heap.size) (by omega)) _) (p := ⟨w.heap.size, 2, none⟩) (ne_block (h := w.heap.size) (by omega)) _)
    exact (((HB.out.setCell (p := ⟨w.heap.size, 0, none⟩) (Nat.le_refl _) _).setCell (p := ⟨w.heap.size, 1, none⟩) (Nat.le_refl _) _).setCell (p := ⟨w.heap.size, 2, none⟩) (Nat.le_refl _) _)

end Go.Proofs.Ytedfbaeajofmnaa

end

section

namespace Go.Proofs.Ytedfbaeajofmnaa
open Go Ieee Go.RowKit
set_option linter.unusedVariables false

/-- the model hands back a field with these numbers, in memory of its own -/
def RetT (w : World) (n : Nat) (t : Trip) (r : Ending) (w' : World) : Prop := ∃ (g0 g1 g2 k0 k1 k2 : Nat) (e x y : List Nat), r = .returned (.agg #[.slice (some ⟨g0, 0, none⟩) n k0, .slice (some ⟨g1, 0, none⟩) n k1, .slice (some ⟨g2, 0, none⟩) n k2]) ∧ OwnV w' w.heap.size (some ⟨g0, 0, none⟩) (fvals e) ∧ OwnV w' w.heap.size (some ⟨g1, 0, none⟩) (fvals x) ∧ OwnV w' w.heap.size (some ⟨g2, 0, none⟩) (fvals y) ∧ TAg n e x y t ∧ Below w.heap.size w w'

theorem specStepT (g gf m k n ba oa ca bb ob cb b0 b1 b2 o0 o1 o2 c0 c1 c2 : Nat) (wb : Bool) (xs ys e x y : List Nat) (t : Trip) (w : World) (T : Blk w g #[.int .i64 (m : Int), .int .i64 (k : Int), .bool wb, .slice (some ⟨ba, oa, none⟩) xs.length ca, .slice (some ⟨bb, ob, none⟩) ys.length cb] 29) (Fd : Blk w gf #[.slice (some ⟨b0, o0, none⟩) e.length c0, .slice (some ⟨b1, o1, none⟩) x.length c1, .slice (some ⟨b2, o2, none⟩) y.length c2] 38) (ra : RowV w (some ⟨ba, oa, none⟩) (fvals xs)) (rb : RowV w (some ⟨bb, ob, none⟩) (fvals ys)) (la : xs.length = n) (lb : ys.length = n) (r0 : RowV w (some ⟨b0, o0, none⟩) (fvals e)) (r1 : RowV w (some ⟨b1, o1, none⟩) (fvals x)) (r2 : RowV w (some ⟨b2, o2, none⟩) (fvals y)) (ht : TAg n e x y t) (h1 : 3 ≤ m) (h2 : m ≤ 16) (h3 : 3 ≤ k) (h4 : k ≤ 16) (hn : Hid (n = m * k)) :
    Calls Try.prog 89 #[.pointer (some ⟨g, 0, none⟩), .pointer (some ⟨gf, 0, none⟩)] w (RetT w n (stT wb m k (nums xs) (nums ys) t)) :=
  (specStep g gf m k n ba oa ca bb ob cb b0 b1 b2 o0 o1 o2 c0 c1 c2 wb xs ys e x y w T Fd ra rb la lb r0 r1 r2 ht.e.1 ht.x.1 ht.y.1 ht.e.2.1 ht.x.2.1 ht.y.2.1 h1 h2 h3 h4 hn).mono fun r w' ⟨g0, g1, g2, k0, k1, k2, ea, xa, ya, hr, p0, p1, p2, ae, ax, ay, b⟩ => ⟨g0, g1, g2, k0, k1, k2, _, _, _, hr, p0, p1, p2, tag_step (by omega) (by omega) hn.out ht ae ax ay, b⟩

end Go.Proofs.Ytedfbaeajofmnaa

end
