/- Several texts in one: facts on floats, lists, memory and the functions that the theorems beside this text use. Conditions: none beyond those of each theorem. -/
import Derived.Test.YtedfbaeajofmnabBu21
import Derived.Test.YtedfbaeajofmnabBu18
import Derived.Test.YtedfbaeajofmnabBu19
import Derived.Test.YtedfbaeajofmnabBu2

set_option linter.unusedVariables false

section

namespace Go.Proofs.Ytedfbaeajofmnab
open Go Ieee Go.RowKit
set_option linter.unusedVariables false

/-- a list of these numbers -/
def oL (wd hi : Int) (C : Nat → Option Nat) : List (Option Nat) := (List.range (wd * hi).toNat).map C
def runL (wd hi : Int) (wb : Bool) (xs ys e x y : List Nat) (steps : Int) : Trip := runT wb wd.toNat hi.toNat (nums xs) (nums ys) ⟨nums e, nums x, nums y⟩ steps.toNat
def halfL (wd hi : Int) (wb : Bool) (e x y : List Nat) : Trip := ⟨nums e, halfX wb wd.toNat hi.toNat (nums e) (nums x), halfY wb wd.toNat hi.toNat (nums e) (nums y)⟩
def isRunB (steps : Int) : Bool := decide (0 ≤ steps ∧ steps ≤ 64)
def runB (wd hi : Int) (wb : Bool) (xs ys e x y : List Nat) (steps : Int) : Bool := fieldB wd hi wb xs ys e x y && isRunB steps

theorem is_lag {n : Nat} {l : List Nat} {C : Nat → Option Nat} (h : LAg n l C) (hn : n ≤ 256) : Is l ((List.range n).map C) := by
  refine ⟨?_, h.2.1, by rw [h.1]; exact hn⟩
  unfold cl
  apply List.ext_getElem
  · rw [List.length_map, h.1]; simp
  · intro i h1 h2
    rw [List.getElem_map, List.getElem_map, List.getElem_range, ← h.2.2 i (by simpa using h2)]
    unfold nums
    rw [getD_get (by simpa using h1)]

theorem oL_nat (m k : Nat) (C : Nat → Option Nat) : oL (m : Int) (k : Int) C = (List.range (m * k)).map C := by
  unfold oL; rw [← Int.natCast_mul, Int.toNat_natCast]

theorem own_run {w w' : World} {m k n : Nat} {t : Trip} {g0 g1 g2 : Nat} {e x y : List Nat} (hn : Hid (n = m * k)) (h2 : n ≤ 256) (ht : TAg n e x y t) (o0 : OwnV w' w.heap.size (some ⟨g0, 0, none⟩) (fvals e)) (o1 : OwnV w' w.heap.size (some ⟨g1, 0, none⟩) (fvals x)) (o2 : OwnV w' w.heap.size (some ⟨g2, 0, none⟩) (fvals y)) (b : Below w.heap.size w w') :
    OwnField w w' (oL (m : Int) (k : Int) t.e) (oL (m : Int) (k : Int) t.x) (oL (m : Int) (k : Int) t.y) (some ⟨g0, 0, none⟩) (some ⟨g1, 0, none⟩) (some ⟨g2, 0, none⟩) e x y := by
  rw [oL_nat, oL_nat, oL_nat, ← hn.out]
  exact ⟨o0, o1, o2, is_lag ht.e h2, is_lag ht.x h2, is_lag ht.y h2, b⟩

/-- what a field of a sheet has -/
theorem field_nat {wd hi : Int} {wb : Bool} {xs ys e x y : List Nat} (h : fieldB wd hi wb xs ys e x y = true) : ∃ m k n : Nat, wd = (m : Int) ∧ hi = (k : Int) ∧ n = m * k ∧ 3 ≤ m ∧ m ≤ 16 ∧ 3 ≤ k ∧ k ≤ 16 ∧ xs.length = n ∧ ys.length = n ∧ e.length = n ∧ x.length = n ∧ y.length = n ∧ 0 < n ∧ n ≤ 256 := by
  obtain ⟨p1, _, l0, l1, l2⟩ := field_parts h
  obtain ⟨s1, s2, s3, s4, t1, t2⟩ := sides_mul (valid_sides p1)
  obtain ⟨m, rfl⟩ := Int.eq_ofNat_of_zero_le (show 0 ≤ wd by omega)
  obtain ⟨k, rfl⟩ := Int.eq_ofNat_of_zero_le (show 0 ≤ hi by omega)
  have hv : (xs.length : Int) = (m : Int) * (k : Int) ∧ (ys.length : Int) = (m : Int) * (k : Int) := by
    unfold validB at p1
    simp only [Bool.and_eq_true, decide_eq_true_eq] at p1
    exact ⟨p1.2.1, p1.2.2.1⟩
  rw [← Int.natCast_mul] at hv l0 l1 l2 t1 t2
  exact ⟨m, k, m * k, rfl, rfl, rfl, by omega, by omega, by omega, by omega, by omega, by omega, by omega, by omega, by omega, by omega, by omega⟩

theorem row_at {w : World} {a : Option Addr} {xs : List Nat} (h : RowV w a (fvals xs)) (hp : 0 < xs.length) : ∃ b o, a = some ⟨b, o, none⟩ := by
  obtain ⟨b, o, rfl, _⟩ := h 0 _ (fvals_get hp)
  exact ⟨b, o, rfl⟩

theorem specHalfT (g gf m k n b0 b1 b2 o0 o1 o2 c0 c1 c2 : Nat) (wb : Bool) (v3 v4 : Value) (e x y : List Nat) (w : World) (T : Blk w g #[.int .i64 (m : Int), .int .i64 (k : Int), .bool wb, v3, v4] 32) (Fd : Blk w gf #[.slice (some ⟨b0, o0, none⟩) e.length c0, .slice (some ⟨b1, o1, none⟩) x.length c1, .slice (some ⟨b2, o2, none⟩) y.length c2] 29) (r0 : RowV w (some ⟨b0, o0, none⟩) (fvals e)) (r1 : RowV w (some ⟨b1, o1, none⟩) (fvals x)) (r2 : RowV w (some ⟨b2, o2, none⟩) (fvals y)) (l0 : e.length = n) (l1 : x.length = n) (l2 : y.length = n) (q0 : ∀ z ∈ e, z < 2 ^ 32) (q1 : ∀ z ∈ x, z < 2 ^ 32) (q2 : ∀ z ∈ y, z < 2 ^ 32) (h1 : 3 ≤ m) (h2 : m ≤ 16) (h3 : 3 ≤ k) (h4 : k ≤ 16) (hn : Hid (n = m * k)) :
    Calls Try.prog 38 #[.pointer (some ⟨g, 0, none⟩), .pointer (some ⟨gf, 0, none⟩)] w (RetT w n ⟨nums e, halfX wb m k (nums e) (nums x), halfY wb m k (nums e) (nums y)⟩) :=
  (specHalf g gf m k n b0 b1 b2 o0 o1 o2 c0 c1 c2 wb v3 v4 e x y w T Fd r0 r1 r2 l0 l1 l2 q1 q2 h1 h2 h3 h4 hn).mono fun r w' ⟨g0, g1, g2, k0, k1, k2, xa, ya, hr, p0, p1, p2, ax, ay, _, _, b⟩ => ⟨g0, g1, g2, k0, k1, k2, _, _, _, hr, p0, p1, p2, ⟨lag_self l0 q0, lag_firsts ax, lag_firsts ay⟩, b⟩

set_option maxHeartbeats 8000000 in
set_option maxRecDepth 100000 in
theorem specHalfStepL (wd hi : Int) (wb : Bool) (a b : Option Addr) (ca cb : Nat) (xs ys : List Nat) (a0 a1 a2 : Option Addr) (c0 c1 c2 : Nat) (e x y : List Nat) (w : World) (ha : RowV w a (fvals xs)) (hb : RowV w b (fvals ys)) (qa : ∀ z ∈ xs, z < 2 ^ 32) (qb : ∀ z ∈ ys, z < 2 ^ 32) (hx : xs.length ≤ maxLen) (hy : ys.length ≤ maxLen) (h0 : RowV w a0 (fvals e)) (h1 : RowV w a1 (fvals x)) (h2 : RowV w a2 (fvals y)) (q0 : ∀ z ∈ e, z < 2 ^ 32) (q1 : ∀ z ∈ x, z < 2 ^ 32) (q2 : ∀ z ∈ y, z < 2 ^ 32) (m0 : e.length ≤ maxLen) (m1 : x.length ≤ maxLen) (m2 : y.length ≤ maxLen) (hc0 : c0 = e.length := by rfl) (hc1 : c1 = x.length := by rfl) (hc2 : c2 = y.length := by rfl) :
    Calls Try.prog 12 #[.agg #[.int .i64 wd, .int .i64 hi, .bool wb, .slice a xs.length ca, .slice b ys.length cb], .agg #[.slice a0 e.length c0, .slice a1 x.length c1, .slice a2 y.length c2]] w (OwnO w (fieldB wd hi wb xs ys e x y) (oL wd hi (halfL wd hi wb e x y).e) (oL wd hi (halfL wd hi wb e x y).x) (oL wd hi (halfL wd hi wb e x y).y)) := by
  have HC0 := Lib.hid hc0; have HC1 := Lib.hid hc1; have HC2 := Lib.hid hc2; clear hc0 hc1 hc2
  rcases hfv : fieldB wd hi wb xs ys e x y with _ | _
  · skip
    have H_fb := Lib.hid hfv; clear hfv
    have X := Blk.new w #[.int .i64 wd, .int .i64 hi, .bool wb, .slice a xs.length ca, .slice b ys.length cb] 32
    have Y := Blk.new1 w (.cells #[.int .i64 wd, .int .i64 hi, .bool wb, .slice a xs.length ca, .slice b ys.length cb] 32) #[.slice a0 e.length c0, .slice a1 x.length c1, .slice a2 y.length c2] 29
    replace X := X.alloc (.cells #[.slice a0 e.length c0, .slice a1 x.length c1, .slice a2 y.length c2] 29)
    have R := Blk.new2 w (.cells #[.int .i64 wd, .int .i64 hi, .bool wb, .slice a xs.length ca, .slice b ys.length cb] 32) (.cells #[.slice a0 e.length c0, .slice a1 x.length c1, .slice a2 y.length c2] 29) #[.slice none 0 0, .slice none 0 0, .slice none 0 0] 29
    replace X := X.alloc (.cells #[.slice none 0 0, .slice none 0 0, .slice none 0 0] 29)
    replace Y := Y.alloc (.cells #[.slice none 0 0, .slice none 0 0, .slice none 0 0] 29)
    have HB : Hid (Below w.heap.size w (((w.alloc (.cells #[.int .i64 wd, .int .i64 hi, .bool wb, .slice a xs.length ca, .slice b ys.length cb] 32)).alloc (.cells #[.slice a0 e.length c0, .slice a1 x.length c1, .slice a2 y.length c2] 29)).alloc (.cells #[.slice none 0 0, .slice none 0 0, .slice none 0 0] 29))) := Lib.hid ((((Below.refl w.heap.size w).alloc (by simp <;> omega) _).alloc (by simp <;> omega) _).alloc (by simp <;> omega) _)
    go_enter Try.func12, Try.ntmps12
    go_wp2_with fail
    generalize (((w.alloc (.cells #[.int .i64 wd, .int .i64 hi, .bool wb, .slice a xs.length ca, .slice b ys.length cb] 32)).alloc (.cells #[.slice a0 e.length c0, .slice a1 x.length c1, .slice a2 y.length c2] 29)).alloc (.cells #[.slice none 0 0, .slice none 0 0, .slice none 0 0] 29)) = u1 at *
    refine (specBoth _ _ _ _ _ _ _ _ _ _ _ _ _ _ _ _ _ _ _ _ _ X Y (ha.later HB.out) (hb.later HB.out) hx hy (h0.later HB.out) (h1.later HB.out) (h2.later HB.out) m0 m1 m2).mono ?_
    rintro r u2 ⟨rfl, nq, hw⟩
    have q : Below u1.heap.size u1 u2 := by rw [hw]; exact below_drewN (Below.refl _ _) _
    clear hw
    replace X := X.later q
    replace Y := Y.later q
    replace R := R.later q
    replace HB := Lib.hid (HB.out.trans (q.mono HB.out.size))
    clear q
    rw [H_fb.out]
    obtain ⟨Rc, Rf⟩ := R.open
    go_wp2
    refine bodyPost_ret (v := .tuple #[.agg #[.slice none 0 0, .slice none 0 0, .slice none 0 0], .bool false]) (by simp [results, Try.results12, go_sem, Rc]) rfl ⟨none, none, none, 0, 0, 0, [], [], [], rfl, OwnField.none (((HB.out.setCell (p := ⟨w.heap.size + 1 + 1, 0, none⟩) (by first | omega | (simp <;> omega)) _).setCell (p := ⟨w.heap.size + 1 + 1, 1, none⟩) (by first | omega | (simp <;> omega)) _).setCell (p := ⟨w.heap.size + 1 + 1, 2, none⟩) (by first | omega | (simp <;> omega)) _)⟩
  obtain ⟨m, k, n, rfl, rfl, hn, s1, s2, s3, s4, la, lb, l0, l1, l2, np, n256⟩ := field_nat hfv
  obtain ⟨b0, o0, rfl⟩ := row_at h0 (show 0 < e.length by omega)
  obtain ⟨b1, o1, rfl⟩ := row_at h1 (show 0 < x.length by omega)
  obtain ⟨b2, o2, rfl⟩ := row_at h2 (show 0 < y.length by omega)
  obtain ⟨ba, oa, rfl⟩ := row_at ha (show 0 < xs.length by omega)
  obtain ⟨bb, ob, rfl⟩ := row_at hb (show 0 < ys.length by omega)
  have HN := Lib.hid hn; have LA := Lib.hid la; have LB := Lib.hid lb; have L0 := Lib.hid l0; have L1 := Lib.hid l1; have L2 := Lib.hid l2; clear hn la lb l0 l1 l2
  have H_fb := Lib.hid hfv; clear hfv
  have X := Blk.new w #[.int .i64 (m : Int), .int .i64 (k : Int), .bool wb, .slice (some ⟨ba, oa, none⟩) xs.length ca, .slice (some ⟨bb, ob, none⟩) ys.length cb] 32
  have Y := Blk.new1 w (.cells #[.int .i64 (m : Int), .int .i64 (k : Int), .bool wb, .slice (some ⟨ba, oa, none⟩) xs.length ca, .slice (some ⟨bb, ob, none⟩) ys.length cb] 32) #[.slice (some ⟨b0, o0, none⟩) e.length c0, .slice (some ⟨b1, o1, none⟩) x.length c1, .slice (some ⟨b2, o2, none⟩) y.length c2] 29
  replace X := X.alloc (.cells #[.slice (some ⟨b0, o0, none⟩) e.length c0, .slice (some ⟨b1, o1, none⟩) x.length c1, .slice (some ⟨b2, o2, none⟩) y.length c2] 29)
  have R := Blk.new2 w (.cells #[.int .i64 (m : Int), .int .i64 (k : Int), .bool wb, .slice (some ⟨ba, oa, none⟩) xs.length ca, .slice (some ⟨bb, ob, none⟩) ys.length cb] 32) (.cells #[.slice (some ⟨b0, o0, none⟩) e.length c0, .slice (some ⟨b1, o1, none⟩) x.length c1, .slice (some ⟨b2, o2, none⟩) y.length c2] 29) #[.slice none 0 0, .slice none 0 0, .slice none 0 0] 29
  replace X := X.alloc (.cells #[.slice none 0 0, .slice none 0 0, .slice none 0 0] 29)
  replace Y := Y.alloc (.cells #[.slice none 0 0, .slice none 0 0, .slice none 0 0] 29)
  have HB : Hid (Below w.heap.size w (((w.alloc (.cells #[.int .i64 (m : Int), .int .i64 (k : Int), .bool wb, .slice (some ⟨ba, oa, none⟩) xs.length ca, .slice (some ⟨bb, ob, none⟩) ys.length cb] 32)).alloc (.cells #[.slice (some ⟨b0, o0, none⟩) e.length c0, .slice (some ⟨b1, o1, none⟩) x.length c1, .slice (some ⟨b2, o2, none⟩) y.length c2] 29)).alloc (.cells #[.slice none 0 0, .slice none 0 0, .slice none 0 0] 29))) := Lib.hid ((((Below.refl w.heap.size w).alloc (by simp <;> omega) _).alloc (by simp <;> omega) _).alloc (by simp <;> omega) _)
  go_enter Try.func12, Try.ntmps12
  go_wp2_with fail
  generalize (((w.alloc (.cells #[.int .i64 (m : Int), .int .i64 (k : Int), .bool wb, .slice (some ⟨ba, oa, none⟩) xs.length ca, .slice (some ⟨bb, ob, none⟩) ys.length cb] 32)).alloc (.cells #[.slice (some ⟨b0, o0, none⟩) e.length c0, .slice (some ⟨b1, o1, none⟩) x.length c1, .slice (some ⟨b2, o2, none⟩) y.length c2] 29)).alloc (.cells #[.slice none 0 0, .slice none 0 0, .slice none 0 0] 29)) = u1 at *
  refine (specBoth _ _ _ _ _ _ _ _ _ _ _ _ _ _ _ _ _ _ _ _ _ X Y (ha.later HB.out) (hb.later HB.out) hx hy (h0.later HB.out) (h1.later HB.out) (h2.later HB.out) m0 m1 m2).mono ?_
  rintro r u2 ⟨rfl, nq, hw⟩
  have q : Below u1.heap.size u1 u2 := by rw [hw]; exact below_drewN (Below.refl _ _) _
  clear hw
  replace X := X.later q
  replace Y := Y.later q
  replace R := R.later q
  replace HB := Lib.hid (HB.out.trans (q.mono HB.out.size))
  clear q
  rw [H_fb.out]
  go_wp2_with fail
  refine (specHalfT w.heap.size (w.heap.size + 1) m k n b0 b1 b2 o0 o1 o2 c0 c1 c2 wb _ _ e x y _ X Y (h0.later HB.out) (h1.later HB.out) (h2.later HB.out) L0.out L1.out L2.out q0 q1 q2 s1 s2 s3 s4 HN).mono ?_
  rintro r u3 ⟨g0, g1, g2, k0, k1, k2, e', x', y', rfl, z0, z1, z2, ht, q⟩
  have szb := HB.out.size; have rlt := R.lt
  have zb0 := z0.bound g0 rfl; have zb1 := z1.bound g1 rfl; have zb2 := z2.bound g2 rfl
  replace X := X.later q
  replace Y := Y.later q
  replace R := R.later q
  replace HB := Lib.hid (HB.out.trans (q.mono HB.out.size))
  clear q
  have HT := Lib.hid ht; clear ht
  obtain ⟨Rc, Rf⟩ := R.open
  go_wp2
  refine bodyPost_ret (v := .tuple #[.agg #[.slice (some ⟨g0, 0, none⟩) n k0, .slice (some ⟨g1, 0, none⟩) n k1, .slice (some ⟨g2, 0, none⟩) n k2], .bool true]) (by simp [results, Try.results12, go_sem, Rc]) rfl ⟨some ⟨g0, 0, none⟩, some ⟨g1, 0, none⟩, some ⟨g2, 0, none⟩, k0, k1, k2, e', x', y', by rw [HT.out.e.1, HT.out.x.1, HT.out.y.1], own_run HN n256 HT.out ((((z0.lower (show w.heap.size ≤ _ by omega)).set (p := ⟨w.heap.size + 1 + 1, 0, none⟩) (ne_block (h := w.heap.size + 1 + 1) (by omega)) _).set (p := ⟨w.heap.size + 1 + 1, 1, none⟩) (ne_block (h := w.heap.size + 1 + 1) (by omega)) _).set (p := ⟨w.heap.size + 1 + 1, 2, none⟩) (ne_block (h := w.heap.size + 1 + 1) (by omega)) _) ((((z1.lower (show w.heap.size ≤ _ by omega)).set (p := ⟨w.heap.size + 1 + 1, 0, none⟩) (ne_block (h := w.heap.size + 1 + 1) (by omega)) _).set (p := ⟨w.heap.size + 1 + 1, 1, none⟩) (ne_block (h := w.heap.size + 1 + 1) (by omega)) _).set (p := ⟨w.heap.size + 1 + 1, 2, none⟩) (ne_block (h := w.heap.size + 1 + 1) (by omega)) _) ((((z2.lower (show w.heap.size ≤ _ by omega)).set (p := ⟨w.heap.size + 1 + 1, 0, none⟩) (ne_block (h := w.heap.size + 1 + 1) (by omega)) _).set (p := ⟨w.heap.size + 1 + 1, 1, none⟩) (ne_block (h := w.heap.size + 1 + 1) (by omega)) _).set (p := ⟨w.heap.size + 1 + 1, 2, none⟩) (ne_block (h := w.heap.size + 1 + 1) (by omega)) _) (((HB.out.setCell (p := ⟨w.heap.size + 1 + 1, 0, none⟩) (by first | omega | (simp <;> omega)) _).setCell (p := ⟨w.heap.size + 1 + 1, 1, none⟩) (by first | omega | (simp <;> omega)) _).setCell (p := ⟨w.heap.size + 1 + 1, 2, none⟩) (by first | omega | (simp <;> omega)) _)⟩

set_option maxHeartbeats 8000000 in
set_option maxRecDepth 100000 in
theorem specStepFieldL (wd hi : Int) (wb : Bool) (a b : Option Addr) (ca cb : Nat) (xs ys : List Nat) (a0 a1 a2 : Option Addr) (c0 c1 c2 : Nat) (e x y : List Nat) (w : World) (ha : RowV w a (fvals xs)) (hb : RowV w b (fvals ys)) (qa : ∀ z ∈ xs, z < 2 ^ 32) (qb : ∀ z ∈ ys, z < 2 ^ 32) (hx : xs.length ≤ maxLen) (hy : ys.length ≤ maxLen) (h0 : RowV w a0 (fvals e)) (h1 : RowV w a1 (fvals x)) (h2 : RowV w a2 (fvals y)) (q0 : ∀ z ∈ e, z < 2 ^ 32) (q1 : ∀ z ∈ x, z < 2 ^ 32) (q2 : ∀ z ∈ y, z < 2 ^ 32) (m0 : e.length ≤ maxLen) (m1 : x.length ≤ maxLen) (m2 : y.length ≤ maxLen) (hc0 : c0 = e.length := by rfl) (hc1 : c1 = x.length := by rfl) (hc2 : c2 = y.length := by rfl) :
    Calls Try.prog 21 #[.agg #[.int .i64 wd, .int .i64 hi, .bool wb, .slice a xs.length ca, .slice b ys.length cb], .agg #[.slice a0 e.length c0, .slice a1 x.length c1, .slice a2 y.length c2]] w (OwnO w (fieldB wd hi wb xs ys e x y) (oL wd hi (runL wd hi wb xs ys e x y 1).e) (oL wd hi (runL wd hi wb xs ys e x y 1).x) (oL wd hi (runL wd hi wb xs ys e x y 1).y)) := by
  have HC0 := Lib.hid hc0; have HC1 := Lib.hid hc1; have HC2 := Lib.hid hc2; clear hc0 hc1 hc2
  rcases hfv : fieldB wd hi wb xs ys e x y with _ | _
  · skip
    have H_fb := Lib.hid hfv; clear hfv
    have X := Blk.new w #[.int .i64 wd, .int .i64 hi, .bool wb, .slice a xs.length ca, .slice b ys.length cb] 32
    have Y := Blk.new1 w (.cells #[.int .i64 wd, .int .i64 hi, .bool wb, .slice a xs.length ca, .slice b ys.length cb] 32) #[.slice a0 e.length c0, .slice a1 x.length c1, .slice a2 y.length c2] 29
    replace X := X.alloc (.cells #[.slice a0 e.length c0, .slice a1 x.length c1, .slice a2 y.length c2] 29)
    have R := Blk.new2 w (.cells #[.int .i64 wd, .int .i64 hi, .bool wb, .slice a xs.length ca, .slice b ys.length cb] 32) (.cells #[.slice a0 e.length c0, .slice a1 x.length c1, .slice a2 y.length c2] 29) #[.slice none 0 0, .slice none 0 0, .slice none 0 0] 29
    replace X := X.alloc (.cells #[.slice none 0 0, .slice none 0 0, .slice none 0 0] 29)
    replace Y := Y.alloc (.cells #[.slice none 0 0, .slice none 0 0, .slice none 0 0] 29)
    have HB : Hid (Below w.heap.size w (((w.alloc (.cells #[.int .i64 wd, .int .i64 hi, .bool wb, .slice a xs.length ca, .slice b ys.length cb] 32)).alloc (.cells #[.slice a0 e.length c0, .slice a1 x.length c1, .slice a2 y.length c2] 29)).alloc (.cells #[.slice none 0 0, .slice none 0 0, .slice none 0 0] 29))) := Lib.hid ((((Below.refl w.heap.size w).alloc (by simp <;> omega) _).alloc (by simp <;> omega) _).alloc (by simp <;> omega) _)
    go_enter Try.func21, Try.ntmps21
    go_wp2_with fail
    generalize (((w.alloc (.cells #[.int .i64 wd, .int .i64 hi, .bool wb, .slice a xs.length ca, .slice b ys.length cb] 32)).alloc (.cells #[.slice a0 e.length c0, .slice a1 x.length c1, .slice a2 y.length c2] 29)).alloc (.cells #[.slice none 0 0, .slice none 0 0, .slice none 0 0] 29)) = u1 at *
    refine (specBoth _ _ _ _ _ _ _ _ _ _ _ _ _ _ _ _ _ _ _ _ _ X Y (ha.later HB.out) (hb.later HB.out) hx hy (h0.later HB.out) (h1.later HB.out) (h2.later HB.out) m0 m1 m2).mono ?_
    rintro r u2 ⟨rfl, nq, hw⟩
    have q : Below u1.heap.size u1 u2 := by rw [hw]; exact below_drewN (Below.refl _ _) _
    clear hw
    replace X := X.later q
    replace Y := Y.later q
    replace R := R.later q
    replace HB := Lib.hid (HB.out.trans (q.mono HB.out.size))
    clear q
    rw [H_fb.out]
    obtain ⟨Rc, Rf⟩ := R.open
    go_wp2
    refine bodyPost_ret (v := .tuple #[.agg #[.slice none 0 0, .slice none 0 0, .slice none 0 0], .bool false]) (by simp [results, Try.results21, go_sem, Rc]) rfl ⟨none, none, none, 0, 0, 0, [], [], [], rfl, OwnField.none (((HB.out.setCell (p := ⟨w.heap.size + 1 + 1, 0, none⟩) (by first | omega | (simp <;> omega)) _).setCell (p := ⟨w.heap.size + 1 + 1, 1, none⟩) (by first | omega | (simp <;> omega)) _).setCell (p := ⟨w.heap.size + 1 + 1, 2, none⟩) (by first | omega | (simp <;> omega)) _)⟩
  obtain ⟨m, k, n, rfl, rfl, hn, s1, s2, s3, s4, la, lb, l0, l1, l2, np, n256⟩ := field_nat hfv
  obtain ⟨b0, o0, rfl⟩ := row_at h0 (show 0 < e.length by omega)
  obtain ⟨b1, o1, rfl⟩ := row_at h1 (show 0 < x.length by omega)
  obtain ⟨b2, o2, rfl⟩ := row_at h2 (show 0 < y.length by omega)
  obtain ⟨ba, oa, rfl⟩ := row_at ha (show 0 < xs.length by omega)
  obtain ⟨bb, ob, rfl⟩ := row_at hb (show 0 < ys.length by omega)
  have HN := Lib.hid hn; have LA := Lib.hid la; have LB := Lib.hid lb; have L0 := Lib.hid l0; have L1 := Lib.hid l1; have L2 := Lib.hid l2; clear hn la lb l0 l1 l2
  have H_fb := Lib.hid hfv; clear hfv
  have X := Blk.new w #[.int .i64 (m : Int), .int .i64 (k : Int), .bool wb, .slice (some ⟨ba, oa, none⟩) xs.length ca, .slice (some ⟨bb, ob, none⟩) ys.length cb] 32
  have Y := Blk.new1 w (.cells #[.int .i64 (m : Int), .int .i64 (k : Int), .bool wb, .slice (some ⟨ba, oa, none⟩) xs.length ca, .slice (some ⟨bb, ob, none⟩) ys.length cb] 32) #[.slice (some ⟨b0, o0, none⟩) e.length c0, .slice (some ⟨b1, o1, none⟩) x.length c1, .slice (some ⟨b2, o2, none⟩) y.length c2] 29
  replace X := X.alloc (.cells #[.slice (some ⟨b0, o0, none⟩) e.length c0, .slice (some ⟨b1, o1, none⟩) x.length c1, .slice (some ⟨b2, o2, none⟩) y.length c2] 29)
  have R := Blk.new2 w (.cells #[.int .i64 (m : Int), .int .i64 (k : Int), .bool wb, .slice (some ⟨ba, oa, none⟩) xs.length ca, .slice (some ⟨bb, ob, none⟩) ys.length cb] 32) (.cells #[.slice (some ⟨b0, o0, none⟩) e.length c0, .slice (some ⟨b1, o1, none⟩) x.length c1, .slice (some ⟨b2, o2, none⟩) y.length c2] 29) #[.slice none 0 0, .slice none 0 0, .slice none 0 0] 29
  replace X := X.alloc (.cells #[.slice none 0 0, .slice none 0 0, .slice none 0 0] 29)
  replace Y := Y.alloc (.cells #[.slice none 0 0, .slice none 0 0, .slice none 0 0] 29)
  have HB : Hid (Below w.heap.size w (((w.alloc (.cells #[.int .i64 (m : Int), .int .i64 (k : Int), .bool wb, .slice (some ⟨ba, oa, none⟩) xs.length ca, .slice (some ⟨bb, ob, none⟩) ys.length cb] 32)).alloc (.cells #[.slice (some ⟨b0, o0, none⟩) e.length c0, .slice (some ⟨b1, o1, none⟩) x.length c1, .slice (some ⟨b2, o2, none⟩) y.length c2] 29)).alloc (.cells #[.slice none 0 0, .slice none 0 0, .slice none 0 0] 29))) := Lib.hid ((((Below.refl w.heap.size w).alloc (by simp <;> omega) _).alloc (by simp <;> omega) _).alloc (by simp <;> omega) _)
  go_enter Try.func21, Try.ntmps21
  go_wp2_with fail
  generalize (((w.alloc (.cells #[.int .i64 (m : Int), .int .i64 (k : Int), .bool wb, .slice (some ⟨ba, oa, none⟩) xs.length ca, .slice (some ⟨bb, ob, none⟩) ys.length cb] 32)).alloc (.cells #[.slice (some ⟨b0, o0, none⟩) e.length c0, .slice (some ⟨b1, o1, none⟩) x.length c1, .slice (some ⟨b2, o2, none⟩) y.length c2] 29)).alloc (.cells #[.slice none 0 0, .slice none 0 0, .slice none 0 0] 29)) = u1 at *
  refine (specBoth _ _ _ _ _ _ _ _ _ _ _ _ _ _ _ _ _ _ _ _ _ X Y (ha.later HB.out) (hb.later HB.out) hx hy (h0.later HB.out) (h1.later HB.out) (h2.later HB.out) m0 m1 m2).mono ?_
  rintro r u2 ⟨rfl, nq, hw⟩
  have q : Below u1.heap.size u1 u2 := by rw [hw]; exact below_drewN (Below.refl _ _) _
  clear hw
  replace X := X.later q
  replace Y := Y.later q
  replace R := R.later q
  replace HB := Lib.hid (HB.out.trans (q.mono HB.out.size))
  clear q
  rw [H_fb.out]
  go_wp2_with fail
  refine (specStepT w.heap.size (w.heap.size + 1) m k n ba oa ca bb ob cb b0 b1 b2 o0 o1 o2 c0 c1 c2 wb xs ys e x y ⟨nums e, nums x, nums y⟩ _ X Y (ha.later HB.out) (hb.later HB.out) LA.out LB.out (h0.later HB.out) (h1.later HB.out) (h2.later HB.out) ⟨lag_self L0.out q0, lag_self L1.out q1, lag_self L2.out q2⟩ s1 s2 s3 s4 HN).mono ?_
  rintro r u3 ⟨g0, g1, g2, k0, k1, k2, e', x', y', rfl, z0, z1, z2, ht, q⟩
  have szb := HB.out.size; have rlt := R.lt
  have zb0 := z0.bound g0 rfl; have zb1 := z1.bound g1 rfl; have zb2 := z2.bound g2 rfl
  replace X := X.later q
  replace Y := Y.later q
  replace R := R.later q
  replace HB := Lib.hid (HB.out.trans (q.mono HB.out.size))
  clear q
  have HT := Lib.hid ht; clear ht
  obtain ⟨Rc, Rf⟩ := R.open
  go_wp2
  refine bodyPost_ret (v := .tuple #[.agg #[.slice (some ⟨g0, 0, none⟩) n k0, .slice (some ⟨g1, 0, none⟩) n k1, .slice (some ⟨g2, 0, none⟩) n k2], .bool true]) (by simp [results, Try.results21, go_sem, Rc]) rfl ⟨some ⟨g0, 0, none⟩, some ⟨g1, 0, none⟩, some ⟨g2, 0, none⟩, k0, k1, k2, e', x', y', by rw [HT.out.e.1, HT.out.x.1, HT.out.y.1], own_run HN n256 HT.out ((((z0.lower (show w.heap.size ≤ _ by omega)).set (p := ⟨w.heap.size + 1 + 1, 0, none⟩) (ne_block (h := w.heap.size + 1 + 1) (by omega)) _).set (p := ⟨w.heap.size + 1 + 1, 1, none⟩) (ne_block (h := w.heap.size + 1 + 1) (by omega)) _).set (p := ⟨w.heap.size + 1 + 1, 2, none⟩) (ne_block (h := w.heap.size + 1 + 1) (by omega)) _) ((((z1.lower (show w.heap.size ≤ _ by omega)).set (p := ⟨w.heap.size + 1 + 1, 0, none⟩) (ne_block (h := w.heap.size + 1 + 1) (by omega)) _).set (p := ⟨w.heap.size + 1 + 1, 1, none⟩) (ne_block (h := w.heap.size + 1 + 1) (by omega)) _).set (p := ⟨w.heap.size + 1 + 1, 2, none⟩) (ne_block (h := w.heap.size + 1 + 1) (by omega)) _) ((((z2.lower (show w.heap.size ≤ _ by omega)).set (p := ⟨w.heap.size + 1 + 1, 0, none⟩) (ne_block (h := w.heap.size + 1 + 1) (by omega)) _).set (p := ⟨w.heap.size + 1 + 1, 1, none⟩) (ne_block (h := w.heap.size + 1 + 1) (by omega)) _).set (p := ⟨w.heap.size + 1 + 1, 2, none⟩) (ne_block (h := w.heap.size + 1 + 1) (by omega)) _) (((HB.out.setCell (p := ⟨w.heap.size + 1 + 1, 0, none⟩) (by first | omega | (simp <;> omega)) _).setCell (p := ⟨w.heap.size + 1 + 1, 1, none⟩) (by first | omega | (simp <;> omega)) _).setCell (p := ⟨w.heap.size + 1 + 1, 2, none⟩) (by first | omega | (simp <;> omega)) _)⟩

set_option maxHeartbeats 8000000 in
set_option maxRecDepth 100000 in
theorem specRunFieldL (wd hi : Int) (wb : Bool) (a b : Option Addr) (ca cb : Nat) (xs ys : List Nat) (a0 a1 a2 : Option Addr) (c0 c1 c2 : Nat) (e x y : List Nat) (steps : Int) (w : World) (ha : RowV w a (fvals xs)) (hb : RowV w b (fvals ys)) (qa : ∀ z ∈ xs, z < 2 ^ 32) (qb : ∀ z ∈ ys, z < 2 ^ 32) (hx : xs.length ≤ maxLen) (hy : ys.length ≤ maxLen) (h0 : RowV w a0 (fvals e)) (h1 : RowV w a1 (fvals x)) (h2 : RowV w a2 (fvals y)) (q0 : ∀ z ∈ e, z < 2 ^ 32) (q1 : ∀ z ∈ x, z < 2 ^ 32) (q2 : ∀ z ∈ y, z < 2 ^ 32) (m0 : e.length ≤ maxLen) (m1 : x.length ≤ maxLen) (m2 : y.length ≤ maxLen) (ws : (Lit.int .i64 steps).wf = true) (hc0 : c0 = e.length := by rfl) (hc1 : c1 = x.length := by rfl) (hc2 : c2 = y.length := by rfl) :
    Calls Try.prog 23 #[.agg #[.int .i64 wd, .int .i64 hi, .bool wb, .slice a xs.length ca, .slice b ys.length cb], .agg #[.slice a0 e.length c0, .slice a1 x.length c1, .slice a2 y.length c2], .int .i64 steps] w (OwnO w (runB wd hi wb xs ys e x y steps) (oL wd hi (runL wd hi wb xs ys e x y steps).e) (oL wd hi (runL wd hi wb xs ys e x y steps).x) (oL wd hi (runL wd hi wb xs ys e x y steps).y)) := by
  have HC0 := Lib.hid hc0; have HC1 := Lib.hid hc1; have HC2 := Lib.hid hc2; clear hc0 hc1 hc2
  have HRB : Hid (runB wd hi wb xs ys e x y steps = (fieldB wd hi wb xs ys e x y && isRunB steps)) := Lib.hid rfl
  rcases hfv : fieldB wd hi wb xs ys e x y with _ | _
  · skip
    have HR : Hid ((runB wd hi wb xs ys e x y steps) = false) := Lib.hid (by rw [HRB.out, hfv]; rfl)
    rw [HR.out]
    have H_fb := Lib.hid hfv; clear hfv
    have X := Blk.new w #[.int .i64 wd, .int .i64 hi, .bool wb, .slice a xs.length ca, .slice b ys.length cb] 32
    have Y := Blk.new1 w (.cells #[.int .i64 wd, .int .i64 hi, .bool wb, .slice a xs.length ca, .slice b ys.length cb] 32) #[.slice a0 e.length c0, .slice a1 x.length c1, .slice a2 y.length c2] 29
    replace X := X.alloc (.cells #[.slice a0 e.length c0, .slice a1 x.length c1, .slice a2 y.length c2] 29)
    have R := Blk.new2 w (.cells #[.int .i64 wd, .int .i64 hi, .bool wb, .slice a xs.length ca, .slice b ys.length cb] 32) (.cells #[.slice a0 e.length c0, .slice a1 x.length c1, .slice a2 y.length c2] 29) #[.slice none 0 0, .slice none 0 0, .slice none 0 0] 29
    replace X := X.alloc (.cells #[.slice none 0 0, .slice none 0 0, .slice none 0 0] 29)
    replace Y := Y.alloc (.cells #[.slice none 0 0, .slice none 0 0, .slice none 0 0] 29)
    have HB : Hid (Below w.heap.size w (((w.alloc (.cells #[.int .i64 wd, .int .i64 hi, .bool wb, .slice a xs.length ca, .slice b ys.length cb] 32)).alloc (.cells #[.slice a0 e.length c0, .slice a1 x.length c1, .slice a2 y.length c2] 29)).alloc (.cells #[.slice none 0 0, .slice none 0 0, .slice none 0 0] 29))) := Lib.hid ((((Below.refl w.heap.size w).alloc (by simp <;> omega) _).alloc (by simp <;> omega) _).alloc (by simp <;> omega) _)
    go_enter Try.func23, Try.ntmps23
    go_wp2_with fail
    generalize (((w.alloc (.cells #[.int .i64 wd, .int .i64 hi, .bool wb, .slice a xs.length ca, .slice b ys.length cb] 32)).alloc (.cells #[.slice a0 e.length c0, .slice a1 x.length c1, .slice a2 y.length c2] 29)).alloc (.cells #[.slice none 0 0, .slice none 0 0, .slice none 0 0] 29)) = u1 at *
    refine (specBoth _ _ _ _ _ _ _ _ _ _ _ _ _ _ _ _ _ _ _ _ _ X Y (ha.later HB.out) (hb.later HB.out) hx hy (h0.later HB.out) (h1.later HB.out) (h2.later HB.out) m0 m1 m2).mono ?_
    rintro r u2 ⟨rfl, nq, hw⟩
    have q : Below u1.heap.size u1 u2 := by rw [hw]; exact below_drewN (Below.refl _ _) _
    clear hw
    replace X := X.later q
    replace Y := Y.later q
    replace R := R.later q
    replace HB := Lib.hid (HB.out.trans (q.mono HB.out.size))
    clear q
    rw [H_fb.out]
    obtain ⟨Rc, Rf⟩ := R.open
    go_wp2
    refine bodyPost_ret (v := .tuple #[.agg #[.slice none 0 0, .slice none 0 0, .slice none 0 0], .bool false]) (by simp [results, Try.results23, go_sem, Rc]) rfl ⟨none, none, none, 0, 0, 0, [], [], [], rfl, OwnField.none (((HB.out.setCell (p := ⟨w.heap.size + 1 + 1, 0, none⟩) (by first | omega | (simp <;> omega)) _).setCell (p := ⟨w.heap.size + 1 + 1, 1, none⟩) (by first | omega | (simp <;> omega)) _).setCell (p := ⟨w.heap.size + 1 + 1, 2, none⟩) (by first | omega | (simp <;> omega)) _)⟩
  obtain ⟨m, k, n, rfl, rfl, hn, s1, s2, s3, s4, la, lb, l0, l1, l2, np, n256⟩ := field_nat hfv
  obtain ⟨b0, o0, rfl⟩ := row_at h0 (show 0 < e.length by omega)
  obtain ⟨b1, o1, rfl⟩ := row_at h1 (show 0 < x.length by omega)
  obtain ⟨b2, o2, rfl⟩ := row_at h2 (show 0 < y.length by omega)
  obtain ⟨ba, oa, rfl⟩ := row_at ha (show 0 < xs.length by omega)
  obtain ⟨bb, ob, rfl⟩ := row_at hb (show 0 < ys.length by omega)
  have HN := Lib.hid hn; have LA := Lib.hid la; have LB := Lib.hid lb; have L0 := Lib.hid l0; have L1 := Lib.hid l1; have L2 := Lib.hid l2; clear hn la lb l0 l1 l2
  have H_fb := Lib.hid hfv; clear hfv
  rcases hst : isRunB steps with _ | _
  · skip
    have HR : Hid ((runB (m : Int) (k : Int) wb xs ys e x y steps) = false) := Lib.hid (by rw [HRB.out, H_fb.out, hst]; rfl)
    rw [HR.out]
    have HST : Hid (decide (0 ≤ steps ∧ steps ≤ 64) = false) := Lib.hid hst; clear hst
    have X := Blk.new w #[.int .i64 (m : Int), .int .i64 (k : Int), .bool wb, .slice (some ⟨ba, oa, none⟩) xs.length ca, .slice (some ⟨bb, ob, none⟩) ys.length cb] 32
    have Y := Blk.new1 w (.cells #[.int .i64 (m : Int), .int .i64 (k : Int), .bool wb, .slice (some ⟨ba, oa, none⟩) xs.length ca, .slice (some ⟨bb, ob, none⟩) ys.length cb] 32) #[.slice (some ⟨b0, o0, none⟩) e.length c0, .slice (some ⟨b1, o1, none⟩) x.length c1, .slice (some ⟨b2, o2, none⟩) y.length c2] 29
    replace X := X.alloc (.cells #[.slice (some ⟨b0, o0, none⟩) e.length c0, .slice (some ⟨b1, o1, none⟩) x.length c1, .slice (some ⟨b2, o2, none⟩) y.length c2] 29)
    have R := Blk.new2 w (.cells #[.int .i64 (m : Int), .int .i64 (k : Int), .bool wb, .slice (some ⟨ba, oa, none⟩) xs.length ca, .slice (some ⟨bb, ob, none⟩) ys.length cb] 32) (.cells #[.slice (some ⟨b0, o0, none⟩) e.length c0, .slice (some ⟨b1, o1, none⟩) x.length c1, .slice (some ⟨b2, o2, none⟩) y.length c2] 29) #[.slice none 0 0, .slice none 0 0, .slice none 0 0] 29
    replace X := X.alloc (.cells #[.slice none 0 0, .slice none 0 0, .slice none 0 0] 29)
    replace Y := Y.alloc (.cells #[.slice none 0 0, .slice none 0 0, .slice none 0 0] 29)
    have HB : Hid (Below w.heap.size w (((w.alloc (.cells #[.int .i64 (m : Int), .int .i64 (k : Int), .bool wb, .slice (some ⟨ba, oa, none⟩) xs.length ca, .slice (some ⟨bb, ob, none⟩) ys.length cb] 32)).alloc (.cells #[.slice (some ⟨b0, o0, none⟩) e.length c0, .slice (some ⟨b1, o1, none⟩) x.length c1, .slice (some ⟨b2, o2, none⟩) y.length c2] 29)).alloc (.cells #[.slice none 0 0, .slice none 0 0, .slice none 0 0] 29))) := Lib.hid ((((Below.refl w.heap.size w).alloc (by simp <;> omega) _).alloc (by simp <;> omega) _).alloc (by simp <;> omega) _)
    go_enter Try.func23, Try.ntmps23
    go_wp2_with fail
    generalize (((w.alloc (.cells #[.int .i64 (m : Int), .int .i64 (k : Int), .bool wb, .slice (some ⟨ba, oa, none⟩) xs.length ca, .slice (some ⟨bb, ob, none⟩) ys.length cb] 32)).alloc (.cells #[.slice (some ⟨b0, o0, none⟩) e.length c0, .slice (some ⟨b1, o1, none⟩) x.length c1, .slice (some ⟨b2, o2, none⟩) y.length c2] 29)).alloc (.cells #[.slice none 0 0, .slice none 0 0, .slice none 0 0] 29)) = u1 at *
    refine (specBoth _ _ _ _ _ _ _ _ _ _ _ _ _ _ _ _ _ _ _ _ _ X Y (ha.later HB.out) (hb.later HB.out) hx hy (h0.later HB.out) (h1.later HB.out) (h2.later HB.out) m0 m1 m2).mono ?_
    rintro r u2 ⟨rfl, nq, hw⟩
    have q : Below u1.heap.size u1 u2 := by rw [hw]; exact below_drewN (Below.refl _ _) _
    clear hw
    replace X := X.later q
    replace Y := Y.later q
    replace R := R.later q
    replace HB := Lib.hid (HB.out.trans (q.mono HB.out.size))
    clear q
    rw [H_fb.out]
    go_wp2_with fail
    refine (l00In_any _ _ _ _).mono ?_
    rintro r w5 ⟨rfl, rfl⟩
    rw [HST.out]
    obtain ⟨Rc, Rf⟩ := R.open
    go_wp2
    refine bodyPost_ret (v := .tuple #[.agg #[.slice none 0 0, .slice none 0 0, .slice none 0 0], .bool false]) (by simp [results, Try.results23, go_sem, Rc]) rfl ⟨none, none, none, 0, 0, 0, [], [], [], rfl, OwnField.none (((HB.out.setCell (p := ⟨w.heap.size + 1 + 1, 0, none⟩) (by first | omega | (simp <;> omega)) _).setCell (p := ⟨w.heap.size + 1 + 1, 1, none⟩) (by first | omega | (simp <;> omega)) _).setCell (p := ⟨w.heap.size + 1 + 1, 2, none⟩) (by first | omega | (simp <;> omega)) _)⟩
  have HR : Hid ((runB (m : Int) (k : Int) wb xs ys e x y steps) = true) := Lib.hid (by rw [HRB.out, H_fb.out, hst]; rfl)
  rw [HR.out]
  have HST : Hid (decide (0 ≤ steps ∧ steps ≤ 64) = true) := Lib.hid hst
  obtain ⟨st0, st1⟩ : 0 ≤ steps ∧ steps ≤ 64 := of_decide_eq_true hst; clear hst
  obtain ⟨N, rfl⟩ := Int.eq_ofNat_of_zero_le st0
  have X := Blk.new w #[.int .i64 (m : Int), .int .i64 (k : Int), .bool wb, .slice (some ⟨ba, oa, none⟩) xs.length ca, .slice (some ⟨bb, ob, none⟩) ys.length cb] 32
  have Y := Blk.new1 w (.cells #[.int .i64 (m : Int), .int .i64 (k : Int), .bool wb, .slice (some ⟨ba, oa, none⟩) xs.length ca, .slice (some ⟨bb, ob, none⟩) ys.length cb] 32) #[.slice (some ⟨b0, o0, none⟩) e.length c0, .slice (some ⟨b1, o1, none⟩) x.length c1, .slice (some ⟨b2, o2, none⟩) y.length c2] 29
  replace X := X.alloc (.cells #[.slice (some ⟨b0, o0, none⟩) e.length c0, .slice (some ⟨b1, o1, none⟩) x.length c1, .slice (some ⟨b2, o2, none⟩) y.length c2] 29)
  have R := Blk.new2 w (.cells #[.int .i64 (m : Int), .int .i64 (k : Int), .bool wb, .slice (some ⟨ba, oa, none⟩) xs.length ca, .slice (some ⟨bb, ob, none⟩) ys.length cb] 32) (.cells #[.slice (some ⟨b0, o0, none⟩) e.length c0, .slice (some ⟨b1, o1, none⟩) x.length c1, .slice (some ⟨b2, o2, none⟩) y.length c2] 29) #[.slice none 0 0, .slice none 0 0, .slice none 0 0] 29
  replace X := X.alloc (.cells #[.slice none 0 0, .slice none 0 0, .slice none 0 0] 29)
  replace Y := Y.alloc (.cells #[.slice none 0 0, .slice none 0 0, .slice none 0 0] 29)
  have HB : Hid (Below w.heap.size w (((w.alloc (.cells #[.int .i64 (m : Int), .int .i64 (k : Int), .bool wb, .slice (some ⟨ba, oa, none⟩) xs.length ca, .slice (some ⟨bb, ob, none⟩) ys.length cb] 32)).alloc (.cells #[.slice (some ⟨b0, o0, none⟩) e.length c0, .slice (some ⟨b1, o1, none⟩) x.length c1, .slice (some ⟨b2, o2, none⟩) y.length c2] 29)).alloc (.cells #[.slice none 0 0, .slice none 0 0, .slice none 0 0] 29))) := Lib.hid ((((Below.refl w.heap.size w).alloc (by simp <;> omega) _).alloc (by simp <;> omega) _).alloc (by simp <;> omega) _)
  go_enter Try.func23, Try.ntmps23
  go_wp2_with fail
  generalize (((w.alloc (.cells #[.int .i64 (m : Int), .int .i64 (k : Int), .bool wb, .slice (some ⟨ba, oa, none⟩) xs.length ca, .slice (some ⟨bb, ob, none⟩) ys.length cb] 32)).alloc (.cells #[.slice (some ⟨b0, o0, none⟩) e.length c0, .slice (some ⟨b1, o1, none⟩) x.length c1, .slice (some ⟨b2, o2, none⟩) y.length c2] 29)).alloc (.cells #[.slice none 0 0, .slice none 0 0, .slice none 0 0] 29)) = u1 at *
  refine (specBoth _ _ _ _ _ _ _ _ _ _ _ _ _ _ _ _ _ _ _ _ _ X Y (ha.later HB.out) (hb.later HB.out) hx hy (h0.later HB.out) (h1.later HB.out) (h2.later HB.out) m0 m1 m2).mono ?_
  rintro r u2 ⟨rfl, nq, hw⟩
  have q : Below u1.heap.size u1 u2 := by rw [hw]; exact below_drewN (Below.refl _ _) _
  clear hw
  replace X := X.later q
  replace Y := Y.later q
  replace R := R.later q
  replace HB := Lib.hid (HB.out.trans (q.mono HB.out.size))
  clear q
  rw [H_fb.out]
  go_wp2_with fail
  refine (l00In_any _ _ _ _).mono ?_
  rintro r w5 ⟨rfl, rfl⟩
  rw [HST.out]
  go_wp2_with fail
  refine (specRun w.heap.size (w.heap.size + 1) m k n N ba oa ca bb ob cb b0 b1 b2 o0 o1 o2 c0 c1 c2 wb xs ys e x y ⟨nums e, nums x, nums y⟩ _ X Y (ha.later HB.out) (hb.later HB.out) LA.out LB.out (h0.later HB.out) (h1.later HB.out) (h2.later HB.out) ⟨lag_self L0.out q0, lag_self L1.out q1, lag_self L2.out q2⟩ s1 s2 s3 s4 HN (by omega)).mono ?_
  rintro r u3 ⟨g0, g1, g2, k0, k1, k2, e', x', y', rfl, z0, z1, z2, ht, q⟩
  have szb := HB.out.size; have rlt := R.lt
  have zb0 := z0.bound g0 rfl; have zb1 := z1.bound g1 rfl; have zb2 := z2.bound g2 rfl
  replace X := X.later q
  replace Y := Y.later q
  replace R := R.later q
  replace HB := Lib.hid (HB.out.trans (q.mono HB.out.size))
  clear q
  have HT := Lib.hid ht; clear ht
  obtain ⟨Rc, Rf⟩ := R.open
  go_wp2
  refine bodyPost_ret (v := .tuple #[.agg #[.slice (some ⟨g0, 0, none⟩) n k0, .slice (some ⟨g1, 0, none⟩) n k1, .slice (some ⟨g2, 0, none⟩) n k2], .bool true]) (by simp [results, Try.results23, go_sem, Rc]) rfl ⟨some ⟨g0, 0, none⟩, some ⟨g1, 0, none⟩, some ⟨g2, 0, none⟩, k0, k1, k2, e', x', y', by rw [HT.out.e.1, HT.out.x.1, HT.out.y.1], own_run HN n256 HT.out ((((z0.lower (show w.heap.size ≤ _ by omega)).set (p := ⟨w.heap.size + 1 + 1, 0, none⟩) (ne_block (h := w.heap.size + 1 + 1) (by omega)) _).set (p := ⟨w.heap.size + 1 + 1, 1, none⟩) (ne_block (h := w.heap.size + 1 + 1) (by omega)) _).set (p := ⟨w.heap.size + 1 + 1, 2, none⟩) (ne_block (h := w.heap.size + 1 + 1) (by omega)) _) ((((z1.lower (show w.heap.size ≤ _ by omega)).set (p := ⟨w.heap.size + 1 + 1, 0, none⟩) (ne_block (h := w.heap.size + 1 + 1) (by omega)) _).set (p := ⟨w.heap.size + 1 + 1, 1, none⟩) (ne_block (h := w.heap.size + 1 + 1) (by omega)) _).set (p := ⟨w.heap.size + 1 + 1, 2, none⟩) (ne_block (h := w.heap.size + 1 + 1) (by omega)) _) ((((z2.lower (show w.heap.size ≤ _ by omega)).set (p := ⟨w.heap.size + 1 + 1, 0, none⟩) (ne_block (h := w.heap.size + 1 + 1) (by omega)) _).set (p := ⟨w.heap.size + 1 + 1, 1, none⟩) (ne_block (h := w.heap.size + 1 + 1) (by omega)) _).set (p := ⟨w.heap.size + 1 + 1, 2, none⟩) (ne_block (h := w.heap.size + 1 + 1) (by omega)) _) (((HB.out.setCell (p := ⟨w.heap.size + 1 + 1, 0, none⟩) (by first | omega | (simp <;> omega)) _).setCell (p := ⟨w.heap.size + 1 + 1, 1, none⟩) (by first | omega | (simp <;> omega)) _).setCell (p := ⟨w.heap.size + 1 + 1, 2, none⟩) (by first | omega | (simp <;> omega)) _)⟩

end Go.Proofs.Ytedfbaeajofmnab

end

section

namespace Go.Proofs.Ytedfbaeajofmnab
open Go Ieee Go.RowKit
set_option linter.unusedVariables false

theorem implIsRun (steps : Int) (w : World) : Calls Try.prog 49 #[.int .i64 steps] w fun e w' => e = .returned (.bool (isRunB steps)) ∧ w = w' := by
  unfold isRunB
  by_cases h : steps < 0
  · have hd : decide (0 ≤ steps ∧ steps ≤ 64) = false := by simp; omega
    rw [hd]; clear hd
    go_enter Try.func49, Try.ntmps49
    go_wp2
    go_ret
    exact ⟨rfl, rfl⟩
  · by_cases h2 : steps ≤ 64
    · have hd : decide (0 ≤ steps ∧ steps ≤ 64) = true := by simp; omega
      rw [hd]; clear hd
      go_enter Try.func49, Try.ntmps49
      go_wp2
      go_ret
      exact ⟨rfl, rfl⟩
    · have hd : decide (0 ≤ steps ∧ steps ≤ 64) = false := by simp; omega
      rw [hd]; clear hd
      go_enter Try.func49, Try.ntmps49
      go_wp2
      go_ret
      exact ⟨rfl, rfl⟩

theorem got_run {w w' : World} {m k n : Nat} {t : Trip} {g0 g1 g2 : Nat} {E X Y : Nat → Nat} (hn : Hid (n = m * k)) (h2 : n ≤ 256) (a0 : Ag n E t.e) (a1 : Ag n X t.x) (a2 : Ag n Y t.y) (o0 : OwnV w' w.heap.size (some ⟨g0, 0, none⟩) (fvals (firsts E n))) (o1 : OwnV w' w.heap.size (some ⟨g1, 0, none⟩) (fvals (firsts X n))) (o2 : OwnV w' w.heap.size (some ⟨g2, 0, none⟩) (fvals (firsts Y n))) (p01 : g0 ≠ g1) (p02 : g0 ≠ g2) (p12 : g1 ≠ g2) (b : Below w.heap.size w w') :
    GotField w.heap.size w w' (oL (m : Int) (k : Int) t.e) (oL (m : Int) (k : Int) t.x) (oL (m : Int) (k : Int) t.y) (some ⟨g0, 0, none⟩) (some ⟨g1, 0, none⟩) (some ⟨g2, 0, none⟩) (firsts E n) (firsts X n) (firsts Y n) := by
  rw [oL_nat, oL_nat, oL_nat, ← hn.out]
  exact ⟨o0, o1, o2, apart_ne p01, apart_ne p02, apart_ne p12, is_lag (lag_firsts a0) h2, is_lag (lag_firsts a1) h2, is_lag (lag_firsts a2) h2, b⟩

set_option maxHeartbeats 16000000 in
set_option maxRecDepth 100000 in
theorem implHalfStepL (wd hi : Int) (wb : Bool) (a b : Option Addr) (ca cb : Nat) (xs ys : List Nat) (a0 a1 a2 : Option Addr) (c0 c1 c2 : Nat) (e x y : List Nat) (w : World) (ha : RowV w a (fvals xs)) (hb : RowV w b (fvals ys)) (qa : ∀ z ∈ xs, z < 2 ^ 32) (qb : ∀ z ∈ ys, z < 2 ^ 32) (hx : xs.length ≤ maxLen) (hy : ys.length ≤ maxLen) (h0 : RowV w a0 (fvals e)) (h1 : RowV w a1 (fvals x)) (h2 : RowV w a2 (fvals y)) (q0 : ∀ z ∈ e, z < 2 ^ 32) (q1 : ∀ z ∈ x, z < 2 ^ 32) (q2 : ∀ z ∈ y, z < 2 ^ 32) (m0 : e.length ≤ maxLen) (m1 : x.length ≤ maxLen) (m2 : y.length ≤ maxLen) (hc0 : c0 = e.length := by rfl) (hc1 : c1 = x.length := by rfl) (hc2 : c2 = y.length := by rfl) :
    Calls Try.prog 15 #[.agg #[.int .i64 wd, .int .i64 hi, .bool wb, .slice a xs.length ca, .slice b ys.length cb], .agg #[.slice a0 e.length c0, .slice a1 x.length c1, .slice a2 y.length c2]] w (GaveO w (fieldB wd hi wb xs ys e x y) (oL wd hi (halfL wd hi wb e x y).e) (oL wd hi (halfL wd hi wb e x y).x) (oL wd hi (halfL wd hi wb e x y).y)) := by
  subst hc0; subst hc1; subst hc2
  rcases hfv : fieldB wd hi wb xs ys e x y with _ | _
  · skip
    have H_fb := Lib.hid hfv; clear hfv
    have X := Blk.new w #[.int .i64 wd, .int .i64 hi, .bool wb, .slice a xs.length ca, .slice b ys.length cb] 32
    have Y := Blk.new1 w (.cells #[.int .i64 wd, .int .i64 hi, .bool wb, .slice a xs.length ca, .slice b ys.length cb] 32) #[.slice a0 e.length e.length, .slice a1 x.length x.length, .slice a2 y.length y.length] 29
    replace X := X.alloc (.cells #[.slice a0 e.length e.length, .slice a1 x.length x.length, .slice a2 y.length y.length] 29)
    have R := Blk.new2 w (.cells #[.int .i64 wd, .int .i64 hi, .bool wb, .slice a xs.length ca, .slice b ys.length cb] 32) (.cells #[.slice a0 e.length e.length, .slice a1 x.length x.length, .slice a2 y.length y.length] 29) #[.slice none 0 0, .slice none 0 0, .slice none 0 0] 29
    replace X := X.alloc (.cells #[.slice none 0 0, .slice none 0 0, .slice none 0 0] 29)
    replace Y := Y.alloc (.cells #[.slice none 0 0, .slice none 0 0, .slice none 0 0] 29)
    have HB : Hid (Below w.heap.size w (((w.alloc (.cells #[.int .i64 wd, .int .i64 hi, .bool wb, .slice a xs.length ca, .slice b ys.length cb] 32)).alloc (.cells #[.slice a0 e.length e.length, .slice a1 x.length x.length, .slice a2 y.length y.length] 29)).alloc (.cells #[.slice none 0 0, .slice none 0 0, .slice none 0 0] 29))) := Lib.hid ((((Below.refl w.heap.size w).alloc (by simp <;> omega) _).alloc (by simp <;> omega) _).alloc (by simp <;> omega) _)
    go_enter Try.func15, Try.ntmps15
    go_wp2_with fail
    generalize (((w.alloc (.cells #[.int .i64 wd, .int .i64 hi, .bool wb, .slice a xs.length ca, .slice b ys.length cb] 32)).alloc (.cells #[.slice a0 e.length e.length, .slice a1 x.length x.length, .slice a2 y.length y.length] 29)).alloc (.cells #[.slice none 0 0, .slice none 0 0, .slice none 0 0] 29)) = u1 at *
    obtain ⟨Xc, Xf⟩ := X.open
    obtain ⟨Yc, Yf⟩ := Y.open
    go_wp2_with fail
    refine (implIsField _ _ _ _ _ _ _ _ _ _ _ _ _ _ _ _ _ _ _ (ha.later HB.out) (hb.later HB.out) hx hy (h0.later HB.out) (h1.later HB.out) (h2.later HB.out) m0 m1 m2).mono ?_
    rintro r u2 ⟨rfl, q⟩
    clear Xc Xf
    clear Yc Yf
    replace X := X.later q
    replace Y := Y.later q
    replace R := R.later q
    replace HB := Lib.hid (HB.out.trans (q.mono HB.out.size))
    clear q
    rw [H_fb.out]
    obtain ⟨Rc, Rf⟩ := R.open
    go_wp2
    refine bodyPost_ret (v := .tuple #[.agg #[.slice none 0 0, .slice none 0 0, .slice none 0 0], .bool false]) (by simp [results, Try.results15, go_sem, Rc]) rfl ⟨none, none, none, 0, 0, 0, [], [], [], rfl, GotField.none (((HB.out.setCell (p := ⟨w.heap.size + 1 + 1, 0, none⟩) (by first | omega | (simp <;> omega)) _).setCell (p := ⟨w.heap.size + 1 + 1, 1, none⟩) (by first | omega | (simp <;> omega)) _).setCell (p := ⟨w.heap.size + 1 + 1, 2, none⟩) (by first | omega | (simp <;> omega)) _)⟩
  obtain ⟨m, k, n, rfl, rfl, hn, s1, s2, s3, s4, la, lb, l0, l1, l2, np, n256⟩ := field_nat hfv
  obtain ⟨b0, o0, rfl⟩ := row_at h0 (show 0 < e.length by omega)
  obtain ⟨b1, o1, rfl⟩ := row_at h1 (show 0 < x.length by omega)
  obtain ⟨b2, o2, rfl⟩ := row_at h2 (show 0 < y.length by omega)
  obtain ⟨ba, oa, rfl⟩ := row_at ha (show 0 < xs.length by omega)
  obtain ⟨bb, ob, rfl⟩ := row_at hb (show 0 < ys.length by omega)
  have HN := Lib.hid hn; have LA := Lib.hid la; have LB := Lib.hid lb; have L0 := Lib.hid l0; have L1 := Lib.hid l1; have L2 := Lib.hid l2; clear hn la lb l0 l1 l2
  have H_fb := Lib.hid hfv; clear hfv
  have X := Blk.new w #[.int .i64 (m : Int), .int .i64 (k : Int), .bool wb, .slice (some ⟨ba, oa, none⟩) xs.length ca, .slice (some ⟨bb, ob, none⟩) ys.length cb] 32
  have Y := Blk.new1 w (.cells #[.int .i64 (m : Int), .int .i64 (k : Int), .bool wb, .slice (some ⟨ba, oa, none⟩) xs.length ca, .slice (some ⟨bb, ob, none⟩) ys.length cb] 32) #[.slice (some ⟨b0, o0, none⟩) e.length e.length, .slice (some ⟨b1, o1, none⟩) x.length x.length, .slice (some ⟨b2, o2, none⟩) y.length y.length] 29
  replace X := X.alloc (.cells #[.slice (some ⟨b0, o0, none⟩) e.length e.length, .slice (some ⟨b1, o1, none⟩) x.length x.length, .slice (some ⟨b2, o2, none⟩) y.length y.length] 29)
  have R := Blk.new2 w (.cells #[.int .i64 (m : Int), .int .i64 (k : Int), .bool wb, .slice (some ⟨ba, oa, none⟩) xs.length ca, .slice (some ⟨bb, ob, none⟩) ys.length cb] 32) (.cells #[.slice (some ⟨b0, o0, none⟩) e.length e.length, .slice (some ⟨b1, o1, none⟩) x.length x.length, .slice (some ⟨b2, o2, none⟩) y.length y.length] 29) #[.slice none 0 0, .slice none 0 0, .slice none 0 0] 29
  replace X := X.alloc (.cells #[.slice none 0 0, .slice none 0 0, .slice none 0 0] 29)
  replace Y := Y.alloc (.cells #[.slice none 0 0, .slice none 0 0, .slice none 0 0] 29)
  have HB : Hid (Below w.heap.size w (((w.alloc (.cells #[.int .i64 (m : Int), .int .i64 (k : Int), .bool wb, .slice (some ⟨ba, oa, none⟩) xs.length ca, .slice (some ⟨bb, ob, none⟩) ys.length cb] 32)).alloc (.cells #[.slice (some ⟨b0, o0, none⟩) e.length e.length, .slice (some ⟨b1, o1, none⟩) x.length x.length, .slice (some ⟨b2, o2, none⟩) y.length y.length] 29)).alloc (.cells #[.slice none 0 0, .slice none 0 0, .slice none 0 0] 29))) := Lib.hid ((((Below.refl w.heap.size w).alloc (by simp <;> omega) _).alloc (by simp <;> omega) _).alloc (by simp <;> omega) _)
  go_enter Try.func15, Try.ntmps15
  go_wp2_with fail
  generalize (((w.alloc (.cells #[.int .i64 (m : Int), .int .i64 (k : Int), .bool wb, .slice (some ⟨ba, oa, none⟩) xs.length ca, .slice (some ⟨bb, ob, none⟩) ys.length cb] 32)).alloc (.cells #[.slice (some ⟨b0, o0, none⟩) e.length e.length, .slice (some ⟨b1, o1, none⟩) x.length x.length, .slice (some ⟨b2, o2, none⟩) y.length y.length] 29)).alloc (.cells #[.slice none 0 0, .slice none 0 0, .slice none 0 0] 29)) = u1 at *
  obtain ⟨Xc, Xf⟩ := X.open
  obtain ⟨Yc, Yf⟩ := Y.open
  go_wp2_with fail
  refine (implIsField _ _ _ _ _ _ _ _ _ _ _ _ _ _ _ _ _ _ _ (ha.later HB.out) (hb.later HB.out) hx hy (h0.later HB.out) (h1.later HB.out) (h2.later HB.out) m0 m1 m2).mono ?_
  rintro r u2 ⟨rfl, q⟩
  clear Xc Xf
  clear Yc Yf
  replace X := X.later q
  replace Y := Y.later q
  replace R := R.later q
  replace HB := Lib.hid (HB.out.trans (q.mono HB.out.size))
  clear q
  rw [H_fb.out]
  obtain ⟨Xc, Xf⟩ := X.open
  go_wp2_with fail
  refine (implShapeOf _ _ _ _ _ _ _ _ _ _).mono ?_
  rintro r u3 ⟨rfl, q⟩
  clear Xc Xf
  replace X := X.later q
  replace Y := Y.later q
  replace R := R.later q
  replace HB := Lib.hid (HB.out.trans (q.mono HB.out.size))
  clear q
  have SZZ : w.heap.size + 1 + 1 < u3.heap.size + 0 := Nat.lt_of_lt_of_le R.lt (Nat.le_add_right _ _)
  have Z := Blk.new u3 #[.int .i64 (m : Int), .int .i64 (k : Int), .bool wb] 59
  have q := below_new u3 (.cells #[.int .i64 (m : Int), .int .i64 (k : Int), .bool wb] 59)
  replace X := X.later q
  replace Y := Y.later q
  replace R := R.later q
  replace HB := Lib.hid (HB.out.trans (q.mono HB.out.size))
  clear q
  obtain ⟨Zc, Zf⟩ := Z.open
  obtain ⟨Yc, Yf⟩ := Y.open
  go_wp2_with fail
  generalize (u3.alloc (.cells #[.int .i64 (m : Int), .int .i64 (k : Int), .bool wb] 59)) = u4 at *
  have zR := R.lt; have zZ := Z.lt; have zY := Y.lt; have b6 := HB.out; have hR : w.heap.size ≤ w.heap.size + 1 + 1 := by omega
  go_wp2_with fail
  have neZ : u3.heap.size ≠ w.heap.size + 1 + 1 := by omega
  have neY : w.heap.size + 1 ≠ w.heap.size + 1 + 1 := by omega
  have tk0 : True := trivial
  have tk1 : True := trivial
  have tk2 : True := trivial
  have tk3 : True := trivial
  go_region_held3 (fun w' => (∀ i, w'.cell? ⟨u3.heap.size, i, none⟩ = (#[.int .i64 (m : Int), .int .i64 (k : Int), .bool wb] : Array Value)[i]?) ∧ (∀ i, w'.cell? ⟨w.heap.size + 1, i, none⟩ = (#[.slice (some ⟨b0, o0, none⟩) e.length e.length, .slice (some ⟨b1, o1, none⟩) x.length x.length, .slice (some ⟨b2, o2, none⟩) y.length y.length] : Array Value)[i]?) ∧ u4.grownBy w' (some (w.heap.size + 1 + 1))) (first | with_reducible exact keepR2_start Z Y | with_reducible exact keepR2_later Z Y neZ neY (by assumption) (by assumption) | exact keepR2_set3 Z Y neZ neY (by assumption) _ _ _)
    (first
      | (go_at_call 43; have _t := tk0; clear _t tk0; (with_reducible refine (implGridOf m k wb _ _ _ e x y _ (row_heldR2 h0 b6 hR (by assumption)) (row_heldR2 h1 b6 hR (by assumption)) (row_heldR2 h2 b6 hR (by assumption)) (L0.out.trans HN.out) (L1.out.trans HN.out) (L2.out.trans HN.out) s1 s2 s3 s4).mono ?_); rintro r u5 ⟨cs, rfl, gf, qa0⟩)
      | (go_at_call 45; have _t := tk1; clear _t tk1; (with_reducible refine (implCells m k n wb _ s1 s2 s3 s4 HN).mono ?_); rintro r u6 ⟨js, ac1, cc1, rfl, oc, qa1, hrl, hrd, hrm, hra⟩)
      | (go_at_call 44; have _t := tk2; clear _t tk2; (with_reducible refine (implHalfL m k n wb cs _ _ _ _ _ _ js ac1 cc1 _ oc.row hrm hrd hrl gf (ag_list (lag_self L0.out q0)) (ag_list (lag_self L1.out q1)) (ag_list (lag_self L2.out q2)) s1 s2 s3 s4 HN).mono ?_); rintro r u7 ⟨c2, x2, y2_, rfl, gf2, ax, ay, qa2⟩)
      | (go_at_call 42; have _t := tk3; clear _t tk3; (with_reducible refine (implFieldOf m k n wb c2 _ _ _ _ gf2 s1 s2 s3 s4 HN).mono ?_); rintro r u8 ⟨g0, g1, g2, k0, k1, k2, rfl, nf⟩; have qa3 := nf.below; obtain ⟨Rc, Rf⟩ := (R.later (below_next (below_next (below_next (below_next (below_drew u4) qa0) qa1) qa2) qa3)).open))
  go_wp2
  have szb := HB.out.size
  have y1_ := qa0.size; have y2__ := qa1.size; have y3__ := qa2.size; have e0 : u4.drew.heap.size = u4.heap.size := rfl
  have zb0 := nf.o0.bound g0 rfl; have zb1 := nf.o1.bound g1 rfl; have zb2 := nf.o2.bound g2 rfl
  refine bodyPost_ret (v := .tuple #[.agg #[.slice (some ⟨g0, 0, none⟩) n k0, .slice (some ⟨g1, 0, none⟩) n k1, .slice (some ⟨g2, 0, none⟩) n k2], .bool true]) (by simp [results, Try.results15, go_sem, Rc]) rfl ⟨some ⟨g0, 0, none⟩, some ⟨g1, 0, none⟩, some ⟨g2, 0, none⟩, k0, k1, k2, _, _, _, by rw [firsts_length, firsts_length, firsts_length], got_run (t := halfL (m : Int) (k : Int) wb e x y) HN n256 (ag_list (lag_self L0.out q0)) (mixd_all hra ax) (mixd_all hra ay) ((((OwnV.lower nf.o0 (show w.heap.size ≤ _ by omega)).set (p := ⟨w.heap.size + 1 + 1, 0, none⟩) (ne_block (h := w.heap.size + 1 + 1) (by omega)) _).set (p := ⟨w.heap.size + 1 + 1, 1, none⟩) (ne_block (h := w.heap.size + 1 + 1) (by omega)) _).set (p := ⟨w.heap.size + 1 + 1, 2, none⟩) (ne_block (h := w.heap.size + 1 + 1) (by omega)) _) ((((OwnV.lower nf.o1 (show w.heap.size ≤ _ by omega)).set (p := ⟨w.heap.size + 1 + 1, 0, none⟩) (ne_block (h := w.heap.size + 1 + 1) (by omega)) _).set (p := ⟨w.heap.size + 1 + 1, 1, none⟩) (ne_block (h := w.heap.size + 1 + 1) (by omega)) _).set (p := ⟨w.heap.size + 1 + 1, 2, none⟩) (ne_block (h := w.heap.size + 1 + 1) (by omega)) _) ((((OwnV.lower nf.o2 (show w.heap.size ≤ _ by omega)).set (p := ⟨w.heap.size + 1 + 1, 0, none⟩) (ne_block (h := w.heap.size + 1 + 1) (by omega)) _).set (p := ⟨w.heap.size + 1 + 1, 1, none⟩) (ne_block (h := w.heap.size + 1 + 1) (by omega)) _).set (p := ⟨w.heap.size + 1 + 1, 2, none⟩) (ne_block (h := w.heap.size + 1 + 1) (by omega)) _) nf.p01 nf.p02 nf.p12 ((((HB.out.trans ((below_next (below_next (below_next (below_next (below_drew u4) qa0) qa1) qa2) qa3).mono HB.out.size)).setCell (p := ⟨w.heap.size + 1 + 1, 0, none⟩) (by first | omega | (simp <;> omega)) _).setCell (p := ⟨w.heap.size + 1 + 1, 1, none⟩) (by first | omega | (simp <;> omega)) _).setCell (p := ⟨w.heap.size + 1 + 1, 2, none⟩) (by first | omega | (simp <;> omega)) _)⟩

set_option maxHeartbeats 16000000 in
set_option maxRecDepth 100000 in
theorem implRunFieldL (wd hi : Int) (wb : Bool) (a b : Option Addr) (ca cb : Nat) (xs ys : List Nat) (a0 a1 a2 : Option Addr) (c0 c1 c2 : Nat) (e x y : List Nat) (steps : Int) (w : World) (ha : RowV w a (fvals xs)) (hb : RowV w b (fvals ys)) (qa : ∀ z ∈ xs, z < 2 ^ 32) (qb : ∀ z ∈ ys, z < 2 ^ 32) (hx : xs.length ≤ maxLen) (hy : ys.length ≤ maxLen) (h0 : RowV w a0 (fvals e)) (h1 : RowV w a1 (fvals x)) (h2 : RowV w a2 (fvals y)) (q0 : ∀ z ∈ e, z < 2 ^ 32) (q1 : ∀ z ∈ x, z < 2 ^ 32) (q2 : ∀ z ∈ y, z < 2 ^ 32) (m0 : e.length ≤ maxLen) (m1 : x.length ≤ maxLen) (m2 : y.length ≤ maxLen) (ws : (Lit.int .i64 steps).wf = true) (hc0 : c0 = e.length := by rfl) (hc1 : c1 = x.length := by rfl) (hc2 : c2 = y.length := by rfl) :
    Calls Try.prog 24 #[.agg #[.int .i64 wd, .int .i64 hi, .bool wb, .slice a xs.length ca, .slice b ys.length cb], .agg #[.slice a0 e.length c0, .slice a1 x.length c1, .slice a2 y.length c2], .int .i64 steps] w (GaveO w (runB wd hi wb xs ys e x y steps) (oL wd hi (runL wd hi wb xs ys e x y steps).e) (oL wd hi (runL wd hi wb xs ys e x y steps).x) (oL wd hi (runL wd hi wb xs ys e x y steps).y)) := by
  subst hc0; subst hc1; subst hc2
  have HRB : Hid (runB wd hi wb xs ys e x y steps = (fieldB wd hi wb xs ys e x y && isRunB steps)) := Lib.hid rfl
  rcases hfv : fieldB wd hi wb xs ys e x y with _ | _
  · skip
    have HR : Hid (runB wd hi wb xs ys e x y steps = false) := Lib.hid (by rw [HRB.out, hfv]; rfl); rw [HR.out]
    have H_fb := Lib.hid hfv; clear hfv
    have X := Blk.new w #[.int .i64 wd, .int .i64 hi, .bool wb, .slice a xs.length ca, .slice b ys.length cb] 32
    have Y := Blk.new1 w (.cells #[.int .i64 wd, .int .i64 hi, .bool wb, .slice a xs.length ca, .slice b ys.length cb] 32) #[.slice a0 e.length e.length, .slice a1 x.length x.length, .slice a2 y.length y.length] 29
    replace X := X.alloc (.cells #[.slice a0 e.length e.length, .slice a1 x.length x.length, .slice a2 y.length y.length] 29)
    have R := Blk.new2 w (.cells #[.int .i64 wd, .int .i64 hi, .bool wb, .slice a xs.length ca, .slice b ys.length cb] 32) (.cells #[.slice a0 e.length e.length, .slice a1 x.length x.length, .slice a2 y.length y.length] 29) #[.slice none 0 0, .slice none 0 0, .slice none 0 0] 29
    replace X := X.alloc (.cells #[.slice none 0 0, .slice none 0 0, .slice none 0 0] 29)
    replace Y := Y.alloc (.cells #[.slice none 0 0, .slice none 0 0, .slice none 0 0] 29)
    have HB : Hid (Below w.heap.size w (((w.alloc (.cells #[.int .i64 wd, .int .i64 hi, .bool wb, .slice a xs.length ca, .slice b ys.length cb] 32)).alloc (.cells #[.slice a0 e.length e.length, .slice a1 x.length x.length, .slice a2 y.length y.length] 29)).alloc (.cells #[.slice none 0 0, .slice none 0 0, .slice none 0 0] 29))) := Lib.hid ((((Below.refl w.heap.size w).alloc (by simp <;> omega) _).alloc (by simp <;> omega) _).alloc (by simp <;> omega) _)
    go_enter Try.func24, Try.ntmps24
    go_wp2_with fail
    generalize (((w.alloc (.cells #[.int .i64 wd, .int .i64 hi, .bool wb, .slice a xs.length ca, .slice b ys.length cb] 32)).alloc (.cells #[.slice a0 e.length e.length, .slice a1 x.length x.length, .slice a2 y.length y.length] 29)).alloc (.cells #[.slice none 0 0, .slice none 0 0, .slice none 0 0] 29)) = u1 at *
    obtain ⟨Xc, Xf⟩ := X.open
    obtain ⟨Yc, Yf⟩ := Y.open
    go_wp2_with fail
    refine (implIsField _ _ _ _ _ _ _ _ _ _ _ _ _ _ _ _ _ _ _ (ha.later HB.out) (hb.later HB.out) hx hy (h0.later HB.out) (h1.later HB.out) (h2.later HB.out) m0 m1 m2).mono ?_
    rintro r u2 ⟨rfl, q⟩
    clear Xc Xf
    clear Yc Yf
    replace X := X.later q
    replace Y := Y.later q
    replace R := R.later q
    replace HB := Lib.hid (HB.out.trans (q.mono HB.out.size))
    clear q
    rw [H_fb.out]
    obtain ⟨Rc, Rf⟩ := R.open
    go_wp2
    refine bodyPost_ret (v := .tuple #[.agg #[.slice none 0 0, .slice none 0 0, .slice none 0 0], .bool false]) (by simp [results, Try.results24, go_sem, Rc]) rfl ⟨none, none, none, 0, 0, 0, [], [], [], rfl, GotField.none (((HB.out.setCell (p := ⟨w.heap.size + 1 + 1, 0, none⟩) (by first | omega | (simp <;> omega)) _).setCell (p := ⟨w.heap.size + 1 + 1, 1, none⟩) (by first | omega | (simp <;> omega)) _).setCell (p := ⟨w.heap.size + 1 + 1, 2, none⟩) (by first | omega | (simp <;> omega)) _)⟩
  obtain ⟨m, k, n, rfl, rfl, hn, s1, s2, s3, s4, la, lb, l0, l1, l2, np, n256⟩ := field_nat hfv
  obtain ⟨b0, o0, rfl⟩ := row_at h0 (show 0 < e.length by omega)
  obtain ⟨b1, o1, rfl⟩ := row_at h1 (show 0 < x.length by omega)
  obtain ⟨b2, o2, rfl⟩ := row_at h2 (show 0 < y.length by omega)
  obtain ⟨ba, oa, rfl⟩ := row_at ha (show 0 < xs.length by omega)
  obtain ⟨bb, ob, rfl⟩ := row_at hb (show 0 < ys.length by omega)
  have HN := Lib.hid hn; have LA := Lib.hid la; have LB := Lib.hid lb; have L0 := Lib.hid l0; have L1 := Lib.hid l1; have L2 := Lib.hid l2; clear hn la lb l0 l1 l2
  have H_fb := Lib.hid hfv; clear hfv
  rcases hst : isRunB steps with _ | _
  · skip
    have HR : Hid (runB (m : Int) (k : Int) wb xs ys e x y steps = false) := Lib.hid (by rw [HRB.out, H_fb.out, hst]; rfl); rw [HR.out]
    have HST := Lib.hid hst; clear hst
    have X := Blk.new w #[.int .i64 (m : Int), .int .i64 (k : Int), .bool wb, .slice (some ⟨ba, oa, none⟩) xs.length ca, .slice (some ⟨bb, ob, none⟩) ys.length cb] 32
    have Y := Blk.new1 w (.cells #[.int .i64 (m : Int), .int .i64 (k : Int), .bool wb, .slice (some ⟨ba, oa, none⟩) xs.length ca, .slice (some ⟨bb, ob, none⟩) ys.length cb] 32) #[.slice (some ⟨b0, o0, none⟩) e.length e.length, .slice (some ⟨b1, o1, none⟩) x.length x.length, .slice (some ⟨b2, o2, none⟩) y.length y.length] 29
    replace X := X.alloc (.cells #[.slice (some ⟨b0, o0, none⟩) e.length e.length, .slice (some ⟨b1, o1, none⟩) x.length x.length, .slice (some ⟨b2, o2, none⟩) y.length y.length] 29)
    have R := Blk.new2 w (.cells #[.int .i64 (m : Int), .int .i64 (k : Int), .bool wb, .slice (some ⟨ba, oa, none⟩) xs.length ca, .slice (some ⟨bb, ob, none⟩) ys.length cb] 32) (.cells #[.slice (some ⟨b0, o0, none⟩) e.length e.length, .slice (some ⟨b1, o1, none⟩) x.length x.length, .slice (some ⟨b2, o2, none⟩) y.length y.length] 29) #[.slice none 0 0, .slice none 0 0, .slice none 0 0] 29
    replace X := X.alloc (.cells #[.slice none 0 0, .slice none 0 0, .slice none 0 0] 29)
    replace Y := Y.alloc (.cells #[.slice none 0 0, .slice none 0 0, .slice none 0 0] 29)
    have HB : Hid (Below w.heap.size w (((w.alloc (.cells #[.int .i64 (m : Int), .int .i64 (k : Int), .bool wb, .slice (some ⟨ba, oa, none⟩) xs.length ca, .slice (some ⟨bb, ob, none⟩) ys.length cb] 32)).alloc (.cells #[.slice (some ⟨b0, o0, none⟩) e.length e.length, .slice (some ⟨b1, o1, none⟩) x.length x.length, .slice (some ⟨b2, o2, none⟩) y.length y.length] 29)).alloc (.cells #[.slice none 0 0, .slice none 0 0, .slice none 0 0] 29))) := Lib.hid ((((Below.refl w.heap.size w).alloc (by simp <;> omega) _).alloc (by simp <;> omega) _).alloc (by simp <;> omega) _)
    go_enter Try.func24, Try.ntmps24
    go_wp2_with fail
    generalize (((w.alloc (.cells #[.int .i64 (m : Int), .int .i64 (k : Int), .bool wb, .slice (some ⟨ba, oa, none⟩) xs.length ca, .slice (some ⟨bb, ob, none⟩) ys.length cb] 32)).alloc (.cells #[.slice (some ⟨b0, o0, none⟩) e.length e.length, .slice (some ⟨b1, o1, none⟩) x.length x.length, .slice (some ⟨b2, o2, none⟩) y.length y.length] 29)).alloc (.cells #[.slice none 0 0, .slice none 0 0, .slice none 0 0] 29)) = u1 at *
    obtain ⟨Xc, Xf⟩ := X.open
    obtain ⟨Yc, Yf⟩ := Y.open
    go_wp2_with fail
    refine (implIsField _ _ _ _ _ _ _ _ _ _ _ _ _ _ _ _ _ _ _ (ha.later HB.out) (hb.later HB.out) hx hy (h0.later HB.out) (h1.later HB.out) (h2.later HB.out) m0 m1 m2).mono ?_
    rintro r u2 ⟨rfl, q⟩
    clear Xc Xf
    clear Yc Yf
    replace X := X.later q
    replace Y := Y.later q
    replace R := R.later q
    replace HB := Lib.hid (HB.out.trans (q.mono HB.out.size))
    clear q
    rw [H_fb.out]
    go_wp2_with fail
    refine (implIsRun _ _).mono ?_
    rintro r w5 ⟨rfl, rfl⟩
    rw [HST.out]
    obtain ⟨Rc, Rf⟩ := R.open
    go_wp2
    refine bodyPost_ret (v := .tuple #[.agg #[.slice none 0 0, .slice none 0 0, .slice none 0 0], .bool false]) (by simp [results, Try.results24, go_sem, Rc]) rfl ⟨none, none, none, 0, 0, 0, [], [], [], rfl, GotField.none (((HB.out.setCell (p := ⟨w.heap.size + 1 + 1, 0, none⟩) (by first | omega | (simp <;> omega)) _).setCell (p := ⟨w.heap.size + 1 + 1, 1, none⟩) (by first | omega | (simp <;> omega)) _).setCell (p := ⟨w.heap.size + 1 + 1, 2, none⟩) (by first | omega | (simp <;> omega)) _)⟩
  have HR : Hid (runB (m : Int) (k : Int) wb xs ys e x y steps = true) := Lib.hid (by rw [HRB.out, H_fb.out, hst]; rfl); rw [HR.out]
  have HST := Lib.hid hst; clear hst
  obtain ⟨st0, st1⟩ : 0 ≤ steps ∧ steps ≤ 64 := of_decide_eq_true HST.out
  obtain ⟨N, rfl⟩ := Int.eq_ofNat_of_zero_le st0
  have X := Blk.new w #[.int .i64 (m : Int), .int .i64 (k : Int), .bool wb, .slice (some ⟨ba, oa, none⟩) xs.length ca, .slice (some ⟨bb, ob, none⟩) ys.length cb] 32
  have Y := Blk.new1 w (.cells #[.int .i64 (m : Int), .int .i64 (k : Int), .bool wb, .slice (some ⟨ba, oa, none⟩) xs.length ca, .slice (some ⟨bb, ob, none⟩) ys.length cb] 32) #[.slice (some ⟨b0, o0, none⟩) e.length e.length, .slice (some ⟨b1, o1, none⟩) x.length x.length, .slice (some ⟨b2, o2, none⟩) y.length y.length] 29
  replace X := X.alloc (.cells #[.slice (some ⟨b0, o0, none⟩) e.length e.length, .slice (some ⟨b1, o1, none⟩) x.length x.length, .slice (some ⟨b2, o2, none⟩) y.length y.length] 29)
  have R := Blk.new2 w (.cells #[.int .i64 (m : Int), .int .i64 (k : Int), .bool wb, .slice (some ⟨ba, oa, none⟩) xs.length ca, .slice (some ⟨bb, ob, none⟩) ys.length cb] 32) (.cells #[.slice (some ⟨b0, o0, none⟩) e.length e.length, .slice (some ⟨b1, o1, none⟩) x.length x.length, .slice (some ⟨b2, o2, none⟩) y.length y.length] 29) #[.slice none 0 0, .slice none 0 0, .slice none 0 0] 29
  replace X := X.alloc (.cells #[.slice none 0 0, .slice none 0 0, .slice none 0 0] 29)
  replace Y := Y.alloc (.cells #[.slice none 0 0, .slice none 0 0, .slice none 0 0] 29)
  have HB : Hid (Below w.heap.size w (((w.alloc (.cells #[.int .i64 (m : Int), .int .i64 (k : Int), .bool wb, .slice (some ⟨ba, oa, none⟩) xs.length ca, .slice (some ⟨bb, ob, none⟩) ys.length cb] 32)).alloc (.cells #[.slice (some ⟨b0, o0, none⟩) e.length e.length, .slice (some ⟨b1, o1, none⟩) x.length x.length, .slice (some ⟨b2, o2, none⟩) y.length y.length] 29)).alloc (.cells #[.slice none 0 0, .slice none 0 0, .slice none 0 0] 29))) := Lib.hid ((((Below.refl w.heap.size w).alloc (by simp <;> omega) _).alloc (by simp <;> omega) _).alloc (by simp <;> omega) _)
  go_enter Try.func24, Try.ntmps24
  go_wp2_with fail
  generalize (((w.alloc (.cells #[.int .i64 (m : Int), .int .i64 (k : Int), .bool wb, .slice (some ⟨ba, oa, none⟩) xs.length ca, .slice (some ⟨bb, ob, none⟩) ys.length cb] 32)).alloc (.cells #[.slice (some ⟨b0, o0, none⟩) e.length e.length, .slice (some ⟨b1, o1, none⟩) x.length x.length, .slice (some ⟨b2, o2, none⟩) y.length y.length] 29)).alloc (.cells #[.slice none 0 0, .slice none 0 0, .slice none 0 0] 29)) = u1 at *
  obtain ⟨Xc, Xf⟩ := X.open
  obtain ⟨Yc, Yf⟩ := Y.open
  go_wp2_with fail
  refine (implIsField _ _ _ _ _ _ _ _ _ _ _ _ _ _ _ _ _ _ _ (ha.later HB.out) (hb.later HB.out) hx hy (h0.later HB.out) (h1.later HB.out) (h2.later HB.out) m0 m1 m2).mono ?_
  rintro r u2 ⟨rfl, q⟩
  clear Xc Xf
  clear Yc Yf
  replace X := X.later q
  replace Y := Y.later q
  replace R := R.later q
  replace HB := Lib.hid (HB.out.trans (q.mono HB.out.size))
  clear q
  rw [H_fb.out]
  go_wp2_with fail
  refine (implIsRun _ _).mono ?_
  rintro r w5 ⟨rfl, rfl⟩
  rw [HST.out]
  obtain ⟨Xc, Xf⟩ := X.open
  go_wp2_with fail
  refine (implShapeOf _ _ _ _ _ _ _ _ _ _).mono ?_
  rintro r u3 ⟨rfl, q⟩
  clear Xc Xf
  replace X := X.later q
  replace Y := Y.later q
  replace R := R.later q
  replace HB := Lib.hid (HB.out.trans (q.mono HB.out.size))
  clear q
  have SZZ : w.heap.size + 1 + 1 < u3.heap.size + 0 := Nat.lt_of_lt_of_le R.lt (Nat.le_add_right _ _)
  have Z := Blk.new u3 #[.int .i64 (m : Int), .int .i64 (k : Int), .bool wb] 59
  have q := below_new u3 (.cells #[.int .i64 (m : Int), .int .i64 (k : Int), .bool wb] 59)
  replace X := X.later q
  replace Y := Y.later q
  replace R := R.later q
  replace HB := Lib.hid (HB.out.trans (q.mono HB.out.size))
  clear q
  obtain ⟨Zc, Zf⟩ := Z.open
  obtain ⟨Yc, Yf⟩ := Y.open
  go_wp2_with fail
  generalize (u3.alloc (.cells #[.int .i64 (m : Int), .int .i64 (k : Int), .bool wb] 59)) = u4 at *
  refine (implGridOf m k wb _ _ _ e x y _ (h0.later HB.out) (h1.later HB.out) (h2.later HB.out) (L0.out.trans HN.out) (L1.out.trans HN.out) (L2.out.trans HN.out) s1 s2 s3 s4).mono ?_
  rintro r u5 ⟨cs, rfl, gf, q⟩
  clear Zc Zf
  clear Yc Yf
  replace X := X.later q
  replace Y := Y.later q
  replace R := R.later q
  replace Z := Z.later q
  replace HB := Lib.hid (HB.out.trans (q.mono HB.out.size))
  clear q
  have GS := Lib.hid gf; clear gf
  have HS2 : Hid ((Try.prog.info? 66).map (·.size) = some cs.size) := Lib.hid (by rw [GS.out.1.1]; exact grid_size)
  have HS3 : Hid (zgrid.size = cs.size) := Lib.hid (by rw [GS.out.1.1]; exact Array.size_replicate)
  have NB := Blk.new u5 zgrid 66
  have lx := X.lt; have lz := Z.lt; have lr := R.lt; have szu := HB.out.size
  go_upto_region 5 with (first
    | (refine wpList_alloc_big rfl _ rfl zgrid grid_zero ?_; (try simp only [World.size_alloc]))
    | (refine wpList_store_row rfl _ _ _ rfl u5.heap.size cs rfl rfl 66 zgrid NB HS2.out HS3.out GS.out.1.2 ?_)
    | fail)
  have q : Below u5.heap.size u5 ((u5.alloc (.cells zgrid 66)).setRow u5.heap.size cs) := below_setRow (below_new _ _) (Nat.le_refl _) _
  have G := NB.row cs; clear NB
  replace X := X.later q
  replace Y := Y.later q
  replace R := R.later q
  replace Z := Z.later q
  replace HB := Lib.hid (HB.out.trans (q.mono HB.out.size))
  clear q
  obtain ⟨gb, hgb⟩ : ∃ gb, gb = u5.heap.size := ⟨_, rfl⟩
  have G2 : Blk ((u5.alloc (.cells zgrid 66)).setRow u5.heap.size cs) gb cs 66 := by rw [hgb]; exact G
  clear G; have G := G2; clear G2
  have gx : w.heap.size ≠ gb := by omega
  have gz : u3.heap.size ≠ gb := by omega
  have gr : w.heap.size + 1 + 1 ≠ gb := by omega
  have gl : w.heap.size ≤ gb := by omega
  generalize ((u5.alloc (.cells zgrid 66)).setRow u5.heap.size cs) = u6 at *
  rw [← hgb]; clear hgb
  clear Y
  have A0 : Hid (Ag n (fun i => e.getD i 0) (runT wb m k (nums xs) (nums ys) ⟨nums e, nums x, nums y⟩ 0).e) := Lib.hid (ag_list (lag_self L0.out q0)); have A1 : Hid (Ag n (fun i => x.getD i 0) (runT wb m k (nums xs) (nums ys) ⟨nums e, nums x, nums y⟩ 0).x) := Lib.hid (ag_list (lag_self L1.out q1)); have A2 : Hid (Ag n (fun i => y.getD i 0) (runT wb m k (nums xs) (nums ys) ⟨nums e, nums x, nums y⟩ 0).y) := Lib.hid (ag_list (lag_self L2.out q2))
  have hNi : (N : Int) ≤ 64 := by omega
  go_wp2
  go_loopw [26] (fun iv wr => ∃ (j : Nat) (cc : Array Value) (ea xa ya : Nat → Nat), j ≤ N ∧ iv = .int .i64 j ∧ GF cc m k ea xa ya ∧ Ag n ea (runT wb m k (nums xs) (nums ys) ⟨nums e, nums x, nums y⟩ j).e ∧ Ag n xa (runT wb m k (nums xs) (nums ys) ⟨nums e, nums x, nums y⟩ j).x ∧ Ag n ya (runT wb m k (nums xs) (nums ys) ⟨nums e, nums x, nums y⟩ j).y ∧ Blk wr gb cc 66 ∧ Blk wr w.heap.size #[.int .i64 (m : Int), .int .i64 (k : Int), .bool wb, .slice (some ⟨ba, oa, none⟩) xs.length ca, .slice (some ⟨bb, ob, none⟩) ys.length cb] 32 ∧ Blk wr (u3.heap.size) #[.int .i64 (m : Int), .int .i64 (k : Int), .bool wb] 59 ∧ Blk wr (w.heap.size + 1 + 1) #[.slice none 0 0, .slice none 0 0, .slice none 0 0] 29 ∧ Below w.heap.size w wr) (fun iv _ => N - (intOf iv).toNat)
  case atStart => exact ⟨0, cs, _, _, _, Nat.zero_le _, rfl, GS.out, A0.out, A1.out, A2.out, G, X, Z, R, HB.out⟩
  clear GS A0 A1 A2 G X Z R HB HS2 HS3
  obtain ⟨j, cc, ea, xa, ya, hj, rfl, gs, a0, a1, a2, G, X, Z, R, hb_⟩ := hrel
  have GS := Lib.hid gs; have A0 := Lib.hid a0; have A1 := Lib.hid a1; have A2 := Lib.hid a2; have HB := Lib.hid hb_; clear gs a0 a1 a2 hb_
  have HS2 : Hid ((Try.prog.info? 66).map (·.size) = some cc.size) := Lib.hid (by rw [GS.out.1.1]; exact grid_size)
  by_cases hlt : j < N
  · skip
    have hji : (j : Int) < (N : Int) := by omega
    obtain ⟨Xc, Xf⟩ := X.open
    go_wp2_with (first | (refine wpList_load_row rfl _ _ rfl _ rfl 66 cc (0, 0) _ G Try.underlying66 rfl HS2.out ?_) | fail)
    refine (implStepped m k n wb _ _ ca cb xs ys cc ea xa ya _ _ _ wr (ha.later HB.out) (hb.later HB.out) LA.out LB.out GS.out A0.out A1.out A2.out s1 s2 s3 s4 HN).mono ?_
    rintro r v1 ⟨c2, e2, x2, y2, rfl, g2, b0, b1, b2, q⟩
    clear Xc Xf
    replace G := G.later q; replace X := X.later q; replace Z := Z.later q; replace R := R.later q
    replace HB := Lib.hid (HB.out.trans (q.mono HB.out.size)); clear q
    have HSA : Hid ((Try.prog.info? 66).map (·.size) = some c2.size) := Lib.hid (by rw [g2.1.1]; exact grid_size)
    have HSB : Hid (cc.size = c2.size) := Lib.hid (by rw [GS.out.1.1, g2.1.1])
    replace GS := Lib.hid g2; replace A0 := Lib.hid b0; replace A1 := Lib.hid b1; replace A2 := Lib.hid b2; clear g2 b0 b1 b2
    go_upto_region 8 with (first | (refine wpList_store_row rfl _ _ _ rfl _ c2 rfl rfl 66 cc G HSA.out HSB.out GS.out.1.2 ?_) | fail)
    replace G := G.row c2; replace X := X.rowOther gx c2; replace Z := Z.rowOther gz c2; replace R := R.rowOther gr c2
    replace HB := Lib.hid (below_setRow HB.out gl c2)
    generalize (v1.setRow gb c2) = v2 at *
    go_wp2
    go_roundw
    case rel => exact ⟨j + 1, c2, e2, x2, y2, by omega, by go_num, GS.out, A0.out, A1.out, A2.out, G, X, Z, R, HB.out⟩
    case measure => simp [intOf]; omega
  · skip
    obtain rfl : j = N := by omega
    obtain ⟨Zc, Zf⟩ := Z.open
    go_wp2_with (first | (refine wpList_load_row rfl _ _ rfl _ rfl 66 cc (0, 0) _ G Try.underlying66 rfl HS2.out ?_) | fail)
    refine (implFieldOf m k n wb cc _ _ _ _ GS.out s1 s2 s3 s4 HN).mono ?_
    rintro r u7 ⟨g0, g1, g2, k0, k1, k2, rfl, nf⟩
    have HNF := Lib.hid nf
    have szb := HB.out.size; have rlt := R.lt
    have zb0 := nf.o0.bound g0 rfl; have zb1 := nf.o1.bound g1 rfl; have zb2 := nf.o2.bound g2 rfl
    have z0 := nf.o0; have z1 := nf.o1; have z2 := nf.o2; have q := nf.below; clear nf
    clear Zc Zf
    replace R := R.later q
    replace X := X.later q
    replace Z := Z.later q
    replace G := G.later q
    replace HB := Lib.hid (HB.out.trans (q.mono HB.out.size))
    clear q
    obtain ⟨Rc, Rf⟩ := R.open
    go_wp2
    refine bodyPost_ret (v := .tuple #[.agg #[.slice (some ⟨g0, 0, none⟩) n k0, .slice (some ⟨g1, 0, none⟩) n k1, .slice (some ⟨g2, 0, none⟩) n k2], .bool true]) (by simp [results, Try.results24, go_sem, Rc]) rfl ⟨some ⟨g0, 0, none⟩, some ⟨g1, 0, none⟩, some ⟨g2, 0, none⟩, k0, k1, k2, _, _, _, by rw [firsts_length, firsts_length, firsts_length], got_run (t := runL (m : Int) (k : Int) wb xs ys e x y (j : Int)) HN n256 A0.out A1.out A2.out ((((z0.lower (show w.heap.size ≤ _ by omega)).set (p := ⟨w.heap.size + 1 + 1, 0, none⟩) (ne_block (h := w.heap.size + 1 + 1) (by omega)) _).set (p := ⟨w.heap.size + 1 + 1, 1, none⟩) (ne_block (h := w.heap.size + 1 + 1) (by omega)) _).set (p := ⟨w.heap.size + 1 + 1, 2, none⟩) (ne_block (h := w.heap.size + 1 + 1) (by omega)) _) ((((z1.lower (show w.heap.size ≤ _ by omega)).set (p := ⟨w.heap.size + 1 + 1, 0, none⟩) (ne_block (h := w.heap.size + 1 + 1) (by omega)) _).set (p := ⟨w.heap.size + 1 + 1, 1, none⟩) (ne_block (h := w.heap.size + 1 + 1) (by omega)) _).set (p := ⟨w.heap.size + 1 + 1, 2, none⟩) (ne_block (h := w.heap.size + 1 + 1) (by omega)) _) ((((z2.lower (show w.heap.size ≤ _ by omega)).set (p := ⟨w.heap.size + 1 + 1, 0, none⟩) (ne_block (h := w.heap.size + 1 + 1) (by omega)) _).set (p := ⟨w.heap.size + 1 + 1, 1, none⟩) (ne_block (h := w.heap.size + 1 + 1) (by omega)) _).set (p := ⟨w.heap.size + 1 + 1, 2, none⟩) (ne_block (h := w.heap.size + 1 + 1) (by omega)) _) HNF.out.p01 HNF.out.p02 HNF.out.p12 (((HB.out.setCell (p := ⟨w.heap.size + 1 + 1, 0, none⟩) (by first | omega | (simp <;> omega)) _).setCell (p := ⟨w.heap.size + 1 + 1, 1, none⟩) (by first | omega | (simp <;> omega)) _).setCell (p := ⟨w.heap.size + 1 + 1, 2, none⟩) (by first | omega | (simp <;> omega)) _)⟩

set_option maxHeartbeats 16000000 in
set_option maxRecDepth 100000 in
theorem implStepFieldL (wd hi : Int) (wb : Bool) (a b : Option Addr) (ca cb : Nat) (xs ys : List Nat) (a0 a1 a2 : Option Addr) (c0 c1 c2 : Nat) (e x y : List Nat) (w : World) (ha : RowV w a (fvals xs)) (hb : RowV w b (fvals ys)) (qa : ∀ z ∈ xs, z < 2 ^ 32) (qb : ∀ z ∈ ys, z < 2 ^ 32) (hx : xs.length ≤ maxLen) (hy : ys.length ≤ maxLen) (h0 : RowV w a0 (fvals e)) (h1 : RowV w a1 (fvals x)) (h2 : RowV w a2 (fvals y)) (q0 : ∀ z ∈ e, z < 2 ^ 32) (q1 : ∀ z ∈ x, z < 2 ^ 32) (q2 : ∀ z ∈ y, z < 2 ^ 32) (m0 : e.length ≤ maxLen) (m1 : x.length ≤ maxLen) (m2 : y.length ≤ maxLen) (hc0 : c0 = e.length := by rfl) (hc1 : c1 = x.length := by rfl) (hc2 : c2 = y.length := by rfl) :
    Calls Try.prog 22 #[.agg #[.int .i64 wd, .int .i64 hi, .bool wb, .slice a xs.length ca, .slice b ys.length cb], .agg #[.slice a0 e.length c0, .slice a1 x.length c1, .slice a2 y.length c2]] w (GaveO w (fieldB wd hi wb xs ys e x y) (oL wd hi (runL wd hi wb xs ys e x y 1).e) (oL wd hi (runL wd hi wb xs ys e x y 1).x) (oL wd hi (runL wd hi wb xs ys e x y 1).y)) := by
  subst hc0; subst hc1; subst hc2
  have HB1 : Hid (runB wd hi wb xs ys e x y 1 = fieldB wd hi wb xs ys e x y) := Lib.hid (by unfold runB; rw [show isRunB 1 = true from rfl, Bool.and_true])
  have X := Blk.new w #[.int .i64 wd, .int .i64 hi, .bool wb, .slice a xs.length ca, .slice b ys.length cb] 32
  have Y := Blk.new1 w (.cells #[.int .i64 wd, .int .i64 hi, .bool wb, .slice a xs.length ca, .slice b ys.length cb] 32) #[.slice a0 e.length e.length, .slice a1 x.length x.length, .slice a2 y.length y.length] 29
  replace X := X.alloc (.cells #[.slice a0 e.length e.length, .slice a1 x.length x.length, .slice a2 y.length y.length] 29)
  have R := Blk.new2 w (.cells #[.int .i64 wd, .int .i64 hi, .bool wb, .slice a xs.length ca, .slice b ys.length cb] 32) (.cells #[.slice a0 e.length e.length, .slice a1 x.length x.length, .slice a2 y.length y.length] 29) #[.slice none 0 0, .slice none 0 0, .slice none 0 0] 29
  replace X := X.alloc (.cells #[.slice none 0 0, .slice none 0 0, .slice none 0 0] 29)
  replace Y := Y.alloc (.cells #[.slice none 0 0, .slice none 0 0, .slice none 0 0] 29)
  have HB : Hid (Below w.heap.size w (((w.alloc (.cells #[.int .i64 wd, .int .i64 hi, .bool wb, .slice a xs.length ca, .slice b ys.length cb] 32)).alloc (.cells #[.slice a0 e.length e.length, .slice a1 x.length x.length, .slice a2 y.length y.length] 29)).alloc (.cells #[.slice none 0 0, .slice none 0 0, .slice none 0 0] 29))) := Lib.hid ((((Below.refl w.heap.size w).alloc (by simp <;> omega) _).alloc (by simp <;> omega) _).alloc (by simp <;> omega) _)
  go_enter Try.func22, Try.ntmps22
  go_wp2_with fail
  generalize (((w.alloc (.cells #[.int .i64 wd, .int .i64 hi, .bool wb, .slice a xs.length ca, .slice b ys.length cb] 32)).alloc (.cells #[.slice a0 e.length e.length, .slice a1 x.length x.length, .slice a2 y.length y.length] 29)).alloc (.cells #[.slice none 0 0, .slice none 0 0, .slice none 0 0] 29)) = u1 at *
  obtain ⟨Xc, Xf⟩ := X.open
  obtain ⟨Yc, Yf⟩ := Y.open
  go_wp2_with fail
  refine (implRunFieldL _ _ _ _ _ _ _ _ _ _ _ _ _ _ _ _ _ _ 1 _ (ha.later HB.out) (hb.later HB.out) qa qb hx hy (h0.later HB.out) (h1.later HB.out) (h2.later HB.out) q0 q1 q2 m0 m1 m2 (by decide)).mono ?_
  rintro r u2 ⟨p0, p1, p2, d0, d1, d2, z0, z1, z2, rfl, got⟩
  rw [HB1.out] at got ⊢
  have HG := Lib.hid got; clear got
  have q := HG.out.below
  have szb := HB.out.size; have rlt := R.lt
  clear Xc Xf
  clear Yc Yf
  replace X := X.later q
  replace Y := Y.later q
  replace R := R.later q
  replace HB := Lib.hid (HB.out.trans (q.mono HB.out.size))
  clear q
  obtain ⟨Rc, Rf⟩ := R.open
  go_wp2
  have hp : ∀ a vs, OwnV u2 u1.heap.size a vs → ∀ x, a = some x → x.block ≠ w.heap.size + 1 + 1 := fun a vs h x hx => by have := h.bound x.block (by rw [hx]; rfl); omega
  refine bodyPost_ret (v := .tuple #[.agg #[.slice p0 z0.length d0, .slice p1 z1.length d1, .slice p2 z2.length d2], .bool (fieldB wd hi wb xs ys e x y)]) (by simp [results, Try.results22, go_sem, Rc]) rfl ⟨p0, p1, p2, d0, d1, d2, z0, z1, z2, rfl, ⟨((((OwnV.lower (HG.out.o0) (show w.heap.size ≤ _ by omega)).set (p := ⟨w.heap.size + 1 + 1, 0, none⟩) (hp _ _ (HG.out.o0)) _).set (p := ⟨w.heap.size + 1 + 1, 1, none⟩) (hp _ _ (HG.out.o0)) _).set (p := ⟨w.heap.size + 1 + 1, 2, none⟩) (hp _ _ (HG.out.o0)) _), ((((OwnV.lower (HG.out.o1) (show w.heap.size ≤ _ by omega)).set (p := ⟨w.heap.size + 1 + 1, 0, none⟩) (hp _ _ (HG.out.o1)) _).set (p := ⟨w.heap.size + 1 + 1, 1, none⟩) (hp _ _ (HG.out.o1)) _).set (p := ⟨w.heap.size + 1 + 1, 2, none⟩) (hp _ _ (HG.out.o1)) _), ((((OwnV.lower (HG.out.o2) (show w.heap.size ≤ _ by omega)).set (p := ⟨w.heap.size + 1 + 1, 0, none⟩) (hp _ _ (HG.out.o2)) _).set (p := ⟨w.heap.size + 1 + 1, 1, none⟩) (hp _ _ (HG.out.o2)) _).set (p := ⟨w.heap.size + 1 + 1, 2, none⟩) (hp _ _ (HG.out.o2)) _), HG.out.p01, HG.out.p02, HG.out.p12, HG.out.s0, HG.out.s1, HG.out.s2, (((HB.out.setCell (p := ⟨w.heap.size + 1 + 1, 0, none⟩) (by first | omega | (simp <;> omega)) _).setCell (p := ⟨w.heap.size + 1 + 1, 1, none⟩) (by first | omega | (simp <;> omega)) _).setCell (p := ⟨w.heap.size + 1 + 1, 2, none⟩) (by first | omega | (simp <;> omega)) _)⟩⟩

end Go.Proofs.Ytedfbaeajofmnab

end
